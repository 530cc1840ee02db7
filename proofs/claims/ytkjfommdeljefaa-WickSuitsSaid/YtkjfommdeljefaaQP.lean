/- wick.Sizes: contract. -/
import Derived.Test.YtkjfommdeljefaaQO
import Derived.Test.YtkjfommdeljefaaQz
namespace Go.Proofs.Ytkjfommdeljefaa
open Go.RowKit Go.Shelf Go.Maps
attribute [local go_sem] Oper.semAt_some


/-- The diameters with which a wick suits. -/
def sizesV (s : Sh) (k : Wk) (x : Wx) (c : Cd) : Int × Int := if (canF s 1 k x c c.dia || canF s 2 k x c c.dia) = true then (1, 0) else (1 + ((splitAt fun i : Nat => !canF s 4 k x c ((i : Int) + 1)) : Int), ((splitAt fun i : Nat => canF s 3 k x c ((i : Int) + 1)) : Int))
def SzP (w : World) (p : Sp) (c : Cd) (q : Int) (W : World) : Prop := Bx w [(w.heap.size + 1 + 1, 25, #[.int .i64 0, .int .i64 0]), (w.heap.size + 1, 3, #[.int .i64 q]), (w.heap.size, 93, #[.slice p.ka p.s.ks.length p.kc, .slice p.xa p.s.xs.length p.xc, .int .i64 p.s.flo, .int .i64 p.s.fhi, .int .i64 p.s.plo, .int .i64 p.s.phi, .int .i64 c.wax, .int .i64 c.dia, .int .i64 c.dra, .int .i64 c.clo, .int .i64 c.chi])] W
set_option maxRecDepth 100000 in
set_option maxHeartbeats 2000000 in
theorem vsizes_any {w : World} {p : Sp} {c : Cd} {q : Int} {k : Wk} {x : Wx} (h : ShIn w p) (ha : Ask p.s q c k x) :
    Calls Try.prog 64 #[.agg #[.slice p.ka p.s.ks.length p.kc, .slice p.xa p.s.xs.length p.xc, .int .i64 p.s.flo, .int .i64 p.s.fhi, .int .i64 p.s.plo, .int .i64 p.s.phi, .int .i64 c.wax, .int .i64 c.dia, .int .i64 c.dra, .int .i64 c.clo, .int .i64 c.chi], .int .i64 q] w fun e w' => e = .returned (.agg #[.int .i64 (sizesV p.s k x c).1, .int .i64 (sizesV p.s k x c).2]) ∧ Below w.heap.size w w' := by
  have hb0 := (((Bx.nil w).alloc #[.slice p.ka p.s.ks.length p.kc, .slice p.xa p.s.xs.length p.xc, .int .i64 p.s.flo, .int .i64 p.s.fhi, .int .i64 p.s.plo, .int .i64 p.s.phi, .int .i64 c.wax, .int .i64 c.dia, .int .i64 c.dra, .int .i64 c.clo, .int .i64 c.chi] 93).alloc #[.int .i64 q] 3).alloc #[.int .i64 0, .int .i64 0] 25
  simp only [World.size_alloc] at hb0
  have HB : Hid (Bx w _ _) := Lib.hid hb0
  have HH := Lib.hid h
  have HA := Lib.hid ha
  have hcan : ∀ (n : Int), n = 1 ∨ n = 2 ∨ n = 3 ∨ n = 4 → ∀ (W : World) (Q : Nat), SzP w p c q W → Blk W Q 93 #[.slice p.ka p.s.ks.length p.kc, .slice p.xa p.s.xs.length p.xc, .int .i64 p.s.flo, .int .i64 p.s.fhi, .int .i64 p.s.plo, .int .i64 p.s.phi, .int .i64 c.wax, .int .i64 c.dia, .int .i64 c.dra, .int .i64 c.clo, .int .i64 c.chi] → Calls Try.prog 86 #[.agg #[.slice p.ka p.s.ks.length p.kc, .slice p.xa p.s.xs.length p.xc, .int .i64 p.s.flo, .int .i64 p.s.fhi, .int .i64 p.s.plo, .int .i64 p.s.phi, .int .i64 c.wax, .int .i64 c.dia, .int .i64 c.dra, .int .i64 c.clo, .int .i64 c.chi], .agg #[.int .i64 n, .func (.func (fF n)) #[] #[.pointer (some ⟨Q, 0, none⟩)]], .int .i64 q, .int .i64 c.dia] W fun e w' => e = .returned (.bool (canF p.s n k x c c.dia)) ∧ Below W.heap.size W w' := fun n hn W Q hS hQ => can_any hn (HH.out.on hS.b) HA.out hQ ha.cd.dia
  have HC1 : Hid (∀ (W : World) (Q : Nat), SzP w p c q W → Blk W Q 93 #[.slice p.ka p.s.ks.length p.kc, .slice p.xa p.s.xs.length p.xc, .int .i64 p.s.flo, .int .i64 p.s.fhi, .int .i64 p.s.plo, .int .i64 p.s.phi, .int .i64 c.wax, .int .i64 c.dia, .int .i64 c.dra, .int .i64 c.clo, .int .i64 c.chi] → _) := Lib.hid (hcan 1 (by simp))
  have HC2 : Hid (∀ (W : World) (Q : Nat), SzP w p c q W → Blk W Q 93 #[.slice p.ka p.s.ks.length p.kc, .slice p.xa p.s.xs.length p.xc, .int .i64 p.s.flo, .int .i64 p.s.fhi, .int .i64 p.s.plo, .int .i64 p.s.phi, .int .i64 c.wax, .int .i64 c.dia, .int .i64 c.dra, .int .i64 c.clo, .int .i64 c.chi] → _) := Lib.hid (hcan 2 (by simp))
  have HE : Hid (sizesV p.s k x c = if (canF p.s 1 k x c c.dia || canF p.s 2 k x c c.dia) = true then (1, 0) else (1 + ((splitAt fun i : Nat => !canF p.s 4 k x c ((i : Int) + 1)) : Int), ((splitAt fun i : Nat => canF p.s 3 k x c ((i : Int) + 1)) : Int))) := rfl
  have HF1 : Hid (∀ W, SzP w p c q W → Calls Try.prog 91 #[.func (.func 92) #[] #[.pointer (some ⟨w.heap.size, 0, none⟩), .pointer (some ⟨w.heap.size + 1, 0, none⟩)]] W fun e w' => e = .returned (.int .i64 (1 + ((splitAt fun i : Nat => !canF p.s 4 k x c ((i : Int) + 1)) : Int))) ∧ Below W.heap.size W w') := Lib.hid (fun (W : World) (hS : SzP w p c q W) => first_any (w := W) (F := 92) (V := w.heap.size) (I := w.heap.size + 1) (g := fun d => !canF p.s 4 k x c d) (enters_of Try.func92 (by kernel_rfl) rfl) (fun i j hij h => by
    have h1 : canF p.s 4 k x c i = false := by simpa using h
    rw [canF_runs (by have := ha.sh.po; omega) hij h1]; rfl) (fun W' hb d hd => sizes1_any ((HH.out.on hS.b).on hb) HA.out ((hS.get (by simp)).on hb) ((hS.get (by simp)).on hb) hd))
  have HF2 : Hid (∀ W, SzP w p c q W → Calls Try.prog 91 #[.func (.func 93) #[] #[.pointer (some ⟨w.heap.size, 0, none⟩), .pointer (some ⟨w.heap.size + 1, 0, none⟩)]] W fun e w' => e = .returned (.int .i64 (1 + ((splitAt fun i : Nat => canF p.s 3 k x c ((i : Int) + 1)) : Int))) ∧ Below W.heap.size W w') := Lib.hid (fun (W : World) (hS : SzP w p c q W) => first_any (w := W) (F := 93) (V := w.heap.size) (I := w.heap.size + 1) (g := fun d => canF p.s 3 k x c d) (enters_of Try.func93 (by kernel_rfl) rfl) (fun i j hij h => canF_tunnels (by have := ha.sh.po; omega) hij h) (fun W' hb d hd => sizes2_any ((HH.out.on hS.b).on hb) HA.out ((hS.get (by simp)).on hb) ((hS.get (by simp)).on hb) hd))
  have hn1 := splitAt_le (fun i : Nat => canF p.s 3 k x c ((i : Int) + 1))
  clear h hb0 ha hcan
  generalize canF p.s 1 k x c c.dia = z1 at *
  generalize canF p.s 2 k x c c.dia = z2 at *
  generalize (splitAt fun i : Nat => !canF p.s 4 k x c ((i : Int) + 1)) = n4 at *
  generalize (splitAt fun i : Nat => canF p.s 3 k x c ((i : Int) + 1)) = n3 at *
  have hw1 : IntKind.i64.wrap (1 + (n3 : Int) - 1) = (n3 : Int) := by rw [IntWalk.i64_in _ (by omega)]; omega
  cases z1 with
  | true =>
    go_enter Try.func64, Try.ntmps64
    go_wp2_with fail
    refine wp_of_eq (szh_region (S := SzP w p c q) (fun _ _ h hb => Bx.on h hb) (P := w.heap.size) (I := w.heap.size + 1) (p := p) (c := c) (q := q) (z := true) (fun W h => Bx.get h (by simp)) (fun W h => Bx.get h (by simp)) HC1 HB (Lib.hid fun u W hS => ?_)) (by kernel_rfl)
    have HS := Lib.hid hS
    have hb : Blk W (w.heap.size + 1 + 1) 25 #[.int .i64 0, .int .i64 0] := Bx.get hS (by simp)
    have r0 := hb.cell 0; have r1 := hb.cell 1; have r2 := hb.frozen 0; have r3 := hb.frozen 1; have r4 := hb.lt
    clear hS hb
    go_wp2_with fail
    refine bodyPost_ret (v := .agg #[.int .i64 1, .int .i64 0]) ?_ rfl ⟨by rw [HE.out]; rfl, ?_⟩
    · simp [results, Try.results64, go_sem, *]
    · have HSb := Bx.b HS.out
      repeat (first | (with_reducible exact HSb) | with_reducible refine Below.setCell ?_ (by simp; try omega) _)
  | false =>
    cases z2 with
    | true =>
      go_enter Try.func64, Try.ntmps64
      go_wp2_with fail
      refine wp_of_eq (szn_region (S := SzP w p c q) (fun _ _ h hb => Bx.on h hb) (P := w.heap.size) (I := w.heap.size + 1) (p := p) (c := c) (q := q) (z := true) (fun W h => Bx.get h (by simp)) (fun W h => Bx.get h (by simp)) HC1 HC2 HB (Lib.hid fun u W hS => ?_)) (by kernel_rfl)
      have HS := Lib.hid hS
      have hb : Blk W (w.heap.size + 1 + 1) 25 #[.int .i64 0, .int .i64 0] := Bx.get hS (by simp)
      have r0 := hb.cell 0; have r1 := hb.cell 1; have r2 := hb.frozen 0; have r3 := hb.frozen 1; have r4 := hb.lt
      clear hS hb
      go_wp2_with fail
      refine bodyPost_ret (v := .agg #[.int .i64 1, .int .i64 0]) ?_ rfl ⟨by rw [HE.out]; rfl, ?_⟩
      · simp [results, Try.results64, go_sem, *]
      · have HSb := Bx.b HS.out
        repeat (first | (with_reducible exact HSb) | with_reducible refine Below.setCell ?_ (by simp; try omega) _)
    | false =>
      go_enter Try.func64, Try.ntmps64
      go_wp2_with fail
      refine wp_of_eq (szn_region (S := SzP w p c q) (fun _ _ h hb => Bx.on h hb) (P := w.heap.size) (I := w.heap.size + 1) (p := p) (c := c) (q := q) (z := false) (fun W h => Bx.get h (by simp)) (fun W h => Bx.get h (by simp)) HC1 HC2 HB (Lib.hid fun u W hS => ?_)) (by kernel_rfl)
      have HS := Lib.hid hS
      clear hS
      go_wp2_with (first
        | ((with_reducible refine (HF1.out _ HS.out).mono ?_); rintro e w1 ⟨rfl, hb⟩; have HT : Hid (SzP w p c q w1) := Bx.on HS.out hb; clear hb)
        | ((with_reducible refine (HF2.out _ HT.out).mono ?_); rintro e w2 ⟨rfl, hb⟩; have HU : Hid (SzP w p c q w2) := Bx.on HT.out hb; clear hb; have hbk : Blk w2 (w.heap.size + 1 + 1) 25 #[.int .i64 0, .int .i64 0] := Bx.get HU.out (by simp); have r0 := hbk.cell 0; have r1 := hbk.cell 1; have r2 := hbk.frozen 0; have r3 := hbk.frozen 1; have r4 := hbk.lt; clear hbk)
        | fail)
      refine bodyPost_ret (v := .agg #[.int .i64 (1 + (n4 : Int)), .int .i64 (n3 : Int)]) ?_ rfl ⟨by rw [HE.out]; rfl, ?_⟩
      · simp [results, Try.results64, go_sem, *]
      · have HSb := Bx.b HU.out
        repeat (first | (with_reducible exact HSb) | with_reducible refine Below.setCell ?_ (by simp; try omega) _)
theorem pempty_any (a b : Int) (w : World) : Calls Try.prog 65 #[.agg #[.int .i64 a, .int .i64 b]] w fun e w' => e = .returned (.bool (decide (b < a))) ∧ Below w.heap.size w w' := empty_any w a b


/-- What Sizes returns: the range, and its error. -/
def sizesO (x : Int × Int) : (Int × Int) × Int := if x.2 < x.1 then ((0, 0), 9) else (x, 0)
set_option maxRecDepth 100000 in
set_option maxHeartbeats 2000000 in
theorem psizes_err {w : World} {p : Sp} {c : Cd} {q : Int} (h : ShIn w p) (he : askE p.s q c ≠ 0) :
    Calls Try.prog 30 #[.agg #[.slice p.ka p.s.ks.length p.kc, .slice p.xa p.s.xs.length p.xc, .int .i64 p.s.flo, .int .i64 p.s.fhi, .int .i64 p.s.plo, .int .i64 p.s.phi], .int .i64 q, .agg #[.int .i64 c.wax, .int .i64 c.dia, .int .i64 c.dra, .int .i64 c.clo, .int .i64 c.chi]] w fun e w' => e = .returned (.tuple #[.agg #[.int .i64 0, .int .i64 0], .int .i64 (askE p.s q c)]) ∧ Below w.heap.size w w' := by
  have hb0 := (((Bx.nil w).alloc #[.slice p.ka p.s.ks.length p.kc, .slice p.xa p.s.xs.length p.xc, .int .i64 p.s.flo, .int .i64 p.s.fhi, .int .i64 p.s.plo, .int .i64 p.s.phi] 27).alloc #[.int .i64 c.wax, .int .i64 c.dia, .int .i64 c.dra, .int .i64 c.clo, .int .i64 c.chi] 34).alloc #[.int .i64 0, .int .i64 0] 25
  simp only [World.size_alloc] at hb0
  have HB : Hid (Bx w _ _) := Lib.hid hb0
  have HA := Lib.hid (askE_any (k := q) (c := c) (h.on HB.out.b))
  have hz : (askE p.s q c != 0) = true := by simpa using he
  clear h hb0
  generalize askE p.s q c = z at *
  go_enter Try.func30, Try.ntmps30
  go_wp2_with (refine HA.out.mono ?_; rintro e w1 ⟨rfl, hb⟩; have HC := Lib.hid (HB.out.on hb); clear hb; have rb : Blk _ (w.heap.size + 1 + 1) 25 #[.int .i64 0, .int .i64 0] := HC.out.get (by simp); have r0 := rb.cell 0; have r1 := rb.cell 1; have rl := rb.lt; have rf0 := rb.frozen 0; have rf1 := rb.frozen 1; clear rb)
  refine bodyPost_ret (v := .tuple #[.agg #[.int .i64 0, .int .i64 0], .int .i64 z]) ?_ rfl ⟨rfl, ?_⟩
  · simp [results, Try.results30, go_sem, *]
  · repeat (first | (with_reducible exact HC.out.b) | with_reducible refine Below.setCell ?_ (by simp; try omega) _)
set_option maxRecDepth 100000 in
set_option maxHeartbeats 4000000 in
theorem psizes_ok {w : World} {p : Sp} {c : Cd} {q : Int} {k : Wk} {x : Wx} (h : ShIn w p) (ha : Ask p.s q c k x) (hs : askE p.s q c = 0) :
    Calls Try.prog 30 #[.agg #[.slice p.ka p.s.ks.length p.kc, .slice p.xa p.s.xs.length p.xc, .int .i64 p.s.flo, .int .i64 p.s.fhi, .int .i64 p.s.plo, .int .i64 p.s.phi], .int .i64 q, .agg #[.int .i64 c.wax, .int .i64 c.dia, .int .i64 c.dra, .int .i64 c.clo, .int .i64 c.chi]] w fun e w' => e = .returned (.tuple #[.agg #[.int .i64 (sizesO (sizesV p.s k x c)).1.1, .int .i64 (sizesO (sizesV p.s k x c)).1.2], .int .i64 (sizesO (sizesV p.s k x c)).2]) ∧ Below w.heap.size w w' := by
  have hb0 := (((Bx.nil w).alloc #[.slice p.ka p.s.ks.length p.kc, .slice p.xa p.s.xs.length p.xc, .int .i64 p.s.flo, .int .i64 p.s.fhi, .int .i64 p.s.plo, .int .i64 p.s.phi] 27).alloc #[.int .i64 c.wax, .int .i64 c.dia, .int .i64 c.dra, .int .i64 c.clo, .int .i64 c.chi] 34).alloc #[.int .i64 0, .int .i64 0] 25
  simp only [World.size_alloc] at hb0
  have HB : Hid (Bx w _ _) := Lib.hid hb0
  have HA := Lib.hid (askE_any (k := q) (c := c) (h.on HB.out.b))
  rw [hs] at HA
  have HU := Lib.hid (fun (W : World) (hb : Below w.heap.size w W) => vsizes_any (h.on hb) ha)
  clear h hb0 ha hs
  obtain ⟨a, ha⟩ : ∃ a, (sizesV p.s k x c).1 = a := ⟨_, rfl⟩
  obtain ⟨b, hb'⟩ : ∃ b, (sizesV p.s k x c).2 = b := ⟨_, rfl⟩
  have HE : Hid (sizesV p.s k x c = (a, b)) := by show _ = _; rw [← ha, ← hb']
  rw [ha, hb'] at HU
  have HM := Lib.hid (fun (W : World) => pempty_any a b W)
  clear ha hb'
  by_cases hlt : b < a
  · have HO := Lib.hid (show sizesO (sizesV p.s k x c) = ((0, 0), 9) by rw [HE.out]; exact if_pos hlt)
    rw [decide_eq_true hlt] at HM
    go_enter Try.func30, Try.ntmps30
    go_wp2_with (first
      | (go_at_call 49; refine HA.out.mono ?_; rintro e w1 ⟨rfl, hb⟩; have HC := Lib.hid (HB.out.on hb); clear hb; have sb : Blk _ (w.heap.size) 27 #[.slice p.ka p.s.ks.length p.kc, .slice p.xa p.s.xs.length p.xc, .int .i64 p.s.flo, .int .i64 p.s.fhi, .int .i64 p.s.plo, .int .i64 p.s.phi] := HC.out.get (by simp); have s0 := sb.cell 0; have s1 := sb.cell 1; have s2 := sb.cell 2; have s3 := sb.cell 3; have s4 := sb.cell 4; have s5 := sb.cell 5; have sl := sb.lt; clear sb; have cb : Blk _ (w.heap.size + 1) 34 #[.int .i64 c.wax, .int .i64 c.dia, .int .i64 c.dra, .int .i64 c.clo, .int .i64 c.chi] := HC.out.get (by simp); have c0 := cb.cell 0; have c1 := cb.cell 1; have c2 := cb.cell 2; have c3 := cb.cell 3; have c4 := cb.cell 4; have cl := cb.lt; clear cb)
      | (go_at_call 64; refine (HU.out _ (HC.out.b.alloc HC.out.b.size _)).mono ?_; rintro e w2 ⟨rfl, hb⟩; have HD := Lib.hid ((HC.out.alloc_ #[.slice p.ka p.s.ks.length p.kc, .slice p.xa p.s.xs.length p.xc, .int .i64 p.s.flo, .int .i64 p.s.fhi, .int .i64 p.s.plo, .int .i64 p.s.phi, .int .i64 c.wax, .int .i64 c.dia, .int .i64 c.dra, .int .i64 c.clo, .int .i64 c.chi] 93).on hb); clear hb s0 s1 s2 s3 s4 s5 sl c0 c1 c2 c3 c4 cl)
      | (go_at_call 65; refine (HM.out _).mono ?_; rintro e w3 ⟨rfl, hb⟩; have HF := Lib.hid ((HD.out.alloc_ #[.int .i64 a, .int .i64 b] 25).on hb); clear hb; have rb : Blk _ (w.heap.size + 1 + 1) 25 #[.int .i64 0, .int .i64 0] := HF.out.get (by simp); have r0 := rb.cell 0; have r1 := rb.cell 1; have rl := rb.lt; have rf0 := rb.frozen 0; have rf1 := rb.frozen 1; clear rb)
      | fail)
    refine bodyPost_ret (v := .tuple #[.agg #[.int .i64 0, .int .i64 0], .int .i64 9]) ?_ rfl ⟨by rw [HO.out], ?_⟩
    · simp [results, Try.results30, go_sem, *]
    · repeat (first | (with_reducible exact HF.out.b) | with_reducible refine Below.setCell ?_ (by simp; try omega) _)
  · have HO := Lib.hid (show sizesO (sizesV p.s k x c) = ((a, b), 0) by rw [HE.out]; exact if_neg hlt)
    rw [decide_eq_false hlt] at HM
    go_enter Try.func30, Try.ntmps30
    go_wp2_with (first
      | (go_at_call 49; refine HA.out.mono ?_; rintro e w1 ⟨rfl, hb⟩; have HC := Lib.hid (HB.out.on hb); clear hb; have sb : Blk _ (w.heap.size) 27 #[.slice p.ka p.s.ks.length p.kc, .slice p.xa p.s.xs.length p.xc, .int .i64 p.s.flo, .int .i64 p.s.fhi, .int .i64 p.s.plo, .int .i64 p.s.phi] := HC.out.get (by simp); have s0 := sb.cell 0; have s1 := sb.cell 1; have s2 := sb.cell 2; have s3 := sb.cell 3; have s4 := sb.cell 4; have s5 := sb.cell 5; have sl := sb.lt; clear sb; have cb : Blk _ (w.heap.size + 1) 34 #[.int .i64 c.wax, .int .i64 c.dia, .int .i64 c.dra, .int .i64 c.clo, .int .i64 c.chi] := HC.out.get (by simp); have c0 := cb.cell 0; have c1 := cb.cell 1; have c2 := cb.cell 2; have c3 := cb.cell 3; have c4 := cb.cell 4; have cl := cb.lt; clear cb)
      | (go_at_call 64; refine (HU.out _ (HC.out.b.alloc HC.out.b.size _)).mono ?_; rintro e w2 ⟨rfl, hb⟩; have HD := Lib.hid ((HC.out.alloc_ #[.slice p.ka p.s.ks.length p.kc, .slice p.xa p.s.xs.length p.xc, .int .i64 p.s.flo, .int .i64 p.s.fhi, .int .i64 p.s.plo, .int .i64 p.s.phi, .int .i64 c.wax, .int .i64 c.dia, .int .i64 c.dra, .int .i64 c.clo, .int .i64 c.chi] 93).on hb); clear hb s0 s1 s2 s3 s4 s5 sl c0 c1 c2 c3 c4 cl)
      | (go_at_call 65; refine (HM.out _).mono ?_; rintro e w3 ⟨rfl, hb⟩; have HF := Lib.hid ((HD.out.alloc_ #[.int .i64 a, .int .i64 b] 25).on hb); have hk := (Blk.new w2 25 #[.int .i64 a, .int .i64 b]).on hb; have k0 := hk.cell 0; have k1 := hk.cell 1; have k2 := hk.lt; clear hb hk; have rb : Blk _ (w.heap.size + 1 + 1) 25 #[.int .i64 0, .int .i64 0] := HF.out.get (by simp); have r0 := rb.cell 0; have r1 := rb.cell 1; have rl := rb.lt; have rf0 := rb.frozen 0; have rf1 := rb.frozen 1; clear rb)
      | fail)
    refine bodyPost_ret (v := .tuple #[.agg #[.int .i64 a, .int .i64 b], .int .i64 0]) ?_ rfl ⟨by rw [HO.out], ?_⟩
    · simp [results, Try.results30, go_sem, *]
    · repeat (first | (with_reducible exact HF.out.b) | with_reducible refine Below.setCell ?_ (by simp; try omega) _)
end Go.Proofs.Ytkjfommdeljefaa
