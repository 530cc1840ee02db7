/- WickThinnest: the law. -/
import Derived.Test.YtkjfommdeljefaaS7
import Derived.Test.YtkjfommdeljefaaQY
namespace Go.Proofs.Ytkjfommdeljefaa
open Go.RowKit Go.Shelf Go.Maps
attribute [local go_sem] Oper.semAt_some

set_option maxRecDepth 100000 in
set_option maxHeartbeats 2000000 in
theorem lthin_err {w : World} {p : Sp} {c : Cd} (h : ShIn w p) (he : askCE p.s c ≠ 0) :
    Calls Try.prog 9 #[.agg #[.slice p.ka p.s.ks.length p.kc, .slice p.xa p.s.xs.length p.xc, .int .i64 p.s.flo, .int .i64 p.s.fhi, .int .i64 p.s.plo, .int .i64 p.s.phi], .agg #[.int .i64 c.wax, .int .i64 c.dia, .int .i64 c.dra, .int .i64 c.clo, .int .i64 c.chi]] w fun e w' => e = .returned (.bool true) ∧ Below w.heap.size w w' := by
  have hb0 := ((Bx.nil w).alloc #[.slice p.ka p.s.ks.length p.kc, .slice p.xa p.s.xs.length p.xc, .int .i64 p.s.flo, .int .i64 p.s.fhi, .int .i64 p.s.plo, .int .i64 p.s.phi] 27).alloc #[.int .i64 c.wax, .int .i64 c.dia, .int .i64 c.dra, .int .i64 c.clo, .int .i64 c.chi] 34
  simp only [World.size_alloc] at hb0
  have HB := Lib.hid hb0
  have HC := Lib.hid (fun (W : World) (hW : Below w.heap.size w W) => rcandle_any c (h.on hW))
  have HT := Lib.hid (fun (W : World) (hW : Below w.heap.size w W) => thin_err (h.on hW) he)
  have hz : (askCE p.s c != 0) = true := by simpa using he
  clear h he hb0
  generalize askCE p.s c = z at *
  go_enter Try.func9, Try.ntmps9
  go_wp2_with (first
    | (go_at_call 28; (refine (HT.out _ HB.out.b).mono ?_); rintro e w1 ⟨rfl, hb⟩; have HD := Lib.hid (HB.out.on hb); clear hb; have sb : Blk _ w.heap.size 27 #[.slice p.ka p.s.ks.length p.kc, .slice p.xa p.s.xs.length p.xc, .int .i64 p.s.flo, .int .i64 p.s.fhi, .int .i64 p.s.plo, .int .i64 p.s.phi] := HD.out.get (by simp); have s0 := sb.cell 0; have s1 := sb.cell 1; have s2 := sb.cell 2; have s3 := sb.cell 3; have s4 := sb.cell 4; have s5 := sb.cell 5; have sl := sb.lt; have cb : Blk _ (w.heap.size + 1) 34 #[.int .i64 c.wax, .int .i64 c.dia, .int .i64 c.dra, .int .i64 c.clo, .int .i64 c.chi] := HD.out.get (by simp); have c0 := cb.cell 0; have c1 := cb.cell 1; have c2 := cb.cell 2; have c3 := cb.cell 3; have c4 := cb.cell 4; have cl := cb.lt; clear sb cb)
    | (go_at_call 36; (refine (HC.out _ HD.out.b).mono ?_); rintro e w2 ⟨rfl, hb⟩; have HE := Lib.hid (HD.out.on hb); clear hb; clear s0 s1 s2 s3 s4 s5 sl c0 c1 c2 c3 c4 cl)
    | (go_at_call 16; (refine (lawake_any _).mono ?_); rintro e w9 ⟨rfl, hb⟩; have HZ := Lib.hid (HE.out.b.trans (hb.mono HE.out.b.size)); clear hb)
    | fail)
  go_ret
  exact ⟨rfl, HZ.out⟩

set_option maxRecDepth 100000 in
set_option maxHeartbeats 4000000 in
theorem lthin_9 {w : World} {p : Sp} {c : Cd} {x : Wx} (h : ShIn w p) (hn0 : 1 ≤ p.s.ks.length ∧ p.s.ks.length ≤ 12)
    (C0 : Hid (∀ W, Below w.heap.size w W → Calls Try.prog 36 #[.agg #[.slice p.ka p.s.ks.length p.kc, .slice p.xa p.s.xs.length p.xc, .int .i64 p.s.flo, .int .i64 p.s.fhi, .int .i64 p.s.plo, .int .i64 p.s.phi], .agg #[.int .i64 c.wax, .int .i64 c.dia, .int .i64 c.dra, .int .i64 c.clo, .int .i64 c.chi]] W fun e w' => e = .returned (.int .i64 0) ∧ Below W.heap.size W w'))
    (C2 : Hid (∀ (i : Nat) (k : Wk), p.s.ks[i]? = some k → ∀ W, Below w.heap.size w W → Calls Try.prog 23 #[.agg #[.slice p.ka p.s.ks.length p.kc, .slice p.xa p.s.xs.length p.xc, .int .i64 p.s.flo, .int .i64 p.s.fhi, .int .i64 p.s.plo, .int .i64 p.s.phi], .int .i64 (i : Int), .agg #[.int .i64 c.wax, .int .i64 c.dia, .int .i64 c.dra, .int .i64 c.clo, .int .i64 c.chi]] W (ListOut W (faultsL p.s k x c))))
    (HO : Hid (∀ i, i < p.s.ks.length → ∀ k, p.s.ks[i]? = some k → faultsL p.s k x c ≠ []))
    (C1 : Hid (∀ W, Below w.heap.size w W → Calls Try.prog 28 #[.agg #[.slice p.ka p.s.ks.length p.kc, .slice p.xa p.s.xs.length p.xc, .int .i64 p.s.flo, .int .i64 p.s.fhi, .int .i64 p.s.plo, .int .i64 p.s.phi], .agg #[.int .i64 c.wax, .int .i64 c.dia, .int .i64 c.dra, .int .i64 c.clo, .int .i64 c.chi]] W fun e w' => e = .returned (.tuple #[.int .i64 0, .int .i64 9]) ∧ Below W.heap.size W w')) :
    Calls Try.prog 9 #[.agg #[.slice p.ka p.s.ks.length p.kc, .slice p.xa p.s.xs.length p.xc, .int .i64 p.s.flo, .int .i64 p.s.fhi, .int .i64 p.s.plo, .int .i64 p.s.phi], .agg #[.int .i64 c.wax, .int .i64 c.dia, .int .i64 c.dra, .int .i64 c.clo, .int .i64 c.chi]] w fun e w' => e = .returned (.bool true) ∧ Below w.heap.size w w' := by
  have hb0 := ((Bx.nil w).alloc #[.slice p.ka p.s.ks.length p.kc, .slice p.xa p.s.xs.length p.xc, .int .i64 p.s.flo, .int .i64 p.s.fhi, .int .i64 p.s.plo, .int .i64 p.s.phi] 27).alloc #[.int .i64 c.wax, .int .i64 c.dia, .int .i64 c.dra, .int .i64 c.clo, .int .i64 c.chi] 34
  simp only [World.size_alloc] at hb0
  have HB := Lib.hid hb0
  have H0 := Lib.hid h
  have hkl := h.ks.len
  clear hb0 h
  go_enter Try.func9, Try.ntmps9
  go_wp2_with (first
    | (go_at_call 28; (refine (C1.out _ HB.out.b).mono ?_); rintro e w1 ⟨rfl, hb⟩; have HD := Lib.hid (HB.out.on hb); clear hb; have sb : Blk _ w.heap.size 27 #[.slice p.ka p.s.ks.length p.kc, .slice p.xa p.s.xs.length p.xc, .int .i64 p.s.flo, .int .i64 p.s.fhi, .int .i64 p.s.plo, .int .i64 p.s.phi] := HD.out.get (by simp); have s0 := sb.cell 0; have s1 := sb.cell 1; have s2 := sb.cell 2; have s3 := sb.cell 3; have s4 := sb.cell 4; have s5 := sb.cell 5; have sl := sb.lt; have cb : Blk _ (w.heap.size + 1) 34 #[.int .i64 c.wax, .int .i64 c.dia, .int .i64 c.dra, .int .i64 c.clo, .int .i64 c.chi] := HD.out.get (by simp); have c0 := cb.cell 0; have c1 := cb.cell 1; have c2 := cb.cell 2; have c3 := cb.cell 3; have c4 := cb.cell 4; have cl := cb.lt; clear sb cb)
    | (go_at_call 36; (refine (C0.out _ HD.out.b).mono ?_); rintro e w2 ⟨rfl, hb⟩; have HE := Lib.hid (HD.out.on hb); clear hb; clear s0 s1 s2 s3 s4 s5 sl c0 c1 c2 c3 c4 cl; have sb : Blk _ w.heap.size 27 #[.slice p.ka p.s.ks.length p.kc, .slice p.xa p.s.xs.length p.xc, .int .i64 p.s.flo, .int .i64 p.s.fhi, .int .i64 p.s.plo, .int .i64 p.s.phi] := HE.out.get (by simp); have s0 := sb.cell 0; have s1 := sb.cell 1; have s2 := sb.cell 2; have s3 := sb.cell 3; have s4 := sb.cell 4; have s5 := sb.cell 5; have sl := sb.lt; have cb : Blk _ (w.heap.size + 1) 34 #[.int .i64 c.wax, .int .i64 c.dia, .int .i64 c.dra, .int .i64 c.clo, .int .i64 c.chi] := HE.out.get (by simp); have c0 := cb.cell 0; have c1 := cb.cell 1; have c2 := cb.cell 2; have c3 := cb.cell 3; have c4 := cb.cell 4; have cl := cb.lt; clear sb cb)
    | fail)
  clear s0 s1 s2 s3 s4 s5 sl c0 c1 c2 c3 c4 cl
  go_loopw [8] (fun i W => ∃ k : Nat, k ≤ p.s.ks.length ∧ i = .int .i64 (k : Int) ∧ Hid (Bx w [(w.heap.size + 1, 34, #[.int .i64 c.wax, .int .i64 c.dia, .int .i64 c.dra, .int .i64 c.clo, .int .i64 c.chi]), (w.heap.size, 27, #[.slice p.ka p.s.ks.length p.kc, .slice p.xa p.s.xs.length p.xc, .int .i64 p.s.flo, .int .i64 p.s.fhi, .int .i64 p.s.plo, .int .i64 p.s.phi])] W)) (fun i _ => p.s.ks.length - (intOf i).toNat)
  case atStart => exact ⟨0, by omega, rfl, HE⟩
  case round =>
    obtain ⟨k, hk, rfl, HD2⟩ := hrel
    have sb : Blk _ w.heap.size 27 #[.slice p.ka p.s.ks.length p.kc, .slice p.xa p.s.xs.length p.xc, .int .i64 p.s.flo, .int .i64 p.s.fhi, .int .i64 p.s.plo, .int .i64 p.s.phi] := HD2.out.get (by simp)
    have s0 := sb.cell 0
    have s1 := sb.cell 1
    have s2 := sb.cell 2
    have s3 := sb.cell 3
    have s4 := sb.cell 4
    have s5 := sb.cell 5
    have sl := sb.lt
    have cb : Blk _ (w.heap.size + 1) 34 #[.int .i64 c.wax, .int .i64 c.dia, .int .i64 c.dra, .int .i64 c.clo, .int .i64 c.chi] := HD2.out.get (by simp)
    have c0 := cb.cell 0
    have c1 := cb.cell 1
    have c2 := cb.cell 2
    have c3 := cb.cell 3
    have c4 := cb.cell 4
    have cl := cb.lt
    clear sb cb
    by_cases hlt : k < p.s.ks.length
    · have hki := Lib.hid (List.getElem?_eq_getElem hlt)
      generalize p.s.ks[k]'hlt = kk at *
      have HF := Lib.hid (C2.out k kk hki.out)
      obtain ⟨L, hsl⟩ : ∃ L, L = faultsL p.s kk x c := ⟨_, rfl⟩
      rw [← hsl] at HF
      have HSL := Lib.hid hsl
      clear hsl
      go_wp2_with (first
        | (go_at_call 23; (refine (HF.out _ HD2.out.b).mono ?_); rintro e w5 ⟨v, rfl, hv, hb⟩; obtain ⟨A, g, rfl, hi⟩ := hv.in_; have HF2 := Lib.hid (HD2.out.on hb); clear hb hi hv s0 s1 s2 s3 s4 s5 sl c0 c1 c2 c3 c4 cl)
        | fail)
      obtain ⟨b, o, hka0, -⟩ := wks_at H0.out.ks.at_ hki.out
      have hka := Lib.hid hka0
      clear hka0
      refine wp_of_eq (thd_region (S := Bx w [(w.heap.size + 1, 34, #[.int .i64 c.wax, .int .i64 c.dia, .int .i64 c.dra, .int .i64 c.clo, .int .i64 c.chi]), (w.heap.size, 27, #[.slice p.ka p.s.ks.length p.kc, .slice p.xa p.s.xs.length p.xc, .int .i64 p.s.flo, .int .i64 p.s.fhi, .int .i64 p.s.plo, .int .i64 p.s.phi])]) (fun W W' h hb => h.on hb) (P := w.heap.size) (b := b) (o := o) (m := p.s.ks.length) (kc := p.kc) (ii := k) (jj := 0) (ti := 0) (tj := 0) (fun W hW => by have hq : Blk W w.heap.size 27 #[.slice p.ka p.s.ks.length p.kc, .slice p.xa p.s.xs.length p.xc, .int .i64 p.s.flo, .int .i64 p.s.fhi, .int .i64 p.s.plo, .int .i64 p.s.phi] := hW.get (by simp); rwa [hka.out] at hq) (by have := HO.out k hlt _ hki.out; rw [← HSL.out] at this; simpa using this) HF2 (Lib.hid fun u W h => ?_)) (by kernel_rfl)
      have HG := Lib.hid h
      clear h HF2
      skip
      go_wp2_with fail
      go_roundw
      case rel => first | exact ⟨k + 1, by omega, by go_num, HG⟩ | exact ⟨k + 1, by omega, by go_num⟩
      case measure => simp [intOf]; omega
    · go_wp2_with (first
        | (go_at_call 16; (refine (lawake_any _).mono ?_); rintro e w9 ⟨rfl, hb⟩; have HZ := Lib.hid (HD2.out.b.trans (hb.mono HD2.out.b.size)); clear hb)
        | fail)
      go_ret
      exact ⟨rfl, HZ.out⟩

set_option maxRecDepth 100000 in
set_option maxHeartbeats 4000000 in
theorem lthin_0 {w : World} {p : Sp} {c : Cd} {x : Wx} (h : ShIn w p) (hn0 : 1 ≤ p.s.ks.length ∧ p.s.ks.length ≤ 12)
    (C0 : Hid (∀ W, Below w.heap.size w W → Calls Try.prog 36 #[.agg #[.slice p.ka p.s.ks.length p.kc, .slice p.xa p.s.xs.length p.xc, .int .i64 p.s.flo, .int .i64 p.s.fhi, .int .i64 p.s.plo, .int .i64 p.s.phi], .agg #[.int .i64 c.wax, .int .i64 c.dia, .int .i64 c.dra, .int .i64 c.clo, .int .i64 c.chi]] W fun e w' => e = .returned (.int .i64 0) ∧ Below W.heap.size W w'))
    (C2 : Hid (∀ (i : Nat) (k : Wk), p.s.ks[i]? = some k → ∀ W, Below w.heap.size w W → Calls Try.prog 23 #[.agg #[.slice p.ka p.s.ks.length p.kc, .slice p.xa p.s.xs.length p.xc, .int .i64 p.s.flo, .int .i64 p.s.fhi, .int .i64 p.s.plo, .int .i64 p.s.phi], .int .i64 (i : Int), .agg #[.int .i64 c.wax, .int .i64 c.dia, .int .i64 c.dra, .int .i64 c.clo, .int .i64 c.chi]] W (ListOut W (faultsL p.s k x c))))
    {j : Nat} {kj : Wk} (hjn : j < p.s.ks.length) (hj : Hid (p.s.ks[j]? = some kj)) (HJ : Hid (faultsL p.s kj x c = [])) (HO : Hid (∀ i, i < p.s.ks.length → ∀ k, p.s.ks[i]? = some k → k.th < kj.th → faultsL p.s k x c ≠ []))
    (C1 : Hid (∀ W, Below w.heap.size w W → Calls Try.prog 28 #[.agg #[.slice p.ka p.s.ks.length p.kc, .slice p.xa p.s.xs.length p.xc, .int .i64 p.s.flo, .int .i64 p.s.fhi, .int .i64 p.s.plo, .int .i64 p.s.phi], .agg #[.int .i64 c.wax, .int .i64 c.dia, .int .i64 c.dra, .int .i64 c.clo, .int .i64 c.chi]] W fun e w' => e = .returned (.tuple #[.int .i64 (j : Int), .int .i64 0]) ∧ Below W.heap.size W w')) :
    Calls Try.prog 9 #[.agg #[.slice p.ka p.s.ks.length p.kc, .slice p.xa p.s.xs.length p.xc, .int .i64 p.s.flo, .int .i64 p.s.fhi, .int .i64 p.s.plo, .int .i64 p.s.phi], .agg #[.int .i64 c.wax, .int .i64 c.dia, .int .i64 c.dra, .int .i64 c.clo, .int .i64 c.chi]] w fun e w' => e = .returned (.bool true) ∧ Below w.heap.size w w' := by
  have hb0 := ((Bx.nil w).alloc #[.slice p.ka p.s.ks.length p.kc, .slice p.xa p.s.xs.length p.xc, .int .i64 p.s.flo, .int .i64 p.s.fhi, .int .i64 p.s.plo, .int .i64 p.s.phi] 27).alloc #[.int .i64 c.wax, .int .i64 c.dia, .int .i64 c.dra, .int .i64 c.clo, .int .i64 c.chi] 34
  simp only [World.size_alloc] at hb0
  have HB := Lib.hid hb0
  have H0 := Lib.hid h
  have hkl := h.ks.len
  have j1 : decide ((j : Int) < 0) = false := decide_eq_false (by omega)
  have j2 : decide (p.s.ks.length ≤ j) = false := decide_eq_false (by omega)
  clear hb0 h
  go_enter Try.func9, Try.ntmps9
  go_wp2_with (first
    | (go_at_call 28; (refine (C1.out _ HB.out.b).mono ?_); rintro e w1 ⟨rfl, hb⟩; have HD := Lib.hid (HB.out.on hb); clear hb; have sb : Blk _ w.heap.size 27 #[.slice p.ka p.s.ks.length p.kc, .slice p.xa p.s.xs.length p.xc, .int .i64 p.s.flo, .int .i64 p.s.fhi, .int .i64 p.s.plo, .int .i64 p.s.phi] := HD.out.get (by simp); have s0 := sb.cell 0; have s1 := sb.cell 1; have s2 := sb.cell 2; have s3 := sb.cell 3; have s4 := sb.cell 4; have s5 := sb.cell 5; have sl := sb.lt; have cb : Blk _ (w.heap.size + 1) 34 #[.int .i64 c.wax, .int .i64 c.dia, .int .i64 c.dra, .int .i64 c.clo, .int .i64 c.chi] := HD.out.get (by simp); have c0 := cb.cell 0; have c1 := cb.cell 1; have c2 := cb.cell 2; have c3 := cb.cell 3; have c4 := cb.cell 4; have cl := cb.lt; clear sb cb)
    | (go_at_call 36; (refine (C0.out _ HD.out.b).mono ?_); rintro e w2 ⟨rfl, hb⟩; have HE := Lib.hid (HD.out.on hb); clear hb; clear s0 s1 s2 s3 s4 s5 sl c0 c1 c2 c3 c4 cl; have sb : Blk _ w.heap.size 27 #[.slice p.ka p.s.ks.length p.kc, .slice p.xa p.s.xs.length p.xc, .int .i64 p.s.flo, .int .i64 p.s.fhi, .int .i64 p.s.plo, .int .i64 p.s.phi] := HE.out.get (by simp); have s0 := sb.cell 0; have s1 := sb.cell 1; have s2 := sb.cell 2; have s3 := sb.cell 3; have s4 := sb.cell 4; have s5 := sb.cell 5; have sl := sb.lt; have cb : Blk _ (w.heap.size + 1) 34 #[.int .i64 c.wax, .int .i64 c.dia, .int .i64 c.dra, .int .i64 c.clo, .int .i64 c.chi] := HE.out.get (by simp); have c0 := cb.cell 0; have c1 := cb.cell 1; have c2 := cb.cell 2; have c3 := cb.cell 3; have c4 := cb.cell 4; have cl := cb.lt; clear sb cb)
    | fail)
  clear s0 s1 s2 s3 s4 s5 sl c0 c1 c2 c3 c4 cl
  go_loopw [8] (fun i W => ∃ k : Nat, k ≤ p.s.ks.length ∧ i = .int .i64 (k : Int) ∧ Hid (Bx w [(w.heap.size + 1, 34, #[.int .i64 c.wax, .int .i64 c.dia, .int .i64 c.dra, .int .i64 c.clo, .int .i64 c.chi]), (w.heap.size, 27, #[.slice p.ka p.s.ks.length p.kc, .slice p.xa p.s.xs.length p.xc, .int .i64 p.s.flo, .int .i64 p.s.fhi, .int .i64 p.s.plo, .int .i64 p.s.phi])] W)) (fun i _ => p.s.ks.length - (intOf i).toNat)
  case atStart => exact ⟨0, by omega, rfl, HE⟩
  case round =>
    obtain ⟨k, hk, rfl, HD2⟩ := hrel
    have sb : Blk _ w.heap.size 27 #[.slice p.ka p.s.ks.length p.kc, .slice p.xa p.s.xs.length p.xc, .int .i64 p.s.flo, .int .i64 p.s.fhi, .int .i64 p.s.plo, .int .i64 p.s.phi] := HD2.out.get (by simp)
    have s0 := sb.cell 0
    have s1 := sb.cell 1
    have s2 := sb.cell 2
    have s3 := sb.cell 3
    have s4 := sb.cell 4
    have s5 := sb.cell 5
    have sl := sb.lt
    have cb : Blk _ (w.heap.size + 1) 34 #[.int .i64 c.wax, .int .i64 c.dia, .int .i64 c.dra, .int .i64 c.clo, .int .i64 c.chi] := HD2.out.get (by simp)
    have c0 := cb.cell 0
    have c1 := cb.cell 1
    have c2 := cb.cell 2
    have c3 := cb.cell 3
    have c4 := cb.cell 4
    have cl := cb.lt
    clear sb cb
    by_cases hlt : k < p.s.ks.length
    · have hki := Lib.hid (List.getElem?_eq_getElem hlt)
      generalize p.s.ks[k]'hlt = kk at *
      have HF := Lib.hid (C2.out k kk hki.out)
      obtain ⟨L, hsl⟩ : ∃ L, L = faultsL p.s kk x c := ⟨_, rfl⟩
      rw [← hsl] at HF
      have HSL := Lib.hid hsl
      clear hsl
      go_wp2_with (first
        | (go_at_call 23; (refine (HF.out _ HD2.out.b).mono ?_); rintro e w5 ⟨v, rfl, hv, hb⟩; obtain ⟨A, g, rfl, hi⟩ := hv.in_; have HF2 := Lib.hid (HD2.out.on hb); clear hb hi hv s0 s1 s2 s3 s4 s5 sl c0 c1 c2 c3 c4 cl)
        | fail)
      obtain ⟨b, o, hka0, -⟩ := wks_at H0.out.ks.at_ hki.out
      have hka := Lib.hid hka0
      clear hka0
      by_cases hkj : k = j
      · subst hkj
        obtain rfl : kk = kj := by have h1 := hki.out; rw [hj.out] at h1; exact (Option.some.inj h1).symm
        have hL : L = [] := HSL.out.trans HJ.out
        subst hL
        refine wp_of_eq (ths_region (S := Bx w [(w.heap.size + 1, 34, #[.int .i64 c.wax, .int .i64 c.dia, .int .i64 c.dra, .int .i64 c.clo, .int .i64 c.chi]), (w.heap.size, 27, #[.slice p.ka p.s.ks.length p.kc, .slice p.xa p.s.xs.length p.xc, .int .i64 p.s.flo, .int .i64 p.s.fhi, .int .i64 p.s.plo, .int .i64 p.s.phi])]) (fun W W' h hb => h.on hb) (P := w.heap.size) (b := b) (o := o) (m := p.s.ks.length) (kc := p.kc) (ii := k) (jj := k) (ti := kk.th) (tj := 0) (n := 0) (fun W hW => by have hq : Blk W w.heap.size 27 #[.slice p.ka p.s.ks.length p.kc, .slice p.xa p.s.xs.length p.xc, .int .i64 p.s.flo, .int .i64 p.s.fhi, .int .i64 p.s.plo, .int .i64 p.s.phi] := hW.get (by simp); rwa [hka.out] at hq) (by omega) (fun W hW => by have := wks_at (H0.out.on hW.b).ks.at_ hki.out; rw [hka.out] at this; obtain ⟨_, _, e1, _, _, e2, _, _⟩ := this; cases e1; exact e2) (decide_eq_false (by omega)) HF2 (Lib.hid fun u W h => ?_)) (by kernel_rfl)
        have HG := Lib.hid h
        clear h HF2
        skip
        go_wp2_with fail
        go_roundw
        case rel => first | exact ⟨k + 1, by omega, by go_num, HG⟩ | exact ⟨k + 1, by omega, by go_num⟩
        case measure => simp [intOf]; omega
      · have he : ((k : Int) == (j : Int)) = false := by simp; omega
        by_cases hlt2 : kk.th < kj.th
        · have hn : ((L.length : Int) == 0) = false := by have := HO.out k hlt _ hki.out hlt2; rw [HSL.out]; simpa using this
          refine wp_of_eq (thl_region (S := Bx w [(w.heap.size + 1, 34, #[.int .i64 c.wax, .int .i64 c.dia, .int .i64 c.dra, .int .i64 c.clo, .int .i64 c.chi]), (w.heap.size, 27, #[.slice p.ka p.s.ks.length p.kc, .slice p.xa p.s.xs.length p.xc, .int .i64 p.s.flo, .int .i64 p.s.fhi, .int .i64 p.s.plo, .int .i64 p.s.phi])]) (fun W W' h hb => h.on hb) (P := w.heap.size) (b := b) (o := o) (m := p.s.ks.length) (kc := p.kc) (ii := k) (jj := j) (ti := kk.th) (tj := kj.th) (fun W hW => by have hq : Blk W w.heap.size 27 #[.slice p.ka p.s.ks.length p.kc, .slice p.xa p.s.xs.length p.xc, .int .i64 p.s.flo, .int .i64 p.s.fhi, .int .i64 p.s.plo, .int .i64 p.s.phi] := hW.get (by simp); rwa [hka.out] at hq) (by omega) (by omega) (fun W hW => by have := wks_at (H0.out.on hW.b).ks.at_ hki.out; rw [hka.out] at this; obtain ⟨_, _, e1, _, _, e2, _, _⟩ := this; cases e1; exact e2) (fun W hW => by have := wks_at (H0.out.on hW.b).ks.at_ hj.out; rw [hka.out] at this; obtain ⟨_, _, e1, _, _, e2, _, _⟩ := this; cases e1; exact e2) he (decide_eq_true hlt2) hn HF2 (Lib.hid fun u W h => ?_)) (by kernel_rfl)
          have HG := Lib.hid h
          clear h HF2
          clear he hn hlt2
          go_wp2_with fail
          go_roundw
          case rel => first | exact ⟨k + 1, by omega, by go_num, HG⟩ | exact ⟨k + 1, by omega, by go_num⟩
          case measure => simp [intOf]; omega
        · have hl : decide (kk.th < kj.th) = false := decide_eq_false hlt2
          refine wp_of_eq (thn_region (S := Bx w [(w.heap.size + 1, 34, #[.int .i64 c.wax, .int .i64 c.dia, .int .i64 c.dra, .int .i64 c.clo, .int .i64 c.chi]), (w.heap.size, 27, #[.slice p.ka p.s.ks.length p.kc, .slice p.xa p.s.xs.length p.xc, .int .i64 p.s.flo, .int .i64 p.s.fhi, .int .i64 p.s.plo, .int .i64 p.s.phi])]) (fun W W' h hb => h.on hb) (P := w.heap.size) (b := b) (o := o) (m := p.s.ks.length) (kc := p.kc) (ii := k) (jj := j) (ti := kk.th) (tj := kj.th) (fun W hW => by have hq : Blk W w.heap.size 27 #[.slice p.ka p.s.ks.length p.kc, .slice p.xa p.s.xs.length p.xc, .int .i64 p.s.flo, .int .i64 p.s.fhi, .int .i64 p.s.plo, .int .i64 p.s.phi] := hW.get (by simp); rwa [hka.out] at hq) (by omega) (by omega) (fun W hW => by have := wks_at (H0.out.on hW.b).ks.at_ hki.out; rw [hka.out] at this; obtain ⟨_, _, e1, _, _, e2, _, _⟩ := this; cases e1; exact e2) (fun W hW => by have := wks_at (H0.out.on hW.b).ks.at_ hj.out; rw [hka.out] at this; obtain ⟨_, _, e1, _, _, e2, _, _⟩ := this; cases e1; exact e2) he hl HF2 (Lib.hid fun u W h => ?_)) (by kernel_rfl)
          have HG := Lib.hid h
          clear h HF2
          clear he hl hlt2
          go_wp2_with fail
          go_roundw
          case rel => first | exact ⟨k + 1, by omega, by go_num, HG⟩ | exact ⟨k + 1, by omega, by go_num⟩
          case measure => simp [intOf]; omega
    · go_wp2_with (first
        | (go_at_call 16; (refine (lawake_any _).mono ?_); rintro e w9 ⟨rfl, hb⟩; have HZ := Lib.hid (HD2.out.b.trans (hb.mono HD2.out.b.size)); clear hb)
        | fail)
      go_ret
      exact ⟨rfl, HZ.out⟩


theorem lthin_any {w : World} {p : Sp} (c : Cd) (h : ShIn w p) :
    Calls Try.prog 9 #[.agg #[.slice p.ka p.s.ks.length p.kc, .slice p.xa p.s.xs.length p.xc, .int .i64 p.s.flo, .int .i64 p.s.fhi, .int .i64 p.s.plo, .int .i64 p.s.phi], .agg #[.int .i64 c.wax, .int .i64 c.dia, .int .i64 c.dra, .int .i64 c.clo, .int .i64 c.chi]] w fun e w' => e = .returned (.bool true) ∧ Below w.heap.size w w' := by
  by_cases he : askCE p.s c = 0
  · obtain ⟨x, ha⟩ := askC_of he
    have hsh : shopE p.s = 0 := by
      unfold askCE at he
      rw [orE_zero] at he
      exact he _ (by simp)
    have C0 := Lib.hid (fun (W : World) (hW : Below w.heap.size w W) => rcandle_any c (h.on hW))
    have C1 := Lib.hid (fun (W : World) (hW : Below w.heap.size w W) => callsIn_wide.1 (thin_in (h.on hW) ha he))
    rw [he] at C0
    have C2 : Hid (∀ (i : Nat) (k : Wk), p.s.ks[i]? = some k → ∀ W, Below w.heap.size w W → Calls Try.prog 23 #[.agg #[.slice p.ka p.s.ks.length p.kc, .slice p.xa p.s.xs.length p.xc, .int .i64 p.s.flo, .int .i64 p.s.fhi, .int .i64 p.s.plo, .int .i64 p.s.phi], .int .i64 (i : Int), .agg #[.int .i64 c.wax, .int .i64 c.dia, .int .i64 c.dra, .int .i64 c.clo, .int .i64 c.chi]] W (ListOut W (faultsL p.s k x c))) := fun i k hk W hW => faults_ok (h.on hW) (ha.ask hk) ((ha.ask hk).ask hsh)
    rcases thin_law p.s x c with ⟨h1, h2⟩ | ⟨j, h1, h2, h3, h4⟩
    · rw [h1] at C1
      exact lthin_9 h ha.sh.nk C0 C2 (fun i hi k hk e => by have := h2 i hi; rw [(okW_nil hk).2 e] at this; cases this) C1
    · rw [h2] at C1
      have hj : p.s.ks[j]? = some (p.s.ks[j]'h1) := List.getElem?_eq_getElem h1
      have C3 : Hid (∀ W, Below w.heap.size w W → Calls Try.prog 28 #[.agg #[.slice p.ka p.s.ks.length p.kc, .slice p.xa p.s.xs.length p.xc, .int .i64 p.s.flo, .int .i64 p.s.fhi, .int .i64 p.s.plo, .int .i64 p.s.phi], .agg #[.int .i64 c.wax, .int .i64 c.dia, .int .i64 c.dra, .int .i64 c.clo, .int .i64 c.chi]] W fun e w' => e = .returned (.tuple #[.int .i64 (j : Int), .int .i64 0]) ∧ Below W.heap.size W w') := fun W hW => by
        have := C1.out W hW
        unfold thinOut at this
        rwa [if_neg (by omega)] at this
      refine lthin_0 h ha.sh.nk C0 C2 h1 hj ((okW_nil hj).1 h3) (fun i hi k hk hlt e => ?_) C3
      have := h4 i hi (by unfold thW; rw [hk, hj]; exact hlt)
      rw [(okW_nil hk).2 e] at this; cases this
  · exact lthin_err h he
end Go.Proofs.Ytkjfommdeljefaa
