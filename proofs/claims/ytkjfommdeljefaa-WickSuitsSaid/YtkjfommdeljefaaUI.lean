/- ref03.Sizes: contract. -/
import Derived.Test.YtkjfommdeljefaaUF
import Derived.Test.YtkjfommdeljefaaT2
import Derived.Test.YtkjfommdeljefaaS1
namespace Go.Proofs.Ytkjfommdeljefaa
open Go.RowKit Go.Shelf Go.Maps
attribute [local go_sem] Oper.semAt_some


theorem Bx.perm {w W : World} {l l2 : List (Nat × TypeId × Array Value)} (h : Bx w l W) (hs : ∀ q ∈ l2, q ∈ l) : Bx w l2 W := ⟨h.b, fun q hq => h.at_ q (hs q hq)⟩
theorem Bx.lay {w W : World} {g : Nat} {T : TypeId} {cs : Array Value} {l : List (Nat × TypeId × Array Value)} (h : Bx w ((g, T, cs) :: l) W) (i : Nat) (u : Value) (hn : ∀ q ∈ l, q.1 ≠ g) :
    Bx w ((g, T, cs.setIfInBounds i u) :: l) (W.setCell ⟨g, i, none⟩ u) :=
  have ht : Bx w l W := ⟨h.b, fun r hr => h.at_ r (List.mem_cons_of_mem _ hr)⟩
  (ht.put (grown_one W g i u) (h.at_ _ List.mem_cons_self).1 hn).add (((h.at_ _ List.mem_cons_self).2).set_ i u) (h.at_ _ List.mem_cons_self).1
/-- The range so far, when all diameters below d have been tried. -/
def oV (v1 v2 : Int) (d : Nat) : Int × Int := if v2 < v1 ∨ (d : Int) ≤ v1 then (0, 0) else (v1, min ((d : Int) - 1) v2)
theorem oV_out {v1 v2 : Int} {d : Nat} (h : ¬ (¬ (v2 < v1) ∧ v1 ≤ (d : Int) ∧ (d : Int) ≤ v2)) : oV v1 v2 (d + 1) = oV v1 v2 d := by
  unfold oV
  by_cases h1 : v2 < v1 ∨ (d : Int) ≤ v1
  · rw [if_pos h1]
    rw [if_pos]
    rcases h1 with h1 | h1
    · exact .inl h1
    · by_cases h2 : v2 < v1
      · exact .inl h2
      · right
        by_cases h3 : v1 ≤ (d : Int)
        · exact absurd ⟨h2, h3, by omega⟩ h
        · omega
  · rw [if_neg h1, if_neg (by omega)]
    have : v2 < (d : Int) := by
      rcases Int.lt_or_le v2 (d : Int) with h2 | h2
      · exact h2
      · exact absurd ⟨fun h3 => h1 (.inl h3), by omega, h2⟩ h
    congr 1; omega
theorem oV_first {v1 v2 : Int} {d : Nat} (h : ¬ (v2 < v1)) (e : (d : Int) = v1) : oV v1 v2 d = (0, 0) ∧ oV v1 v2 (d + 1) = ((d : Int), (d : Int)) := by
  unfold oV
  rw [if_pos (by omega), if_neg (by omega)]
  refine ⟨rfl, ?_⟩
  rw [show min (((d + 1 : Nat) : Int) - 1) v2 = (d : Int) by omega, e]
theorem oV_more {v1 v2 : Int} {d : Nat} (h : ¬ (v2 < v1)) (e : v1 < (d : Int)) (e2 : (d : Int) ≤ v2) : oV v1 v2 d = (v1, (d : Int) - 1) ∧ oV v1 v2 (d + 1) = (v1, (d : Int)) := by
  unfold oV
  rw [if_neg (by omega), if_neg (by omega)]
  refine ⟨?_, ?_⟩
  · rw [show min ((d : Int) - 1) v2 = (d : Int) - 1 by omega]
  · rw [show min (((d + 1 : Nat) : Int) - 1) v2 = (d : Int) by omega]
theorem oV_last {v1 v2 : Int} (_h1 : 1 ≤ v1) (h2 : v2 ≤ 2000) : oV v1 v2 2001 = if v2 < v1 then (0, 0) else (v1, v2) := by
  unfold oV
  by_cases h : v2 < v1
  · rw [if_pos (.inl h), if_pos h]
  · rw [if_neg (by omega), if_neg h, show min (((2001 : Nat) : Int) - 1) v2 = v2 by omega]
theorem sizes_in (s : Sh) (k : Wk) (x : Wx) (c : Cd) : 1 ≤ (sizesV s k x c).1 ∧ (sizesV s k x c).2 ≤ 2000 := by
  have hsp : ∀ h : Nat → Bool, splitAt h ≤ 2000 := fun h => by
    unfold splitAt
    cases e : (List.range 2000).find? h with
    | none => simp
    | some i => rw [List.find?_range_eq_some] at e; have := List.mem_range.1 e.2.1; simp; omega
  unfold sizesV
  split
  · exact ⟨by decide, by decide⟩
  · have := hsp fun i : Nat => canF s 3 k x c ((i : Int) + 1)
    exact ⟨by show (1 : Int) ≤ 1 + _; omega, by show ((splitAt _ : Nat) : Int) ≤ 2000; omega⟩
set_option maxRecDepth 100000 in
set_option maxHeartbeats 2000000 in
theorem rsz_err {w : World} {p : Sp} {c : Cd} {q : Int} (h : ShIn w p) (he : askE p.s q c ≠ 0) :
    Calls Try.prog 31 #[.agg #[.slice p.ka p.s.ks.length p.kc, .slice p.xa p.s.xs.length p.xc, .int .i64 p.s.flo, .int .i64 p.s.fhi, .int .i64 p.s.plo, .int .i64 p.s.phi], .int .i64 q, .agg #[.int .i64 c.wax, .int .i64 c.dia, .int .i64 c.dra, .int .i64 c.clo, .int .i64 c.chi]] w fun e w' => e = .returned (.tuple #[.agg #[.int .i64 0, .int .i64 0], .int .i64 (askE p.s q c)]) ∧ Below w.heap.size w w' := by
  have hb0 := (((Bx.nil w).alloc #[.slice p.ka p.s.ks.length p.kc, .slice p.xa p.s.xs.length p.xc, .int .i64 p.s.flo, .int .i64 p.s.fhi, .int .i64 p.s.plo, .int .i64 p.s.phi] 27).alloc #[.int .i64 c.wax, .int .i64 c.dia, .int .i64 c.dra, .int .i64 c.clo, .int .i64 c.chi] 34).alloc #[.int .i64 0, .int .i64 0] 25
  simp only [World.size_alloc] at hb0
  have HB := Lib.hid hb0
  have HA := Lib.hid (fun (W : World) (hb : Below w.heap.size w W) => rasked_any q c (h.on hb))
  have hz : (askE p.s q c != 0) = true := by simpa using he
  clear h hb0 he
  generalize askE p.s q c = z at *
  go_enter Try.func31, Try.ntmps31
  go_wp2_with (first
    | (go_at_call 52; (with_reducible refine (HA.out _ HB.out.b).mono ?_); rintro e w1 ⟨rfl, hb⟩; have HC := Lib.hid (HB.out.on hb); clear hb; have rb : Blk _ (w.heap.size + 1 + 1) 25 #[.int .i64 0, .int .i64 0] := HC.out.get (by simp); have r0 := rb.cell 0; have r1 := rb.cell 1; have rl := rb.lt; have rf0 := rb.frozen 0; have rf1 := rb.frozen 1; clear rb)
    | fail)
  refine bodyPost_ret (v := .tuple #[.agg #[.int .i64 0, .int .i64 0], .int .i64 z]) ?_ rfl ⟨rfl, ?_⟩
  · simp [results, Try.results31, go_sem, *]
  · repeat (first | (with_reducible exact HC.out.b) | with_reducible refine Below.setCell ?_ (by simp; try omega) _)
set_option maxRecDepth 100000 in
set_option maxHeartbeats 4000000 in
theorem rsz_all {w : World} {p : Sp} {c : Cd} {q v1 v2 : Int} {F : Int → List Int} (h1 : 1 ≤ v1) (h2 : v2 ≤ 2000)
    (HP : Hid (∀ d : Nat, 1 ≤ d → d ≤ 2000 → (F d = [] ↔ v1 ≤ v2 ∧ v1 ≤ (d : Int) ∧ (d : Int) ≤ v2)))
    (HA : Hid (∀ W, Below w.heap.size w W → Calls Try.prog 52 #[.agg #[.slice p.ka p.s.ks.length p.kc, .slice p.xa p.s.xs.length p.xc, .int .i64 p.s.flo, .int .i64 p.s.fhi, .int .i64 p.s.plo, .int .i64 p.s.phi], .int .i64 q, .agg #[.int .i64 c.wax, .int .i64 c.dia, .int .i64 c.dra, .int .i64 c.clo, .int .i64 c.chi]] W fun e w' => e = .returned (.int .i64 0) ∧ Below W.heap.size W w'))
    (HL : Hid (∀ d : Nat, 1 ≤ d → d ≤ 2000 → ∀ W, Below w.heap.size w W → Calls Try.prog 58 #[.agg #[.slice p.ka p.s.ks.length p.kc, .slice p.xa p.s.xs.length p.xc, .int .i64 p.s.flo, .int .i64 p.s.fhi, .int .i64 p.s.plo, .int .i64 p.s.phi], .int .i64 q, .agg #[.int .i64 c.wax, .int .i64 (d : Int), .int .i64 c.dra, .int .i64 c.clo, .int .i64 c.chi]] W fun e w' => ∃ v, e = .returned v ∧ IntsOut W.heap.size w' v (F d) ∧ Below W.heap.size W w')) :
    Calls Try.prog 31 #[.agg #[.slice p.ka p.s.ks.length p.kc, .slice p.xa p.s.xs.length p.xc, .int .i64 p.s.flo, .int .i64 p.s.fhi, .int .i64 p.s.plo, .int .i64 p.s.phi], .int .i64 q, .agg #[.int .i64 c.wax, .int .i64 c.dia, .int .i64 c.dra, .int .i64 c.clo, .int .i64 c.chi]] w fun e w' => e = .returned (.tuple #[.agg #[.int .i64 (sizesO (v1, v2)).1.1, .int .i64 (sizesO (v1, v2)).1.2], .int .i64 (sizesO (v1, v2)).2]) ∧ Below w.heap.size w w' := by
  have hb0 := (((Bx.nil w).alloc #[.slice p.ka p.s.ks.length p.kc, .slice p.xa p.s.xs.length p.xc, .int .i64 p.s.flo, .int .i64 p.s.fhi, .int .i64 p.s.plo, .int .i64 p.s.phi] 27).alloc #[.int .i64 c.wax, .int .i64 c.dia, .int .i64 c.dra, .int .i64 c.clo, .int .i64 c.chi] 34).alloc #[.int .i64 0, .int .i64 0] 25
  simp only [World.size_alloc] at hb0
  have HB := Lib.hid hb0
  have H12 := Lib.hid (And.intro h1 h2)
  have hz1 : (v1 == 0) = false := by simp only [beq_eq_false_iff_ne, ne_eq]; omega
  have HZ1 := Lib.hid hz1
  clear hb0 h1 h2 hz1
  go_enter Try.func31, Try.ntmps31
  go_wp2_with (first
    | (go_at_call 52; (with_reducible refine (HA.out _ HB.out.b).mono ?_); rintro e w1 ⟨rfl, hb⟩; have HC := Lib.hid (HB.out.on hb); clear hb)
    | fail)
  have HSZ : Hid (w.heap.size + 3 ≤ w1.heap.size) := by have hz : Blk w1 (w.heap.size + 1 + 1) 25 #[.int .i64 0, .int .i64 0] := HC.out.get (by simp); have := hz.lt; exact Lib.hid (by omega)
  have HX0 := Lib.hid ((HC.out.alloc #[.int .i64 0, .int .i64 0] 25).perm (l2 := [(w1.heap.size, 25, #[.int .i64 0, .int .i64 0]), (w.heap.size + 1, 34, #[.int .i64 c.wax, .int .i64 c.dia, .int .i64 c.dra, .int .i64 c.clo, .int .i64 c.chi]), (w.heap.size + 1 + 1, 25, #[.int .i64 0, .int .i64 0]), (w.heap.size, 27, #[.slice p.ka p.s.ks.length p.kc, .slice p.xa p.s.xs.length p.xc, .int .i64 p.s.flo, .int .i64 p.s.fhi, .int .i64 p.s.plo, .int .i64 p.s.phi])]) (fun q hq => by simp only [List.mem_cons, List.not_mem_nil, or_false] at hq ⊢; rcases hq with rfl | rfl | rfl | rfl <;> simp))
  go_loopw [10] (fun i W => ∃ (d : Nat) (dv : Int), 1 ≤ d ∧ d ≤ 2001 ∧ i = .int .i64 (d : Int) ∧ Hid (Bx w [(w1.heap.size, 25, #[.int .i64 (oV v1 v2 d).1, .int .i64 (oV v1 v2 d).2]), (w.heap.size + 1, 34, #[.int .i64 c.wax, .int .i64 dv, .int .i64 c.dra, .int .i64 c.clo, .int .i64 c.chi]), (w.heap.size + 1 + 1, 25, #[.int .i64 0, .int .i64 0]), (w.heap.size, 27, #[.slice p.ka p.s.ks.length p.kc, .slice p.xa p.s.xs.length p.xc, .int .i64 p.s.flo, .int .i64 p.s.fhi, .int .i64 p.s.plo, .int .i64 p.s.phi])] W)) (fun i _ => 2001 - (intOf i).toNat)
  case atStart => exact ⟨1, c.dia, by omega, by omega, rfl, by have e : oV v1 v2 1 = (0, 0) := by { unfold oV; rw [if_pos (.inr (by have := H12.out; omega))] }; rw [e]; exact HX0⟩
  case round =>
    obtain ⟨d, dv, hd1, hd2, rfl, HX⟩ := hrel
    by_cases hlt : d ≤ 2000
    · have hl4 : decide ((d : Int) ≤ 2000) = true := decide_eq_true (by omega)
      have HF := Lib.hid (HL.out d hd1 hlt)
      have hp := HP.out d hd1 hlt
      by_cases hin : v1 ≤ v2 ∧ v1 ≤ (d : Int) ∧ (d : Int) ≤ v2
      · have hn := hp.2 hin
        by_cases he : (d : Int) = v1
        · obtain ⟨e1, e2⟩ := oV_first (v1 := v1) (v2 := v2) (d := d) (by omega) he
          have HE2 := Lib.hid e2
          rw [e1] at HX
          rw [hn] at HF
          clear e1 e2 hp hin hn he
          have HX1 := Lib.hid (HX.out.perm (l2 := [(w.heap.size + 1, 34, #[.int .i64 c.wax, .int .i64 dv, .int .i64 c.dra, .int .i64 c.clo, .int .i64 c.chi]), (w1.heap.size, 25, #[.int .i64 0, .int .i64 0]), (w.heap.size + 1 + 1, 25, #[.int .i64 0, .int .i64 0]), (w.heap.size, 27, #[.slice p.ka p.s.ks.length p.kc, .slice p.xa p.s.xs.length p.xc, .int .i64 p.s.flo, .int .i64 p.s.fhi, .int .i64 p.s.plo, .int .i64 p.s.phi])]) (fun q hq => by simp only [List.mem_cons, List.not_mem_nil, or_false] at hq ⊢; rcases hq with rfl | rfl | rfl | rfl <;> simp))
          have cb : Blk _ (w.heap.size + 1) 34 #[.int .i64 c.wax, .int .i64 dv, .int .i64 c.dra, .int .i64 c.clo, .int .i64 c.chi] := HX1.out.get (by simp); have c0 := cb.cell 0; have c1 := cb.cell 1; have c2 := cb.cell 2; have c3 := cb.cell 3; have c4 := cb.cell 4; have cl := cb.lt; have cf := cb.frozen 1; clear cb
          go_upto_region 9 with (fail)
          have hj := HX1.out.lay 1 (.int .i64 (d : Int)) (by have := HSZ.out; intro q hq; simp only [List.mem_cons, List.not_mem_nil, or_false] at hq; rcases hq with rfl | rfl | rfl <;> (simp only; omega))
          simp only [List.setIfInBounds_toArray, List.set_cons_zero, List.set_cons_succ] at hj
          generalize World.setCell _ _ _ = W2 at hj ⊢
          have HJ := Lib.hid hj
          clear hj HX1 c0 c1 c2 c3 c4 cl cf
          have sb : Blk _ (w.heap.size) 27 #[.slice p.ka p.s.ks.length p.kc, .slice p.xa p.s.xs.length p.xc, .int .i64 p.s.flo, .int .i64 p.s.fhi, .int .i64 p.s.plo, .int .i64 p.s.phi] := HJ.out.get (by simp); have s0 := sb.cell 0; have s1 := sb.cell 1; have s2 := sb.cell 2; have s3 := sb.cell 3; have s4 := sb.cell 4; have s5 := sb.cell 5; have sl := sb.lt; clear sb; have cb : Blk _ (w.heap.size + 1) 34 #[.int .i64 c.wax, .int .i64 (d : Int), .int .i64 c.dra, .int .i64 c.clo, .int .i64 c.chi] := HJ.out.get (by simp); have c0 := cb.cell 0; have c1 := cb.cell 1; have c2 := cb.cell 2; have c3 := cb.cell 3; have c4 := cb.cell 4; have cl := cb.lt; clear cb
          go_wp2_with (first
            | (go_at_call 58; (with_reducible refine (HF.out _ HJ.out.b).mono ?_); rintro e w5 ⟨v, rfl, hv, hb⟩; obtain ⟨A5, n5, rfl, -⟩ := hv.in_; have HX5 := Lib.hid ((HJ.out.on hb).perm (l2 := [(w1.heap.size, 25, #[.int .i64 0, .int .i64 0]), (w.heap.size + 1, 34, #[.int .i64 c.wax, .int .i64 (d : Int), .int .i64 c.dra, .int .i64 c.clo, .int .i64 c.chi]), (w.heap.size + 1 + 1, 25, #[.int .i64 0, .int .i64 0]), (w.heap.size, 27, #[.slice p.ka p.s.ks.length p.kc, .slice p.xa p.s.xs.length p.xc, .int .i64 p.s.flo, .int .i64 p.s.fhi, .int .i64 p.s.plo, .int .i64 p.s.phi])]) (fun q hq => by simp only [List.mem_cons, List.not_mem_nil, or_false] at hq ⊢; rcases hq with rfl | rfl | rfl | rfl <;> simp)); clear hb hv s0 s1 s2 s3 s4 s5 sl c0 c1 c2 c3 c4 cl; have ab : Blk _ w1.heap.size 25 #[.int .i64 0, .int .i64 0] := HX5.out.get (by simp); have a0 := ab.cell 0; have a1 := ab.cell 1; have al := ab.lt; have af0 := ab.frozen 0; have af1 := ab.frozen 1; clear ab)
            | fail)
          have hj6 := (HX5.out.lay 0 (.int .i64 (d : Int)) (by have := HSZ.out; intro q hq; simp only [List.mem_cons, List.not_mem_nil, or_false] at hq; rcases hq with rfl | rfl | rfl <;> (simp only; omega))).lay 1 (.int .i64 (d : Int)) (by have := HSZ.out; intro q hq; simp only [List.mem_cons, List.not_mem_nil, or_false] at hq; rcases hq with rfl | rfl | rfl <;> (simp only; omega))
          simp only [List.setIfInBounds_toArray, List.set_cons_zero, List.set_cons_succ] at hj6
          have HX6 := Lib.hid hj6
          clear hj6
          go_roundw
          case rel => exact ⟨d + 1, (d : Int), by omega, by omega, by go_num, by rw [HE2.out]; exact HX6⟩
          case measure => simp [intOf]; omega
        · obtain ⟨e1, e2⟩ := oV_more (v1 := v1) (v2 := v2) (d := d) (by omega) (show v1 < (d : Int) by omega) hin.2.2
          have HE2 := Lib.hid e2
          have hz1 := HZ1.out
          rw [e1] at HX
          rw [hn] at HF
          clear e1 e2 hp hin hn he
          generalize (d : Int) - 1 = o2 at HX
          have HX1 := Lib.hid (HX.out.perm (l2 := [(w.heap.size + 1, 34, #[.int .i64 c.wax, .int .i64 dv, .int .i64 c.dra, .int .i64 c.clo, .int .i64 c.chi]), (w1.heap.size, 25, #[.int .i64 v1, .int .i64 o2]), (w.heap.size + 1 + 1, 25, #[.int .i64 0, .int .i64 0]), (w.heap.size, 27, #[.slice p.ka p.s.ks.length p.kc, .slice p.xa p.s.xs.length p.xc, .int .i64 p.s.flo, .int .i64 p.s.fhi, .int .i64 p.s.plo, .int .i64 p.s.phi])]) (fun q hq => by simp only [List.mem_cons, List.not_mem_nil, or_false] at hq ⊢; rcases hq with rfl | rfl | rfl | rfl <;> simp))
          have cb : Blk _ (w.heap.size + 1) 34 #[.int .i64 c.wax, .int .i64 dv, .int .i64 c.dra, .int .i64 c.clo, .int .i64 c.chi] := HX1.out.get (by simp); have c0 := cb.cell 0; have c1 := cb.cell 1; have c2 := cb.cell 2; have c3 := cb.cell 3; have c4 := cb.cell 4; have cl := cb.lt; have cf := cb.frozen 1; clear cb
          go_upto_region 9 with (fail)
          have hj := HX1.out.lay 1 (.int .i64 (d : Int)) (by have := HSZ.out; intro q hq; simp only [List.mem_cons, List.not_mem_nil, or_false] at hq; rcases hq with rfl | rfl | rfl <;> (simp only; omega))
          simp only [List.setIfInBounds_toArray, List.set_cons_zero, List.set_cons_succ] at hj
          generalize World.setCell _ _ _ = W2 at hj ⊢
          have HJ := Lib.hid hj
          clear hj HX1 c0 c1 c2 c3 c4 cl cf
          have sb : Blk _ (w.heap.size) 27 #[.slice p.ka p.s.ks.length p.kc, .slice p.xa p.s.xs.length p.xc, .int .i64 p.s.flo, .int .i64 p.s.fhi, .int .i64 p.s.plo, .int .i64 p.s.phi] := HJ.out.get (by simp); have s0 := sb.cell 0; have s1 := sb.cell 1; have s2 := sb.cell 2; have s3 := sb.cell 3; have s4 := sb.cell 4; have s5 := sb.cell 5; have sl := sb.lt; clear sb; have cb : Blk _ (w.heap.size + 1) 34 #[.int .i64 c.wax, .int .i64 (d : Int), .int .i64 c.dra, .int .i64 c.clo, .int .i64 c.chi] := HJ.out.get (by simp); have c0 := cb.cell 0; have c1 := cb.cell 1; have c2 := cb.cell 2; have c3 := cb.cell 3; have c4 := cb.cell 4; have cl := cb.lt; clear cb
          go_wp2_with (first
            | (go_at_call 58; (with_reducible refine (HF.out _ HJ.out.b).mono ?_); rintro e w5 ⟨v, rfl, hv, hb⟩; obtain ⟨A5, n5, rfl, -⟩ := hv.in_; have HX5 := Lib.hid ((HJ.out.on hb).perm (l2 := [(w1.heap.size, 25, #[.int .i64 v1, .int .i64 o2]), (w.heap.size + 1, 34, #[.int .i64 c.wax, .int .i64 (d : Int), .int .i64 c.dra, .int .i64 c.clo, .int .i64 c.chi]), (w.heap.size + 1 + 1, 25, #[.int .i64 0, .int .i64 0]), (w.heap.size, 27, #[.slice p.ka p.s.ks.length p.kc, .slice p.xa p.s.xs.length p.xc, .int .i64 p.s.flo, .int .i64 p.s.fhi, .int .i64 p.s.plo, .int .i64 p.s.phi])]) (fun q hq => by simp only [List.mem_cons, List.not_mem_nil, or_false] at hq ⊢; rcases hq with rfl | rfl | rfl | rfl <;> simp)); clear hb hv s0 s1 s2 s3 s4 s5 sl c0 c1 c2 c3 c4 cl; have ab : Blk _ w1.heap.size 25 #[.int .i64 v1, .int .i64 o2] := HX5.out.get (by simp); have a0 := ab.cell 0; have a1 := ab.cell 1; have al := ab.lt; have af0 := ab.frozen 0; have af1 := ab.frozen 1; clear ab)
            | fail)
          have hj6 := HX5.out.lay 1 (.int .i64 (d : Int)) (by have := HSZ.out; intro q hq; simp only [List.mem_cons, List.not_mem_nil, or_false] at hq; rcases hq with rfl | rfl | rfl <;> (simp only; omega))
          simp only [List.setIfInBounds_toArray, List.set_cons_zero, List.set_cons_succ] at hj6
          have HX6 := Lib.hid hj6
          clear hj6
          go_roundw
          case rel => exact ⟨d + 1, (d : Int), by omega, by omega, by go_num, by rw [HE2.out]; exact HX6⟩
          case measure => simp [intOf]; omega
      · have HE2 := Lib.hid (oV_out (v1 := v1) (v2 := v2) (d := d) (fun h => hin ⟨by omega, h.2⟩))
        have hn : F d ≠ [] := fun e => hin (hp.1 e)
        obtain ⟨L, hL⟩ : ∃ L, L = F d := ⟨_, rfl⟩
        rw [← hL] at HF hn
        have hz : ((L.length : Int) == 0) = false := by
          have : L.length ≠ 0 := fun e => hn (List.eq_nil_of_length_eq_zero e)
          simp only [beq_eq_false_iff_ne, ne_eq]; omega
        obtain ⟨o1, ho1⟩ : ∃ o, o = (oV v1 v2 d).1 := ⟨_, rfl⟩
        obtain ⟨o2, ho2⟩ : ∃ o, o = (oV v1 v2 d).2 := ⟨_, rfl⟩
        rw [← ho1, ← ho2] at HX
        have HO := Lib.hid (And.intro ho1 ho2)
        clear hp hin hn hL ho1 ho2
        have HX1 := Lib.hid (HX.out.perm (l2 := [(w.heap.size + 1, 34, #[.int .i64 c.wax, .int .i64 dv, .int .i64 c.dra, .int .i64 c.clo, .int .i64 c.chi]), (w1.heap.size, 25, #[.int .i64 o1, .int .i64 o2]), (w.heap.size + 1 + 1, 25, #[.int .i64 0, .int .i64 0]), (w.heap.size, 27, #[.slice p.ka p.s.ks.length p.kc, .slice p.xa p.s.xs.length p.xc, .int .i64 p.s.flo, .int .i64 p.s.fhi, .int .i64 p.s.plo, .int .i64 p.s.phi])]) (fun q hq => by simp only [List.mem_cons, List.not_mem_nil, or_false] at hq ⊢; rcases hq with rfl | rfl | rfl | rfl <;> simp))
        have cb : Blk _ (w.heap.size + 1) 34 #[.int .i64 c.wax, .int .i64 dv, .int .i64 c.dra, .int .i64 c.clo, .int .i64 c.chi] := HX1.out.get (by simp); have c0 := cb.cell 0; have c1 := cb.cell 1; have c2 := cb.cell 2; have c3 := cb.cell 3; have c4 := cb.cell 4; have cl := cb.lt; have cf := cb.frozen 1; clear cb
        go_upto_region 9 with (fail)
        have hj := HX1.out.lay 1 (.int .i64 (d : Int)) (by have := HSZ.out; intro q hq; simp only [List.mem_cons, List.not_mem_nil, or_false] at hq; rcases hq with rfl | rfl | rfl <;> (simp only; omega))
        simp only [List.setIfInBounds_toArray, List.set_cons_zero, List.set_cons_succ] at hj
        generalize World.setCell _ _ _ = W2 at hj ⊢
        have HJ := Lib.hid hj
        clear hj HX1 c0 c1 c2 c3 c4 cl cf
        have sb : Blk _ (w.heap.size) 27 #[.slice p.ka p.s.ks.length p.kc, .slice p.xa p.s.xs.length p.xc, .int .i64 p.s.flo, .int .i64 p.s.fhi, .int .i64 p.s.plo, .int .i64 p.s.phi] := HJ.out.get (by simp); have s0 := sb.cell 0; have s1 := sb.cell 1; have s2 := sb.cell 2; have s3 := sb.cell 3; have s4 := sb.cell 4; have s5 := sb.cell 5; have sl := sb.lt; clear sb; have cb : Blk _ (w.heap.size + 1) 34 #[.int .i64 c.wax, .int .i64 (d : Int), .int .i64 c.dra, .int .i64 c.clo, .int .i64 c.chi] := HJ.out.get (by simp); have c0 := cb.cell 0; have c1 := cb.cell 1; have c2 := cb.cell 2; have c3 := cb.cell 3; have c4 := cb.cell 4; have cl := cb.lt; clear cb
        go_wp2_with (first
          | (go_at_call 58; (with_reducible refine (HF.out _ HJ.out.b).mono ?_); rintro e w5 ⟨v, rfl, hv, hb⟩; obtain ⟨A5, n5, rfl, -⟩ := hv.in_; have HX5 := Lib.hid ((HJ.out.on hb).perm (l2 := [(w1.heap.size, 25, #[.int .i64 o1, .int .i64 o2]), (w.heap.size + 1, 34, #[.int .i64 c.wax, .int .i64 (d : Int), .int .i64 c.dra, .int .i64 c.clo, .int .i64 c.chi]), (w.heap.size + 1 + 1, 25, #[.int .i64 0, .int .i64 0]), (w.heap.size, 27, #[.slice p.ka p.s.ks.length p.kc, .slice p.xa p.s.xs.length p.xc, .int .i64 p.s.flo, .int .i64 p.s.fhi, .int .i64 p.s.plo, .int .i64 p.s.phi])]) (fun q hq => by simp only [List.mem_cons, List.not_mem_nil, or_false] at hq ⊢; rcases hq with rfl | rfl | rfl | rfl <;> simp)); clear hb hv s0 s1 s2 s3 s4 s5 sl c0 c1 c2 c3 c4 cl)
          | fail)
        go_roundw
        case rel => exact ⟨d + 1, (d : Int), by omega, by omega, by go_num, by rw [HE2.out, ← HO.out.1, ← HO.out.2]; exact HX5⟩
        case measure => simp [intOf]; omega
    · have hl4 : decide ((d : Int) ≤ 2000) = false := decide_eq_false (by omega)
      have e := oV_last H12.out.1 H12.out.2
      rw [show d = 2001 by omega, e] at HX
      by_cases hv : v2 < v1
      · rw [if_pos hv] at HX
        have HSO : Hid (sizesO (v1, v2) = ((0, 0), 9)) := Lib.hid (by unfold sizesO; rw [if_pos hv])
        clear e hv
        have ab : Blk _ w1.heap.size 25 #[.int .i64 0, .int .i64 0] := HX.out.get (by simp); have a0 := ab.cell 0; have a1 := ab.cell 1; have al := ab.lt; clear ab; have rb : Blk _ (w.heap.size + 1 + 1) 25 #[.int .i64 0, .int .i64 0] := HX.out.get (by simp); have r0 := rb.cell 0; have r1 := rb.cell 1; have rl := rb.lt; have rf0 := rb.frozen 0; have rf1 := rb.frozen 1; clear rb
        go_wp2_with fail
        refine bodyPost_ret (v := .tuple #[.agg #[.int .i64 0, .int .i64 0], .int .i64 9]) ?_ rfl ⟨by rw [HSO.out], ?_⟩
        · simp [results, Try.results31, go_sem, *]
        · repeat (first | (with_reducible exact HX.out.b) | with_reducible refine Below.setCell ?_ (by simp; try omega) _)
      · rw [if_neg hv] at HX
        have HSO : Hid (sizesO (v1, v2) = ((v1, v2), 0)) := Lib.hid (by unfold sizesO; rw [if_neg hv])
        have hz2 : (v2 == 0) = false := by have := H12.out; simp only [beq_eq_false_iff_ne, ne_eq]; omega
        clear e hv
        have ab : Blk _ w1.heap.size 25 #[.int .i64 v1, .int .i64 v2] := HX.out.get (by simp); have a0 := ab.cell 0; have a1 := ab.cell 1; have al := ab.lt; clear ab; have rb : Blk _ (w.heap.size + 1 + 1) 25 #[.int .i64 0, .int .i64 0] := HX.out.get (by simp); have r0 := rb.cell 0; have r1 := rb.cell 1; have rl := rb.lt; have rf0 := rb.frozen 0; have rf1 := rb.frozen 1; clear rb
        go_wp2_with fail
        refine bodyPost_ret (v := .tuple #[.agg #[.int .i64 v1, .int .i64 v2], .int .i64 0]) ?_ rfl ⟨by rw [HSO.out], ?_⟩
        · simp [results, Try.results31, go_sem, *]
        · repeat (first | (with_reducible exact HX.out.b) | with_reducible refine Below.setCell ?_ (by simp; try omega) _)
theorem rsz_ok {w : World} {p : Sp} {c : Cd} {q : Int} {k : Wk} {x : Wx} (h : ShIn w p) (ha : Ask p.s q c k x) (hs : askE p.s q c = 0) :
    Calls Try.prog 31 #[.agg #[.slice p.ka p.s.ks.length p.kc, .slice p.xa p.s.xs.length p.xc, .int .i64 p.s.flo, .int .i64 p.s.fhi, .int .i64 p.s.plo, .int .i64 p.s.phi], .int .i64 q, .agg #[.int .i64 c.wax, .int .i64 c.dia, .int .i64 c.dra, .int .i64 c.clo, .int .i64 c.chi]] w fun e w' => e = .returned (.tuple #[.agg #[.int .i64 (sizesO (sizesV p.s k x c)).1.1, .int .i64 (sizesO (sizesV p.s k x c)).1.2], .int .i64 (sizesO (sizesV p.s k x c)).2]) ∧ Below w.heap.size w w' := by
  have hi := sizes_in p.s k x c
  have HA := Lib.hid (fun (W : World) (hb : Below w.heap.size w W) => rasked_any q c (h.on hb))
  rw [hs] at HA
  have hpo := ha.sh.po
  exact rsz_all (v1 := (sizesV p.s k x c).1) (v2 := (sizesV p.s k x c).2) (F := fun d => faultsL p.s k x (cdD c d)) hi.1 hi.2 (Lib.hid fun d h1 h2 => (sizes_law ⟨hpo.1, by omega⟩ ⟨by omega, by omega⟩).trans (by rw [Int.not_lt])) HA
    (Lib.hid fun d h1 h2 W hW => rlisted_any (c := cdD c d) (h.on hW) ⟨ha.sh, ha.h0, ha.hk, ha.hx, ⟨ha.cd.wax, ⟨by show (1 : Int) ≤ (d : Int); omega, by show (d : Int) ≤ 2000; omega⟩, ha.cd.dra, ha.cd.cold⟩⟩)
end Go.Proofs.Ytkjfommdeljefaa
