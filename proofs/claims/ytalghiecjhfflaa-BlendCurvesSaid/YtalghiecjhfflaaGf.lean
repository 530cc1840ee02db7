/- Layer blend, a part: waxes, recipes, wishes. No statement is proved here. -/
import Derived.Test.YtalghiecjhfflaaGe
namespace Go.Proofs.Ytalghiecjhfflaa
open Go.RowKit Go.Shelf Go.Maps
attribute [local go_sem] Oper.semAt_some

theorem within_oneB {w : World} (a b x : Int) {A : Option Addr} {c : Nat} (h : IntsIn w A [x]) :
    Calls Try.prog 48 #[.int .i64 a, .int .i64 b, .slice A 1 c] w fun e w' => e = .returned (.bool (inB x a b)) ∧ Below w.heap.size w w' :=
  (within_one (c := c) a b x h).mono fun e w' h => ⟨h.1, by rw [h.2]; exact Below.refl _ _⟩
theorem span1_at {w : World} {g : Nat} {a b : Int} (h : g = w.heap.size) : SpansIn (w.alloc (.cells #[.int .i64 a, .int .i64 b] 36)) (some ⟨g, 0, none⟩) [(a, b)] := spans_blk (Blk.newat h) rfl (by simp)
theorem spanWithin_one {w : World} (m a b : Int) {A : Option Addr} {c : Nat} (h : SpansIn w A [(a, b)]) :
    Calls Try.prog 82 #[.int .i64 m, .slice A 1 c] w fun e w' => e = .returned (.bool (spanB m (a, b))) ∧ Below w.heap.size w w' :=
  (spanWithin_any (c := c) m h).mono fun e w' h => ⟨by rw [h.1]; simp [spansB], h.2⟩
/-- The error of a wax, in the order in which the program asks. -/
def bwQ (bef : List Bw) (x : Bw) : Int := if nameB x.nm = false then 6 else if bef.any (fun y => y.nm.toList == x.nm.toList) = true then 5 else if inB x.pr 0 100000 = false then 7 else if spanB 2000 (x.mlo, x.mhi) = false then 7 else if spanB 1000 (x.slo, x.shi) = false then 7 else if decide (x.mhi < x.mlo) = true then 2 else if decide (x.shi < x.slo) = true then 2 else if decide (6 < x.cv.length) = true then 3 else curveE (-1) x.cv
theorem bwE_Q {l : List Bw} {i : Nat} {x : Bw} (hx : l[i]? = some x) : bwE l i = bwQ (l.take i) x := by
  have hn : nameErr ((l.take i).map Bw.nm) x.nm = if nameB x.nm = true then (if (l.take i).any (fun y => y.nm.toList == x.nm.toList) = true then 5 else 0) else 6 := by
    unfold nameErr
    rw [List.any_map]; rfl
  simp only [bwE, hx, hn, rangeE_all, allB_one, bwQ, spanB]
  rcases Bool.eq_false_or_eq_true (nameB x.nm) with a | a
  · rcases Bool.eq_false_or_eq_true ((l.take i).any (fun y => y.nm.toList == x.nm.toList)) with b | b
    · simp only [a, b]; rfl
    · simp only [a, b]
      rcases Bool.eq_false_or_eq_true (inB x.pr 0 100000) with c | c <;> rcases Bool.eq_false_or_eq_true (allB 0 2000 [x.mlo, x.mhi]) with d | d <;> rcases Bool.eq_false_or_eq_true (allB 0 1000 [x.slo, x.shi]) with e | e <;> by_cases h1 : x.mhi < x.mlo <;> by_cases h2 : x.shi < x.slo <;> simp [c, d, e, h1, h2]
  · simp only [a]; rfl
set_option maxRecDepth 100000 in
set_option maxHeartbeats 4000000 in
theorem waxE_any {w : World} {A : Option Addr} {c i : Nat} {l : List Bw} (h : BwsIn w A l) (hc : l.length ≤ c) (hi : i < l.length) :
    Calls Try.prog 49 #[.slice A l.length c, .int .i64 (i : Int)] w fun e w' => e = .returned (.int .i64 (bwE l i)) ∧ Below w.heap.size w w' := by
  obtain ⟨x, hx⟩ : ∃ x, l[i]? = some x := ⟨l[i], List.getElem?_eq_getElem hi⟩
  have hl := h.len
  have hnm := h.nm x (List.mem_of_getElem? hx)
  have hcl := (h.cv x (List.mem_of_getElem? hx)).len
  have HV := Lib.hid (fun (W : World) (hb : Below w.heap.size w W) => (h.cv x (List.mem_of_getElem? hx)).on hb)
  have HE := Lib.hid (bwE_Q hx)
  have HH := Lib.hid h
  have htk : (l.take i).length = i := by rw [List.length_take]; omega
  have hic : i ≤ c := by omega
  obtain ⟨b, o, rfl, hbb, c0, c1, c2, c3, c4, c5, c6⟩ := h.get hx
  have HS0 := Lib.hid ((Bx.nil w).alloc #[.string x.nm, .int .i64 x.pr, .int .i64 x.mlo, .int .i64 x.mhi, .int .i64 x.slo, .int .i64 x.shi, .slice x.ca x.cv.length x.cc] 78)
  have HN := Lib.hid (fun (W : World) => name_any x.nm W hnm)
  clear h hx
  go_enter Try.func49, Try.ntmps49
  go_wp2_with fail
  clear c0 c1 c2 c3 c4 c5 c6
  refine (HN.out _).mono ?_
  rintro e w1 ⟨rfl, hb⟩
  have HS1 := Lib.hid (HS0.out.on hb)
  clear hb HS0
  have HZ1 : Hid (nameB x.nm = false) ∨ Hid (nameB x.nm = true) := by
    cases hz : nameB x.nm with
    | false => exact .inl rfl
    | true => exact .inr rfl
  rcases HZ1 with HZ1 | HZ1
  · rw [HZ1.out]
    go_wp2_with fail
    go_ret
    exact ⟨ret_i64 (by rw [HE.out]; simp only [bwQ, HZ1.out]; rfl), HS1.out.b⟩
  · rw [HZ1.out]
    have hk := HS1.out.get (g := w.heap.size) (cs := #[.string x.nm, .int .i64 x.pr, .int .i64 x.mlo, .int .i64 x.mhi, .int .i64 x.slo, .int .i64 x.shi, .slice x.ca x.cv.length x.cc]) (T := 78) (by simp)
    have k0 := hk.cell 0; have k1 := hk.cell 1; have k2 := hk.cell 2; have k3 := hk.cell 3; have k4 := hk.cell 4; have k5 := hk.cell 5; have k6 := hk.cell 6
    clear hk
    go_wp2_with fail
    refine (contBw_any (z := x) (c := c) (l := l.take i) (n := i) htk ((HH.out.on HS1.out.b).take i) (HS1.out.get (g := w.heap.size) (by simp))).mono ?_
    rintro e w2 ⟨rfl, hb⟩
    have HS2 := Lib.hid (HS1.out.on hb)
    clear hb HS1 k0 k1 k2 k3 k4 k5 k6
    have HZ2 : Hid ((l.take i).any (fun y => y.nm.toList == x.nm.toList) = true) ∨ Hid ((l.take i).any (fun y => y.nm.toList == x.nm.toList) = false) := by
      cases hz : (l.take i).any (fun y => y.nm.toList == x.nm.toList) with
      | true => exact .inl rfl
      | false => exact .inr rfl
    rcases HZ2 with HZ2 | HZ2
    · rw [HZ2.out]
      go_wp2_with fail
      go_ret
      exact ⟨ret_i64 (by rw [HE.out]; simp only [bwQ, HZ1.out, HZ2.out]; rfl), HS2.out.b⟩
    · rw [HZ2.out]
      have hk := HS2.out.get (g := w.heap.size) (cs := #[.string x.nm, .int .i64 x.pr, .int .i64 x.mlo, .int .i64 x.mhi, .int .i64 x.slo, .int .i64 x.shi, .slice x.ca x.cv.length x.cc]) (T := 78) (by simp)
      have k0 := hk.cell 0; have k1 := hk.cell 1; have k2 := hk.cell 2; have k3 := hk.cell 3; have k4 := hk.cell 4; have k5 := hk.cell 5; have k6 := hk.cell 6
      clear hk
      go_wp2_with fail
      refine (within_oneB 0 100000 x.pr (c := 1) (ints1_at (by simp))).mono ?_
      rintro e w3 ⟨rfl, hb⟩
      have HS3 := Lib.hid ((HS2.out.alloc _ _).on hb)
      clear hb HS2 k0 k1 k2 k3 k4 k5 k6
      have HZ3 : Hid (inB x.pr 0 100000 = false) ∨ Hid (inB x.pr 0 100000 = true) := by
        cases hz : inB x.pr 0 100000 with
        | false => exact .inl rfl
        | true => exact .inr rfl
      rcases HZ3 with HZ3 | HZ3
      · rw [HZ3.out]
        go_wp2_with fail
        go_ret
        exact ⟨ret_i64 (by rw [HE.out]; simp only [bwQ, HZ1.out, HZ2.out, HZ3.out]; rfl), HS3.out.b⟩
      · rw [HZ3.out]
        have hk := HS3.out.get (g := w.heap.size) (cs := #[.string x.nm, .int .i64 x.pr, .int .i64 x.mlo, .int .i64 x.mhi, .int .i64 x.slo, .int .i64 x.shi, .slice x.ca x.cv.length x.cc]) (T := 78) (by simp)
        have k0 := hk.cell 0; have k1 := hk.cell 1; have k2 := hk.cell 2; have k3 := hk.cell 3; have k4 := hk.cell 4; have k5 := hk.cell 5; have k6 := hk.cell 6
        clear hk
        go_wp2_with fail
        refine (spanWithin_one 2000 x.mlo x.mhi (c := 1) (span1_at (by simp))).mono ?_
        rintro e w4 ⟨rfl, hb⟩
        have HS4 := Lib.hid ((HS3.out.alloc _ _).on hb)
        clear hb HS3 k0 k1 k2 k3 k4 k5 k6
        have HZ4 : Hid (spanB 2000 (x.mlo, x.mhi) = false) ∨ Hid (spanB 2000 (x.mlo, x.mhi) = true) := by
          cases hz : spanB 2000 (x.mlo, x.mhi) with
          | false => exact .inl rfl
          | true => exact .inr rfl
        rcases HZ4 with HZ4 | HZ4
        · rw [HZ4.out]
          go_wp2_with fail
          go_ret
          exact ⟨ret_i64 (by rw [HE.out]; simp only [bwQ, HZ1.out, HZ2.out, HZ3.out, HZ4.out]; rfl), HS4.out.b⟩
        · rw [HZ4.out]
          have hk := HS4.out.get (g := w.heap.size) (cs := #[.string x.nm, .int .i64 x.pr, .int .i64 x.mlo, .int .i64 x.mhi, .int .i64 x.slo, .int .i64 x.shi, .slice x.ca x.cv.length x.cc]) (T := 78) (by simp)
          have k0 := hk.cell 0; have k1 := hk.cell 1; have k2 := hk.cell 2; have k3 := hk.cell 3; have k4 := hk.cell 4; have k5 := hk.cell 5; have k6 := hk.cell 6
          clear hk
          go_wp2_with fail
          refine (spanWithin_one 1000 x.slo x.shi (c := 1) (span1_at (by simp))).mono ?_
          rintro e w5 ⟨rfl, hb⟩
          have HS5 := Lib.hid ((HS4.out.alloc _ _).on hb)
          clear hb HS4 k0 k1 k2 k3 k4 k5 k6
          have HZ5 : Hid (spanB 1000 (x.slo, x.shi) = false) ∨ Hid (spanB 1000 (x.slo, x.shi) = true) := by
            cases hz : spanB 1000 (x.slo, x.shi) with
            | false => exact .inl rfl
            | true => exact .inr rfl
          rcases HZ5 with HZ5 | HZ5
          · rw [HZ5.out]
            go_wp2_with fail
            go_ret
            exact ⟨ret_i64 (by rw [HE.out]; simp only [bwQ, HZ1.out, HZ2.out, HZ3.out, HZ4.out, HZ5.out]; rfl), HS5.out.b⟩
          · rw [HZ5.out]
            have hk := HS5.out.get (g := w.heap.size) (cs := #[.string x.nm, .int .i64 x.pr, .int .i64 x.mlo, .int .i64 x.mhi, .int .i64 x.slo, .int .i64 x.shi, .slice x.ca x.cv.length x.cc]) (T := 78) (by simp)
            have k0 := hk.cell 0; have k1 := hk.cell 1; have k2 := hk.cell 2; have k3 := hk.cell 3; have k4 := hk.cell 4; have k5 := hk.cell 5; have k6 := hk.cell 6
            clear hk
            go_wp2_with fail
            refine (empty_any x.mlo x.mhi _).mono ?_
            rintro e w6 ⟨rfl, hb⟩
            have HS6 := Lib.hid (HS5.out.on hb)
            clear hb HS5 k0 k1 k2 k3 k4 k5 k6
            have HZ6 : Hid (decide (x.mhi < x.mlo) = true) ∨ Hid (decide (x.mhi < x.mlo) = false) := by
              cases hz : decide (x.mhi < x.mlo) with
              | true => exact .inl rfl
              | false => exact .inr rfl
            rcases HZ6 with HZ6 | HZ6
            · rw [HZ6.out]
              go_wp2_with fail
              go_ret
              exact ⟨ret_i64 (by rw [HE.out]; simp only [bwQ, HZ1.out, HZ2.out, HZ3.out, HZ4.out, HZ5.out, HZ6.out]; rfl), HS6.out.b⟩
            · rw [HZ6.out]
              have hk := HS6.out.get (g := w.heap.size) (cs := #[.string x.nm, .int .i64 x.pr, .int .i64 x.mlo, .int .i64 x.mhi, .int .i64 x.slo, .int .i64 x.shi, .slice x.ca x.cv.length x.cc]) (T := 78) (by simp)
              have k0 := hk.cell 0; have k1 := hk.cell 1; have k2 := hk.cell 2; have k3 := hk.cell 3; have k4 := hk.cell 4; have k5 := hk.cell 5; have k6 := hk.cell 6
              clear hk
              go_wp2_with fail
              refine (empty_any x.slo x.shi _).mono ?_
              rintro e w7 ⟨rfl, hb⟩
              have HS7 := Lib.hid (HS6.out.on hb)
              clear hb HS6 k0 k1 k2 k3 k4 k5 k6
              have HZ7 : Hid (decide (x.shi < x.slo) = true) ∨ Hid (decide (x.shi < x.slo) = false) := by
                cases hz : decide (x.shi < x.slo) with
                | true => exact .inl rfl
                | false => exact .inr rfl
              rcases HZ7 with HZ7 | HZ7
              · rw [HZ7.out]
                go_wp2_with fail
                go_ret
                exact ⟨ret_i64 (by rw [HE.out]; simp only [bwQ, HZ1.out, HZ2.out, HZ3.out, HZ4.out, HZ5.out, HZ6.out, HZ7.out]; rfl), HS7.out.b⟩
              · rw [HZ7.out]
                have hk := HS7.out.get (g := w.heap.size) (cs := #[.string x.nm, .int .i64 x.pr, .int .i64 x.mlo, .int .i64 x.mhi, .int .i64 x.slo, .int .i64 x.shi, .slice x.ca x.cv.length x.cc]) (T := 78) (by simp)
                have k0 := hk.cell 0; have k1 := hk.cell 1; have k2 := hk.cell 2; have k3 := hk.cell 3; have k4 := hk.cell 4; have k5 := hk.cell 5; have k6 := hk.cell 6
                clear hk
                by_cases h6 : 6 < x.cv.length
                · have HZ8 := Lib.hid (decide_eq_true h6)
                  have h6i : (6 : Int) < (x.cv.length : Int) := by omega
                  go_wp2_with fail
                  go_ret
                  exact ⟨ret_i64 (by rw [HE.out]; simp only [bwQ, HZ1.out, HZ2.out, HZ3.out, HZ4.out, HZ5.out, HZ6.out, HZ7.out, HZ8.out]; rfl), HS7.out.b⟩
                · have HZ8 := Lib.hid (decide_eq_false h6)
                  have h6i : ¬ (6 : Int) < (x.cv.length : Int) := by omega
                  have HL := Lib.hid (curve_any (c := x.cc) (HV.out _ HS7.out.b))
                  go_wp2_with fail
                  refine HL.out.mono ?_
                  rintro e w8 ⟨rfl, hb⟩
                  have HS8 := Lib.hid (HS7.out.on hb)
                  clear hb
                  go_wp2_with fail
                  go_ret
                  exact ⟨ret_i64 (by rw [HE.out]; simp only [bwQ, HZ1.out, HZ2.out, HZ3.out, HZ4.out, HZ5.out, HZ6.out, HZ7.out, HZ8.out]; rfl), HS8.out.b⟩
end Go.Proofs.Ytalghiecjhfflaa

namespace Go.Proofs.Ytalghiecjhfflaa
open Go.RowKit Go.Shelf Go.Maps
attribute [local go_sem] Oper.semAt_some

theorem ret_checkB {l : List Bw} {a b c : Int} (h : checkB l = (a, b, c)) : Ending.returned (.tuple #[.int .i64 a, .int .i64 b, .int .i64 c]) = .returned (.tuple #[.int .i64 (checkB l).1, .int .i64 (checkB l).2.1, .int .i64 (checkB l).2.2]) := by rw [h]
theorem checkB_n {l : List Bw} (h : inB l.length 1 5 = false) : checkB l = (1, 0, 3) := by unfold checkB; rw [if_neg (by simp [h])]
theorem checkB_k {l : List Bw} (h : inB l.length 1 5 = true) (k : Nat) (hk : k < l.length) (h0 : ∀ j, j < k → bwE l j = 0) (hz : bwE l k ≠ 0) : checkB l = (2, (k : Int), bwE l k) := by
  unfold checkB
  rw [if_pos h, firstAt_hit h0 hk hz]
theorem checkB_ok {l : List Bw} (h : inB l.length 1 5 = true) (h1 : ∀ j, j < l.length → bwE l j = 0) : checkB l = (0, 0, 0) := by
  unfold checkB
  rw [if_pos h, firstAt_none h1]
set_option maxRecDepth 100000 in
set_option maxHeartbeats 4000000 in
theorem check_any {w : World} {A : Option Addr} {c : Nat} {l : List Bw} (h : BwsIn w A l) (hc : l.length ≤ c) :
    Calls Try.prog 15 #[.slice A l.length c] w fun e w' => e = .returned (.tuple #[.int .i64 (checkB l).1, .int .i64 (checkB l).2.1, .int .i64 (checkB l).2.2]) ∧ Below w.heap.size w w' := by
  have hl := h.len
  have HH := Lib.hid h
  have HB0 := Lib.hid ((Below.refl _ w).alloc (Nat.le_refl _) (.cells #[.int .i64 (l.length : Int)] 3))
  clear h
  go_enter Try.func15, Try.ntmps15
  go_wp2_with fail
  refine (within_oneB 1 5 (l.length : Int) (c := 1) (ints1_at (by simp))).mono ?_
  rintro e w1 ⟨rfl, hb⟩
  have HB1 := Lib.hid (HB0.out.trans (hb.mono HB0.out.size))
  clear hb HB0
  cases hz : inB (l.length : Int) 1 5 with
  | false =>
    have H := Lib.hid (checkB_n hz)
    clear hz
    go_wp2_with fail
    go_ret3
    exact ⟨ret_checkB H.out, HB1.out⟩
  | true =>
    have HZ0 := Lib.hid hz
    clear hz
    go_wp2_with fail
    go_loopw [14] (fun i W => ∃ k : Nat, k ≤ l.length ∧ i = .int .i64 k ∧ Hid (∀ j, j < k → bwE l j = 0) ∧ Hid (Below w.heap.size w W)) (fun i _ => l.length - (intOf i).toNat)
    case atStart => exact ⟨0, by omega, rfl, fun j hj => absurd hj (by omega), HB1⟩
    case round =>
      obtain ⟨k, hk, rfl, HZ, HB⟩ := hrel
      by_cases hlt : k < l.length
      · have HC := Lib.hid (waxE_any (HH.out.on HB.out) hc hlt)
        by_cases hz : bwE l k = 0
        · rw [hz] at HC
          have HZ2 : Hid (∀ j, j < k + 1 → bwE l j = 0) := by
            intro j hj
            by_cases hjk : j = k
            · subst hjk; exact hz
            · exact HZ.out j (by omega)
          clear hz
          go_wp2_with (first | (refine HC.out.mono ?_; rintro e w1 ⟨rfl, hb⟩; have HB2 := Lib.hid (HB.out.trans (hb.mono HB.out.size)); clear hb) | fail)
          go_roundw
          case rel => exact ⟨k + 1, Nat.succ_le_of_lt hlt, by go_num, HZ2, HB2⟩
          case measure => exact meas_one hlt
        · have HR := Lib.hid (checkB_k HZ0.out k hlt HZ.out hz)
          have hz2 : (bwE l k != 0) = true := by simpa using hz
          generalize bwE l k = z at *
          clear hz
          go_wp2_with (first | (refine HC.out.mono ?_; rintro e w1 ⟨rfl, hb⟩; have HB2 := Lib.hid (HB.out.trans (hb.mono HB.out.size)); clear hb) | fail)
          go_ret3
          exact ⟨ret_checkB HR.out, HB2.out⟩
      · have H := Lib.hid (checkB_ok HZ0.out (fun j hj => HZ.out j (by omega)))
        clear HZ
        go_wp2_with fail
        go_ret3
        exact ⟨ret_checkB H.out, HB.out⟩
set_option maxRecDepth 100000 in
theorem waxes_any {w : World} {A : Option Addr} {c : Nat} {l : List Bw} (h : BwsIn w A l) (hc : l.length ≤ c) :
    Calls Try.prog 55 #[.slice A l.length c] w fun e w' => e = .returned (.int .i64 (bdE l)) ∧ Below w.heap.size w w' := by
  have HC := Lib.hid (check_any h hc)
  have HE := Lib.hid (show bdE l = (checkB l).2.2 from rfl)
  clear h
  generalize checkB l = z at *
  go_enter Try.func55, Try.ntmps55
  go_wp2_with fail
  refine HC.out.mono ?_
  rintro e w1 ⟨rfl, hb⟩
  have HB := Lib.hid hb
  clear hb
  go_wp2_with fail
  go_ret
  exact ⟨ret_i64 HE.out.symm, HB.out⟩
theorem indexE_any {w : World} {A : Option Addr} {c n : Nat} (i : Int) (hn : n ≤ 9223372036854775807) :
    Calls Try.prog 56 #[.slice A n c, .int .i64 i] w fun e w' => e = .returned (.int .i64 (idxE n i)) ∧ Below w.heap.size w w' := by
  have HB0 := Lib.hid ((Below.refl _ w).alloc (Nat.le_refl _) (.cells #[.int .i64 i] 3))
  have hw1 : IntKind.i64.wrap ((n : Int) - 1) = (n : Int) - 1 := IntWalk.i64_in _ (by omega)
  go_enter Try.func56, Try.ntmps56
  go_wp2_with fail
  refine (within_oneB 0 ((n : Int) - 1) i (c := 1) (ints1_at (by simp))).mono ?_
  rintro e w1 ⟨rfl, hb⟩
  have HB1 := Lib.hid (HB0.out.trans (hb.mono HB0.out.size))
  clear hb HB0
  cases hz : inB i 0 ((n : Int) - 1) with
  | false =>
    have HE := Lib.hid (show idxE n i = 4 by rw [idxE, hz]; rfl)
    clear hz
    go_wp2_with fail
    go_ret
    exact ⟨ret_i64 HE.out.symm, HB1.out⟩
  | true =>
    have HE := Lib.hid (show idxE n i = 0 by rw [idxE, hz]; rfl)
    clear hz
    go_wp2_with fail
    go_ret
    exact ⟨ret_i64 HE.out.symm, HB1.out⟩
end Go.Proofs.Ytalghiecjhfflaa

namespace Go.Proofs.Ytalghiecjhfflaa
open Go.RowKit Go.Shelf Go.Maps
attribute [local go_sem] Oper.semAt_some

/-- A sum as the program makes it. -/
def sumW (l : List Int) : Int := l.foldl (fun a x => wrap64 (a + x)) 0
theorem sumW_take {l : List Int} {k : Nat} {x : Int} (h : l[k]? = some x) : sumW (l.take (k + 1)) = wrap64 (sumW (l.take k) + x) := by
  unfold sumW
  rw [List.take_add_one, h, List.foldl_append]; rfl
theorem sumL_foldl : ∀ (l : List Int) (a : Int), (∀ x ∈ l, 0 ≤ x ∧ x ≤ 1000000000) → 0 ≤ a → a + 1000000000 * l.length ≤ 9000000000000000000 → l.foldl (fun a x => wrap64 (a + x)) a = a + sumL l
  | [], a, _, _, _ => by simp [sumL]
  | x :: l, a, h, ha, hb => by
    have hx := h x List.mem_cons_self
    have hl : ((x :: l).length : Int) = l.length + 1 := by simp
    rw [List.foldl_cons, IntWalk.wrap64_in _ (by omega), sumL_foldl l (a + x) (fun y hy => h y (List.mem_cons_of_mem _ hy)) (by omega) (by omega), sumL]
    omega
theorem sumW_eq {l : List Int} (h : ∀ x ∈ l, 0 ≤ x ∧ x ≤ 1000000000) (hl : l.length ≤ 1000000000) : sumW l = sumL l := by
  have := sumL_foldl l 0 h (Int.le_refl _) (by omega)
  unfold sumW
  omega
theorem self_any (n : Int) (w : World) : Calls Try.prog 88 #[.int .i64 n] w fun e w' => e = .returned (.int .i64 n) ∧ w' = w := by
  go_enter Try.func88, Try.ntmps88
  go_wp2_with fail
  go_ret
  exact ⟨rfl, rfl⟩
set_option maxRecDepth 100000 in
set_option maxHeartbeats 1000000 in
theorem sumI_any {w : World} {A : Option Addr} {c : Nat} {l : List Int} (h : IntsIn w A l) :
    Calls Try.prog 87 #[.slice A l.length c, .func (.func 88) #[] #[]] w fun e w' => e = .returned (.int .i64 (sumW l)) ∧ w' = w := by
  have HI := Lib.hid h
  have hl := h.len
  have HC := Lib.hid self_any
  have eg : ∀ args w, (callFunc 88 args).run Try.prog w = .ok (.enter 88 args) w := enters_of Try.func88 (by kernel_rfl) rfl
  clear h
  go_enter Try.func87, Try.ntmps87
  go_wp2_with fail
  go_loop [5, 10] (fun v i => ∃ k : Nat, k ≤ l.length ∧ i = .int .i64 k ∧ v = .int .i64 (sumW (l.take k))) (fun _ i => l.length - (intOf i).toNat)
  case atStart => exact ⟨0, by omega, rfl, rfl⟩
  case round =>
    obtain ⟨k, hk, rfl, rfl⟩ := hrel
    by_cases hlt : k < l.length
    · obtain ⟨x, hx⟩ : ∃ x, l[k]? = some x := ⟨l[k], List.getElem?_eq_getElem hlt⟩
      obtain ⟨bb, o, rfl, _, hcell⟩ := ints_at HI.out.at_ hx
      have HT := Lib.hid (sumW_take hx)
      clear hx
      generalize sumW (l.take k) = s0 at *
      go_wp2_with (first | (refine (HC.out x _).mono ?_; rintro e w1 ⟨rfl, rfl⟩) | fail)
      go_round
      case rel => exact ⟨k + 1, Nat.succ_le_of_lt hlt, by go_num, by rw [HT.out]⟩
      case measure => exact meas_one hlt
    · have H := Lib.hid (show sumW (l.take k) = sumW l by rw [List.take_of_length_le (by omega)])
      go_wp2_with fail
      go_ret
      exact ⟨ret_i64 H.out, rfl⟩
/-- The error of a recipe, as the program finds it. -/
def recQ (m : Nat) (r : List Int) : Int := if decide (r.length = m) = false then 3 else if allB 0 20 r = false then 7 else if decide (sumW r = 20) = false then 2 else 0
theorem recQ_eq {m : Nat} {r : List Int} (hm : m ≤ 1000000000) : recQ m r = recE m r := by
  unfold recQ recE
  by_cases h1 : r.length = m
  · rw [rangeE_all]
    cases h2 : allB 0 20 r with
    | false => simp [h1]
    | true =>
      have : sumW r = sumL r := sumW_eq (fun x hx => by
        have := List.all_eq_true.1 h2 x hx
        rw [inB_iff] at this
        omega) (by omega)
      by_cases h3 : sumL r = 20 <;> simp [h1, this, h3]
  · simp [h1]
set_option maxRecDepth 100000 in
set_option maxHeartbeats 1000000 in
theorem recE_any {w : World} {A0 A : Option Addr} {c0 c m n : Nat} {r : List Int} (hn : n = r.length) (h : IntsIn w A r) :
    Calls Try.prog 59 #[.slice A0 m c0, .slice A n c] w fun e w' => e = .returned (.int .i64 (recQ m r)) ∧ w' = w := by
  subst hn
  have hl := h.len
  have HW := Lib.hid (within_any (c := c) 0 20 h)
  have HS := Lib.hid (sumI_any (c := c) h)
  have HE := Lib.hid (show recQ m r = if decide (r.length = m) = false then 3 else if allB 0 20 r = false then 7 else if decide (sumW r = 20) = false then 2 else 0 from rfl)
  clear h
  by_cases h1 : r.length = m
  · have h1i : (r.length : Int) = (m : Int) := by omega
    have HZ1 := Lib.hid (decide_eq_true h1)
    cases h2 : allB 0 20 r with
    | false =>
      have H := Lib.hid (show recQ m r = 7 by rw [HE.out, HZ1.out, h2]; rfl)
      rw [h2] at HW
      clear HE h1
      go_enter Try.func59, Try.ntmps59
      go_wp2_with (first | (refine HW.out.mono ?_; rintro e w1 ⟨rfl, rfl⟩) | fail)
      go_ret
      exact ⟨ret_i64 H.out.symm, rfl⟩
    | true =>
      rw [h2] at HW
      by_cases h3 : sumW r = 20
      · have H := Lib.hid (show recQ m r = 0 by rw [HE.out, HZ1.out, h2, h3]; rfl)
        rw [h3] at HS
        clear HE h1 h3
        go_enter Try.func59, Try.ntmps59
        go_wp2_with (first | (go_at_call 48; refine HW.out.mono ?_; rintro e w1 ⟨rfl, rfl⟩) | (go_at_call 87; refine HS.out.mono ?_; rintro e w1 ⟨rfl, rfl⟩) | fail)
        go_ret
        exact ⟨ret_i64 H.out.symm, rfl⟩
      · have H := Lib.hid (show recQ m r = 2 by rw [HE.out, HZ1.out, h2, decide_eq_false h3]; rfl)
        generalize sumW r = s at *
        clear HE h1
        go_enter Try.func59, Try.ntmps59
        go_wp2_with (first | (go_at_call 48; refine HW.out.mono ?_; rintro e w1 ⟨rfl, rfl⟩) | (go_at_call 87; refine HS.out.mono ?_; rintro e w1 ⟨rfl, rfl⟩) | fail)
        go_ret
        exact ⟨ret_i64 H.out.symm, rfl⟩
  · have h1i : ¬ (r.length : Int) = (m : Int) := by omega
    have H := Lib.hid (show recQ m r = 3 by rw [HE.out, decide_eq_false h1]; rfl)
    clear HE h1
    go_enter Try.func59, Try.ntmps59
    go_wp2_with fail
    go_ret
    exact ⟨ret_i64 H.out.symm, rfl⟩
end Go.Proofs.Ytalghiecjhfflaa

namespace Go.Proofs.Ytalghiecjhfflaa
open Go.RowKit Go.Shelf Go.Maps
attribute [local go_sem] Oper.semAt_some

set_option maxRecDepth 100000 in
set_option maxHeartbeats 1000000 in
theorem idxS_any {w : World} {A : Option Addr} {c : Nat} {l : List (Int × Int)} (h : SpansIn w A l) :
    Calls Try.prog 101 #[.slice A l.length c, .func (.func 76) #[] #[]] w fun e w' => e = .returned (.int .i64 (idxL emptyB l 0)) ∧ Below w.heap.size w w' := by
  have HI := Lib.hid h
  have hl := h.len
  clear h
  go_enter Try.func101, Try.ntmps101
  go_wp2_with fail
  go_loopw [8] (fun i W => ∃ k : Nat, k ≤ l.length ∧ i = .int .i64 k ∧ Hid (idxL emptyB (l.drop k) k = idxL emptyB l 0) ∧ Hid (Below w.heap.size w W)) (fun i _ => l.length - (intOf i).toNat)
  case atStart => exact ⟨0, by omega, rfl, rfl, Below.refl _ _⟩
  case round =>
    obtain ⟨k, hk, rfl, HR, HB⟩ := hrel
    by_cases hlt : k < l.length
    · obtain ⟨⟨x, y⟩, hx⟩ : ∃ x, l[k]? = some x := ⟨l[k], List.getElem?_eq_getElem hlt⟩
      obtain ⟨bb, o, rfl, _, c0, c1⟩ := spans_at (HI.out.on HB.out).at_ hx
      have hd : l.drop k = (x, y) :: l.drop (k + 1) := drop_at hx
      have HD := Lib.hid (show idxL emptyB l 0 = if decide (y < x) = true then (k : Int) else idxL emptyB (l.drop (k + 1)) ((k : Int) + 1) by rw [← HR.out, hd, idxL]; rfl)
      have HC := Lib.hid (empty_any x y wr)
      clear hx hd HR
      go_wp2_with fail
      refine HC.out.mono ?_
      rintro e w1 ⟨rfl, hb⟩
      have HB := Lib.hid (HB.out.trans (hb.mono HB.out.size))
      clear hb HC
      by_cases h1 : y < x
      · have H := Lib.hid (show idxL emptyB l 0 = k by rw [HD.out, if_pos (by simpa using h1)])
        clear HD
        go_wp2_with fail
        go_ret
        exact ⟨ret_i64 H.out.symm, HB.out⟩
      · have H := Lib.hid (show idxL emptyB (l.drop (k + 1)) ((k + 1 : Nat) : Int) = idxL emptyB l 0 by rw [HD.out, if_neg (by simpa using h1)]; rfl)
        clear HD
        go_wp2_with fail
        go_roundw
        case rel => exact ⟨k + 1, Nat.succ_le_of_lt hlt, by go_num, H, HB⟩
        case measure => exact meas_one hlt
    · have H := Lib.hid (show idxL emptyB l 0 = -1 by rw [← HR.out, List.drop_eq_nil_of_le (by omega)]; rfl)
      clear HR
      go_wp2_with fail
      go_ret
      exact ⟨ret_i64 H.out.symm, HB.out⟩
theorem contS_any {w : World} {A : Option Addr} {c : Nat} {l : List (Int × Int)} (h : SpansIn w A l) :
    Calls Try.prog 95 #[.slice A l.length c, .func (.func 76) #[] #[]] w fun e w' => e = .returned (.bool (l.any emptyB)) ∧ Below w.heap.size w w' := by
  have HC := Lib.hid (idxS_any (c := c) h)
  have HE := Lib.hid (idxL_any emptyB l 0 (Int.le_refl _))
  clear h
  go_enter Try.func95, Try.ntmps95
  go_wp2_with fail
  refine HC.out.mono ?_
  rintro e w1 ⟨rfl, hb⟩
  go_wp2_with fail
  go_ret
  exact ⟨ret_bool (by have := HE.out; simpa using this), hb⟩
/-- The error of a wish, in the order in which the program asks. -/
def wishQ (m : Nat) (x : Ws) : Int := if decide (x.ps.length = m) = false then 3 else if spansB 20 x.ps = false then 7 else if spanB 2000 (x.mlo, x.mhi) = false then 7 else if spanB 1000 (x.slo, x.shi) = false then 7 else if x.ps.any emptyB = true then 2 else if decide (x.mhi < x.mlo) = true then 2 else if decide (x.shi < x.slo) = true then 2 else 0
theorem wishQ_eq (m : Nat) (x : Ws) : wishQ m x = wishE m x := by
  have h1 : (∃ s ∈ x.ps, rangeE 0 20 [s.1, s.2] ≠ 0) ↔ spansB 20 x.ps = false := by
    unfold spansB
    rw [List.all_eq_false]
    refine exists_congr fun s => and_congr_right fun _ => ?_
    rw [rangeE_all, spanB]
    cases allB 0 20 [s.1, s.2] <;> simp
  have h2 : (∃ s ∈ x.ps, s.2 < s.1) ↔ x.ps.any emptyB = true := by
    rw [List.any_eq_true]
    refine exists_congr fun s => and_congr_right fun _ => ?_
    simp [emptyB]
  have h3 (a b m : Int) : rangeE 0 m [a, b] ≠ 0 ↔ spanB m (a, b) = false := by
    rw [rangeE_all, spanB]
    cases allB 0 m [a, b] <;> simp
  unfold wishE
  by_cases h0 : x.ps.length = m
  · have z0 := decide_eq_true h0
    rw [if_neg (by simpa using h0)]
    split
    · rename_i hP
      rcases Bool.eq_false_or_eq_true (spansB 20 x.ps) with a | a
      · rcases Bool.eq_false_or_eq_true (spanB 2000 (x.mlo, x.mhi)) with b | b
        · rcases hP with p | p | p
          · rw [h1.1 p] at a; cases a
          · rw [(h3 _ _ _).1 p] at b; cases b
          · simp only [wishQ, z0, a, b, (h3 _ _ _).1 p]; rfl
        · simp only [wishQ, z0, a, b]; rfl
      · simp only [wishQ, z0, a]; rfl
    · rename_i hP
      have a : spansB 20 x.ps = true := by
        cases e : spansB 20 x.ps with
        | true => rfl
        | false => exact absurd (.inl (h1.2 e)) hP
      have b : spanB 2000 (x.mlo, x.mhi) = true := by
        cases e : spanB 2000 (x.mlo, x.mhi) with
        | true => rfl
        | false => exact absurd (.inr (.inl ((h3 _ _ _).2 e))) hP
      have c : spanB 1000 (x.slo, x.shi) = true := by
        cases e : spanB 1000 (x.slo, x.shi) with
        | true => rfl
        | false => exact absurd (.inr (.inr ((h3 _ _ _).2 e))) hP
      split
      · rename_i hQ
        rcases Bool.eq_false_or_eq_true (x.ps.any emptyB) with d | d
        · simp only [wishQ, z0, a, b, c, d]; rfl
        · rcases hQ with q | q | q
          · rw [h2.1 q] at d; cases d
          · simp only [wishQ, z0, a, b, c, d, decide_eq_true q]; rfl
          · by_cases q2 : x.mhi < x.mlo
            · simp only [wishQ, z0, a, b, c, d, decide_eq_true q2]; rfl
            · simp only [wishQ, z0, a, b, c, d, decide_eq_false q2, decide_eq_true q]; rfl
      · rename_i hQ
        have d : x.ps.any emptyB = false := by
          cases e : x.ps.any emptyB with
          | false => rfl
          | true => exact absurd (.inl (h2.2 e)) hQ
        simp only [wishQ, z0, a, b, c, d, decide_eq_false (fun q => hQ (.inr (.inl q))), decide_eq_false (fun q => hQ (.inr (.inr q)))]; rfl
  · rw [if_pos (by simpa using h0)]
    simp only [wishQ, decide_eq_false h0]; rfl
set_option maxRecDepth 100000 in
set_option maxHeartbeats 4000000 in
theorem wishE_any {w : World} {A0 pa : Option Addr} {c0 pc m : Nat} {x : Ws} (h : SpansIn w pa x.ps) :
    Calls Try.prog 69 #[.slice A0 m c0, .agg #[.slice pa x.ps.length pc, .int .i64 x.mlo, .int .i64 x.mhi, .int .i64 x.slo, .int .i64 x.shi]] w fun e w' => e = .returned (.int .i64 (wishE m x)) ∧ Below w.heap.size w w' := by
  rw [← wishQ_eq]
  have hl := h.len
  have HH := Lib.hid h
  have HE := Lib.hid (show wishQ m x = wishQ m x from rfl)
  have HS0 := Lib.hid ((Bx.nil w).alloc #[.slice pa x.ps.length pc, .int .i64 x.mlo, .int .i64 x.mhi, .int .i64 x.slo, .int .i64 x.shi] 46)
  have eg : ∀ args w, (callFunc 76 args).run Try.prog w = .ok (.enter 76 args) w := enters_of Try.func76 (by kernel_rfl) rfl
  clear h
  by_cases h0 : x.ps.length = m
  rotate_left
  · have h0i : ¬ (x.ps.length : Int) = (m : Int) := by omega
    have HZ0 := Lib.hid (decide_eq_false h0)
    go_enter Try.func69, Try.ntmps69
    go_wp2_with fail
    go_ret
    exact ⟨ret_i64 (by simp only [wishQ, HZ0.out]; rfl), HS0.out.b⟩
  have h0i : (x.ps.length : Int) = (m : Int) := by omega
  have HZ0 := Lib.hid (decide_eq_true h0)
  clear h0
  go_enter Try.func69, Try.ntmps69
  go_wp2_with fail
  refine (spanWithin_any (c := pc) 20 (HH.out.on HS0.out.b)).mono ?_
  rintro e w1 ⟨rfl, hb⟩
  have HS1 := Lib.hid (HS0.out.on hb)
  clear hb HS0
  have HZ1 : Hid (spansB 20 x.ps = false) ∨ Hid (spansB 20 x.ps = true) := by
    cases hz : spansB 20 x.ps with
    | false => exact .inl rfl
    | true => exact .inr rfl
  rcases HZ1 with HZ1 | HZ1
  · rw [HZ1.out]
    go_wp2_with fail
    go_ret
    exact ⟨ret_i64 (by simp only [wishQ, HZ0.out, HZ1.out]; rfl), HS1.out.b⟩
  · rw [HZ1.out]
    have hk := HS1.out.get (g := w.heap.size) (cs := #[.slice pa x.ps.length pc, .int .i64 x.mlo, .int .i64 x.mhi, .int .i64 x.slo, .int .i64 x.shi]) (T := 46) (by simp)
    have k0 := hk.cell 0; have k1 := hk.cell 1; have k2 := hk.cell 2; have k3 := hk.cell 3; have k4 := hk.cell 4
    clear hk
    go_wp2_with fail
    refine (spanWithin_one 2000 x.mlo x.mhi (c := 1) (span1_at (by simp))).mono ?_
    rintro e w2 ⟨rfl, hb⟩
    have HS2 := Lib.hid ((HS1.out.alloc _ _).on hb)
    clear hb HS1 k0 k1 k2 k3 k4
    have HZ2 : Hid (spanB 2000 (x.mlo, x.mhi) = false) ∨ Hid (spanB 2000 (x.mlo, x.mhi) = true) := by
      cases hz : spanB 2000 (x.mlo, x.mhi) with
      | false => exact .inl rfl
      | true => exact .inr rfl
    rcases HZ2 with HZ2 | HZ2
    · rw [HZ2.out]
      go_wp2_with fail
      go_ret
      exact ⟨ret_i64 (by simp only [wishQ, HZ0.out, HZ1.out, HZ2.out]; rfl), HS2.out.b⟩
    · rw [HZ2.out]
      have hk := HS2.out.get (g := w.heap.size) (cs := #[.slice pa x.ps.length pc, .int .i64 x.mlo, .int .i64 x.mhi, .int .i64 x.slo, .int .i64 x.shi]) (T := 46) (by simp)
      have k0 := hk.cell 0; have k1 := hk.cell 1; have k2 := hk.cell 2; have k3 := hk.cell 3; have k4 := hk.cell 4
      clear hk
      go_wp2_with fail
      refine (spanWithin_one 1000 x.slo x.shi (c := 1) (span1_at (by simp))).mono ?_
      rintro e w3 ⟨rfl, hb⟩
      have HS3 := Lib.hid ((HS2.out.alloc _ _).on hb)
      clear hb HS2 k0 k1 k2 k3 k4
      have HZ3 : Hid (spanB 1000 (x.slo, x.shi) = false) ∨ Hid (spanB 1000 (x.slo, x.shi) = true) := by
        cases hz : spanB 1000 (x.slo, x.shi) with
        | false => exact .inl rfl
        | true => exact .inr rfl
      rcases HZ3 with HZ3 | HZ3
      · rw [HZ3.out]
        go_wp2_with fail
        go_ret
        exact ⟨ret_i64 (by simp only [wishQ, HZ0.out, HZ1.out, HZ2.out, HZ3.out]; rfl), HS3.out.b⟩
      · rw [HZ3.out]
        have hk := HS3.out.get (g := w.heap.size) (cs := #[.slice pa x.ps.length pc, .int .i64 x.mlo, .int .i64 x.mhi, .int .i64 x.slo, .int .i64 x.shi]) (T := 46) (by simp)
        have k0 := hk.cell 0; have k1 := hk.cell 1; have k2 := hk.cell 2; have k3 := hk.cell 3; have k4 := hk.cell 4
        clear hk
        go_wp2_with fail
        refine (contS_any (c := pc) (HH.out.on HS3.out.b)).mono ?_
        rintro e w4 ⟨rfl, hb⟩
        have HS4 := Lib.hid (HS3.out.on hb)
        clear hb HS3 k0 k1 k2 k3 k4
        have HZ4 : Hid (x.ps.any emptyB = true) ∨ Hid (x.ps.any emptyB = false) := by
          cases hz : x.ps.any emptyB with
          | true => exact .inl rfl
          | false => exact .inr rfl
        rcases HZ4 with HZ4 | HZ4
        · rw [HZ4.out]
          go_wp2_with fail
          go_ret
          exact ⟨ret_i64 (by simp only [wishQ, HZ0.out, HZ1.out, HZ2.out, HZ3.out, HZ4.out]; rfl), HS4.out.b⟩
        · rw [HZ4.out]
          have hk := HS4.out.get (g := w.heap.size) (cs := #[.slice pa x.ps.length pc, .int .i64 x.mlo, .int .i64 x.mhi, .int .i64 x.slo, .int .i64 x.shi]) (T := 46) (by simp)
          have k0 := hk.cell 0; have k1 := hk.cell 1; have k2 := hk.cell 2; have k3 := hk.cell 3; have k4 := hk.cell 4
          clear hk
          go_wp2_with fail
          refine (empty_any x.mlo x.mhi _).mono ?_
          rintro e w5 ⟨rfl, hb⟩
          have HS5 := Lib.hid (HS4.out.on hb)
          clear hb HS4 k0 k1 k2 k3 k4
          have HZ5 : Hid (decide (x.mhi < x.mlo) = true) ∨ Hid (decide (x.mhi < x.mlo) = false) := by
            cases hz : decide (x.mhi < x.mlo) with
            | true => exact .inl rfl
            | false => exact .inr rfl
          rcases HZ5 with HZ5 | HZ5
          · rw [HZ5.out]
            go_wp2_with fail
            go_ret
            exact ⟨ret_i64 (by simp only [wishQ, HZ0.out, HZ1.out, HZ2.out, HZ3.out, HZ4.out, HZ5.out]; rfl), HS5.out.b⟩
          · rw [HZ5.out]
            have hk := HS5.out.get (g := w.heap.size) (cs := #[.slice pa x.ps.length pc, .int .i64 x.mlo, .int .i64 x.mhi, .int .i64 x.slo, .int .i64 x.shi]) (T := 46) (by simp)
            have k0 := hk.cell 0; have k1 := hk.cell 1; have k2 := hk.cell 2; have k3 := hk.cell 3; have k4 := hk.cell 4
            clear hk
            go_wp2_with fail
            refine (empty_any x.slo x.shi _).mono ?_
            rintro e w6 ⟨rfl, hb⟩
            have HS6 := Lib.hid (HS5.out.on hb)
            clear hb HS5 k0 k1 k2 k3 k4
            have HZ6 : Hid (decide (x.shi < x.slo) = true) ∨ Hid (decide (x.shi < x.slo) = false) := by
              cases hz : decide (x.shi < x.slo) with
              | true => exact .inl rfl
              | false => exact .inr rfl
            rcases HZ6 with HZ6 | HZ6
            · rw [HZ6.out]
              go_wp2_with fail
              go_ret
              exact ⟨ret_i64 (by simp only [wishQ, HZ0.out, HZ1.out, HZ2.out, HZ3.out, HZ4.out, HZ5.out, HZ6.out]; rfl), HS6.out.b⟩
            · rw [HZ6.out]
              have hk := HS6.out.get (g := w.heap.size) (cs := #[.slice pa x.ps.length pc, .int .i64 x.mlo, .int .i64 x.mhi, .int .i64 x.slo, .int .i64 x.shi]) (T := 46) (by simp)
              have k0 := hk.cell 0; have k1 := hk.cell 1; have k2 := hk.cell 2; have k3 := hk.cell 3; have k4 := hk.cell 4
              clear hk
              go_wp2_with fail
              go_ret
              exact ⟨ret_i64 (by simp only [wishQ, HZ0.out, HZ1.out, HZ2.out, HZ3.out, HZ4.out, HZ5.out, HZ6.out]; rfl), HS6.out.b⟩
end Go.Proofs.Ytalghiecjhfflaa
