/- Layer mould, a part: the reference's numbers, errors. No statement is proved here. -/
import Derived.Test.YtljbjcnfkbmjkaaGb
namespace Go.Proofs.Ytljbjcnfkbmjkaa
open Go.RowKit Go.Shelf

theorem inB_t {n lo hi : Int} (h1 : lo ≤ n) (h2 : n ≤ hi) : inB n lo hi = true := by simp [inB, h1, h2]
theorem inB_f {n lo hi : Int} (h : ¬ (lo ≤ n ∧ n ≤ hi)) : inB n lo hi = false := by
  unfold inB
  rw [Bool.and_eq_false_iff, decide_eq_false_iff_not, decide_eq_false_iff_not]
  omega
theorem rin_any (n lo hi : Int) (w : World) :
    Calls Try.prog 51 #[.int .i64 n, .int .i64 lo, .int .i64 hi] w fun e w' => e = .returned (.bool (inB n lo hi)) ∧ w' = w := by
  by_cases h1 : lo ≤ n
  · by_cases h2 : n ≤ hi
    · have H := Lib.hid (inB_t h1 h2)
      go_enter Try.func51, Try.ntmps51
      go_wp2
      go_ret
      exact ⟨ret_bool H.out.symm, rfl⟩
    · have H := Lib.hid (inB_f (n := n) (lo := lo) (hi := hi) (by omega))
      go_enter Try.func51, Try.ntmps51
      go_wp2
      go_ret
      exact ⟨ret_bool H.out.symm, rfl⟩
  · have H := Lib.hid (inB_f (n := n) (lo := lo) (hi := hi) (by omega))
    go_enter Try.func51, Try.ntmps51
    go_wp2
    go_ret
    exact ⟨ret_bool H.out.symm, rfl⟩
set_option maxHeartbeats 1000000 in
theorem rwarm_any (a b : Int) (w : World) :
    Calls Try.prog 52 #[.agg #[.int .i64 a, .int .i64 b]] w fun e w' => e = .returned (.bool (inB a 0 2000 && inB b 0 2000)) ∧ Below w.heap.size w w' := by
  have hb0 : ∀ o, Below w.heap.size w (w.alloc o) := fun o => (Below.refl _ w).alloc (Nat.le_refl _) _
  have HB := Lib.hid hb0
  clear hb0
  cases h : inB a 0 2000 with
  | true =>
    have H := Lib.hid h
    clear h
    go_enter Try.func52, Try.ntmps52
    go_wp2_with (go_at_call 51; refine (rin_any _ _ _ _).mono ?_; rintro e w' ⟨rfl, rfl⟩; try rw [H.out])
    go_ret
    exact ⟨rfl, HB.out _⟩
  | false =>
    have H := Lib.hid h
    clear h
    go_enter Try.func52, Try.ntmps52
    go_wp2_with (go_at_call 51; refine (rin_any _ _ _ _).mono ?_; rintro e w' ⟨rfl, rfl⟩; try rw [H.out])
    go_ret
    exact ⟨rfl, HB.out _⟩
end Go.Proofs.Ytljbjcnfkbmjkaa

namespace Go.Proofs.Ytljbjcnfkbmjkaa
open Go.RowKit Go.Shelf

/-- The mould in a box of the call's own. -/
structure MdBk (w : World) (B : Nat) (T : TypeId) (m : Md) (W : World) : Prop where
  bk : Blk W B T #[.int .i64 m.rings, .int .i64 m.give, .int .i64 m.plo, .int .i64 m.phi, .int .i64 m.wlo, .int .i64 m.whi, .int .i64 m.st, .int .i64 m.shrink, .int .i64 m.skin, .int .i64 m.fill, .int .i64 m.gap, .int .i64 m.deep]
  b : Below w.heap.size w W
theorem MdBk.on {w W W' : World} {B : Nat} {T : TypeId} {m : Md} (h : MdBk w B T m W) (hb : Below W.heap.size W W') : MdBk w B T m W' := ⟨h.bk.on hb, h.b.trans (hb.mono h.b.size)⟩
theorem MdBk.new (w : World) (T : TypeId) (m : Md) : MdBk w w.heap.size T m (w.alloc (.cells #[.int .i64 m.rings, .int .i64 m.give, .int .i64 m.plo, .int .i64 m.phi, .int .i64 m.wlo, .int .i64 m.whi, .int .i64 m.st, .int .i64 m.shrink, .int .i64 m.skin, .int .i64 m.fill, .int .i64 m.gap, .int .i64 m.deep] T)) := ⟨Blk.new _ _ _, (Below.refl _ w).alloc (Nat.le_refl _) _⟩
theorem MdBk.cells {w W : World} {B : Nat} {T : TypeId} {m : Md} (h : MdBk w B T m W) : W.cell? ⟨B, 0, none⟩ = some (.int .i64 m.rings) ∧ W.cell? ⟨B, 1, none⟩ = some (.int .i64 m.give) ∧ W.cell? ⟨B, 2, none⟩ = some (.int .i64 m.plo) ∧ W.cell? ⟨B, 3, none⟩ = some (.int .i64 m.phi) ∧ W.cell? ⟨B, 4, none⟩ = some (.int .i64 m.wlo) ∧ W.cell? ⟨B, 5, none⟩ = some (.int .i64 m.whi) ∧ W.cell? ⟨B, 6, none⟩ = some (.int .i64 m.st) ∧ W.cell? ⟨B, 7, none⟩ = some (.int .i64 m.shrink) ∧ W.cell? ⟨B, 8, none⟩ = some (.int .i64 m.skin) ∧ W.cell? ⟨B, 9, none⟩ = some (.int .i64 m.fill) ∧ W.cell? ⟨B, 10, none⟩ = some (.int .i64 m.gap) ∧ W.cell? ⟨B, 11, none⟩ = some (.int .i64 m.deep) :=
  ⟨h.bk.cell 0, h.bk.cell 1, h.bk.cell 2, h.bk.cell 3, h.bk.cell 4, h.bk.cell 5, h.bk.cell 6, h.bk.cell 7, h.bk.cell 8, h.bk.cell 9, h.bk.cell 10, h.bk.cell 11⟩
theorem bodyB {w w' : World} {a b : Int} (h : a = b) (hb : Below w.heap.size w w') : Ending.returned (.int .i64 b) = Ending.returned (.int .i64 a) ∧ Below w.heap.size w w' := ⟨by rw [h], hb⟩


set_option maxRecDepth 100000 in
set_option maxHeartbeats 4000000 in
theorem rcheck_any (m : Md) (w : World) :
    Calls Try.prog 19 #[.agg #[.int .i64 m.rings, .int .i64 m.give, .int .i64 m.plo, .int .i64 m.phi, .int .i64 m.wlo, .int .i64 m.whi, .int .i64 m.st, .int .i64 m.shrink, .int .i64 m.skin, .int .i64 m.fill, .int .i64 m.gap, .int .i64 m.deep]] w fun e w' => e = .returned (.int .i64 (checkM m)) ∧ Below w.heap.size w w' := by
  obtain ⟨b1, hb1⟩ : ∃ b, b = (inB m.plo 0 2000 && inB m.phi 0 2000) := ⟨_, rfl⟩
  obtain ⟨b2, hb2⟩ : ∃ b, b = (inB m.wlo 0 2000 && inB m.whi 0 2000) := ⟨_, rfl⟩
  have W1 := Lib.hid (fun W => rwarm_any m.plo m.phi W)
  have W2 := Lib.hid (fun W => rwarm_any m.wlo m.whi W)
  have HE : Hid (checkM m = if (inB m.rings 1 8 && inB m.give 1 500 && b1 && b2 && inB m.st 0 2000 && inB m.shrink 0 200 && inB m.skin 0 m.rings && inB m.fill 1 100000 && inB m.gap 1 60 && inB m.deep 0 100000) = true then (if m.plo > m.phi ∨ m.wlo > m.whi then 2 else 0) else 7) := by
    show checkM m = _
    have h : (inB m.rings 1 8 && inB m.give 1 500 && b1 && b2 && inB m.st 0 2000 && inB m.shrink 0 200 && inB m.skin 0 m.rings && inB m.fill 1 100000 && inB m.gap 1 60 && inB m.deep 0 100000) = mdInB m := by
      rw [hb1, hb2]; simp only [mdInB, Bool.and_assoc]
    rw [h]; rfl
  rw [← hb1] at W1
  rw [← hb2] at W2
  clear hb1 hb2
  have HM := Lib.hid (MdBk.new w 25 m)

  cases h0 : inB m.rings 1 8 with
  | false =>
    have HE := Lib.hid (show checkM m = 7 from HE.out.trans (by simp [h0]))
    go_enter Try.func19, Try.ntmps19
    go_wp2_with (first
      | (go_at_call 51; refine (rin_any _ _ _ _).mono ?_; rintro e w' ⟨rfl, rfl⟩)
      | (go_at_call 52; (with_reducible refine (W1.out _).mono ?_); rintro e w1 ⟨rfl, hbx⟩; have HM1 := Lib.hid (HM.out.on hbx); obtain ⟨c0, c1, c2, c3, c4, c5, c6, c7, c8, c9, c10, c11⟩ := HM1.out.cells; clear hbx)
      | (go_at_call 52; (with_reducible refine (W2.out _).mono ?_); rintro e w2 ⟨rfl, hbx⟩; have HM2 := Lib.hid (HM1.out.on hbx); clear c0 c1 c2 c3 c4 c5 c6 c7 c8 c9 c10 c11; obtain ⟨c0, c1, c2, c3, c4, c5, c6, c7, c8, c9, c10, c11⟩ := HM2.out.cells; clear hbx))
    all_goals first
      | (go_ret; exact ⟨ret_i64 HE.out.symm, HM2.out.b⟩)
      | (go_ret; exact ⟨ret_i64 HE.out.symm, HM1.out.b⟩)
      | (go_ret; exact ⟨ret_i64 HE.out.symm, HM.out.b⟩)
  | true =>
    cases h1 : inB m.give 1 500 with
    | false =>
      have HE := Lib.hid (show checkM m = 7 from HE.out.trans (by simp [h0, h1]))
      go_enter Try.func19, Try.ntmps19
      go_wp2_with (first
        | (go_at_call 51; refine (rin_any _ _ _ _).mono ?_; rintro e w' ⟨rfl, rfl⟩)
        | (go_at_call 52; (with_reducible refine (W1.out _).mono ?_); rintro e w1 ⟨rfl, hbx⟩; have HM1 := Lib.hid (HM.out.on hbx); obtain ⟨c0, c1, c2, c3, c4, c5, c6, c7, c8, c9, c10, c11⟩ := HM1.out.cells; clear hbx)
        | (go_at_call 52; (with_reducible refine (W2.out _).mono ?_); rintro e w2 ⟨rfl, hbx⟩; have HM2 := Lib.hid (HM1.out.on hbx); clear c0 c1 c2 c3 c4 c5 c6 c7 c8 c9 c10 c11; obtain ⟨c0, c1, c2, c3, c4, c5, c6, c7, c8, c9, c10, c11⟩ := HM2.out.cells; clear hbx))
      all_goals first
        | (go_ret; exact ⟨ret_i64 HE.out.symm, HM2.out.b⟩)
        | (go_ret; exact ⟨ret_i64 HE.out.symm, HM1.out.b⟩)
        | (go_ret; exact ⟨ret_i64 HE.out.symm, HM.out.b⟩)
    | true =>
      cases b1 with
      | false =>
        have HE := Lib.hid (show checkM m = 7 from HE.out.trans (by simp [h0, h1]))
        go_enter Try.func19, Try.ntmps19
        go_wp2_with (first
          | (go_at_call 51; refine (rin_any _ _ _ _).mono ?_; rintro e w' ⟨rfl, rfl⟩)
          | (go_at_call 52; (with_reducible refine (W1.out _).mono ?_); rintro e w1 ⟨rfl, hbx⟩; have HM1 := Lib.hid (HM.out.on hbx); obtain ⟨c0, c1, c2, c3, c4, c5, c6, c7, c8, c9, c10, c11⟩ := HM1.out.cells; clear hbx)
          | (go_at_call 52; (with_reducible refine (W2.out _).mono ?_); rintro e w2 ⟨rfl, hbx⟩; have HM2 := Lib.hid (HM1.out.on hbx); clear c0 c1 c2 c3 c4 c5 c6 c7 c8 c9 c10 c11; obtain ⟨c0, c1, c2, c3, c4, c5, c6, c7, c8, c9, c10, c11⟩ := HM2.out.cells; clear hbx))
        all_goals first
          | (go_ret; exact ⟨ret_i64 HE.out.symm, HM2.out.b⟩)
          | (go_ret; exact ⟨ret_i64 HE.out.symm, HM1.out.b⟩)
          | (go_ret; exact ⟨ret_i64 HE.out.symm, HM.out.b⟩)
      | true =>
        cases b2 with
        | false =>
          have HE := Lib.hid (show checkM m = 7 from HE.out.trans (by simp [h0, h1]))
          go_enter Try.func19, Try.ntmps19
          go_wp2_with (first
            | (go_at_call 51; refine (rin_any _ _ _ _).mono ?_; rintro e w' ⟨rfl, rfl⟩)
            | (go_at_call 52; (with_reducible refine (W1.out _).mono ?_); rintro e w1 ⟨rfl, hbx⟩; have HM1 := Lib.hid (HM.out.on hbx); obtain ⟨c0, c1, c2, c3, c4, c5, c6, c7, c8, c9, c10, c11⟩ := HM1.out.cells; clear hbx)
            | (go_at_call 52; (with_reducible refine (W2.out _).mono ?_); rintro e w2 ⟨rfl, hbx⟩; have HM2 := Lib.hid (HM1.out.on hbx); clear c0 c1 c2 c3 c4 c5 c6 c7 c8 c9 c10 c11; obtain ⟨c0, c1, c2, c3, c4, c5, c6, c7, c8, c9, c10, c11⟩ := HM2.out.cells; clear hbx))
          all_goals first
            | (go_ret; exact ⟨ret_i64 HE.out.symm, HM2.out.b⟩)
            | (go_ret; exact ⟨ret_i64 HE.out.symm, HM1.out.b⟩)
            | (go_ret; exact ⟨ret_i64 HE.out.symm, HM.out.b⟩)
        | true =>
          cases h4 : inB m.st 0 2000 with
          | false =>
            have HE := Lib.hid (show checkM m = 7 from HE.out.trans (by simp [h0, h1, h4]))
            go_enter Try.func19, Try.ntmps19
            go_wp2_with (first
              | (go_at_call 51; refine (rin_any _ _ _ _).mono ?_; rintro e w' ⟨rfl, rfl⟩)
              | (go_at_call 52; (with_reducible refine (W1.out _).mono ?_); rintro e w1 ⟨rfl, hbx⟩; have HM1 := Lib.hid (HM.out.on hbx); obtain ⟨c0, c1, c2, c3, c4, c5, c6, c7, c8, c9, c10, c11⟩ := HM1.out.cells; clear hbx)
              | (go_at_call 52; (with_reducible refine (W2.out _).mono ?_); rintro e w2 ⟨rfl, hbx⟩; have HM2 := Lib.hid (HM1.out.on hbx); clear c0 c1 c2 c3 c4 c5 c6 c7 c8 c9 c10 c11; obtain ⟨c0, c1, c2, c3, c4, c5, c6, c7, c8, c9, c10, c11⟩ := HM2.out.cells; clear hbx))
            all_goals first
              | (go_ret; exact ⟨ret_i64 HE.out.symm, HM2.out.b⟩)
              | (go_ret; exact ⟨ret_i64 HE.out.symm, HM1.out.b⟩)
              | (go_ret; exact ⟨ret_i64 HE.out.symm, HM.out.b⟩)
          | true =>
            cases h5 : inB m.shrink 0 200 with
            | false =>
              have HE := Lib.hid (show checkM m = 7 from HE.out.trans (by simp [h0, h1, h4, h5]))
              go_enter Try.func19, Try.ntmps19
              go_wp2_with (first
                | (go_at_call 51; refine (rin_any _ _ _ _).mono ?_; rintro e w' ⟨rfl, rfl⟩)
                | (go_at_call 52; (with_reducible refine (W1.out _).mono ?_); rintro e w1 ⟨rfl, hbx⟩; have HM1 := Lib.hid (HM.out.on hbx); obtain ⟨c0, c1, c2, c3, c4, c5, c6, c7, c8, c9, c10, c11⟩ := HM1.out.cells; clear hbx)
                | (go_at_call 52; (with_reducible refine (W2.out _).mono ?_); rintro e w2 ⟨rfl, hbx⟩; have HM2 := Lib.hid (HM1.out.on hbx); clear c0 c1 c2 c3 c4 c5 c6 c7 c8 c9 c10 c11; obtain ⟨c0, c1, c2, c3, c4, c5, c6, c7, c8, c9, c10, c11⟩ := HM2.out.cells; clear hbx))
              all_goals first
                | (go_ret; exact ⟨ret_i64 HE.out.symm, HM2.out.b⟩)
                | (go_ret; exact ⟨ret_i64 HE.out.symm, HM1.out.b⟩)
                | (go_ret; exact ⟨ret_i64 HE.out.symm, HM.out.b⟩)
            | true =>
              cases h6 : inB m.skin 0 m.rings with
              | false =>
                have HE := Lib.hid (show checkM m = 7 from HE.out.trans (by simp [h0, h1, h4, h5, h6]))
                go_enter Try.func19, Try.ntmps19
                go_wp2_with (first
                  | (go_at_call 51; refine (rin_any _ _ _ _).mono ?_; rintro e w' ⟨rfl, rfl⟩)
                  | (go_at_call 52; (with_reducible refine (W1.out _).mono ?_); rintro e w1 ⟨rfl, hbx⟩; have HM1 := Lib.hid (HM.out.on hbx); obtain ⟨c0, c1, c2, c3, c4, c5, c6, c7, c8, c9, c10, c11⟩ := HM1.out.cells; clear hbx)
                  | (go_at_call 52; (with_reducible refine (W2.out _).mono ?_); rintro e w2 ⟨rfl, hbx⟩; have HM2 := Lib.hid (HM1.out.on hbx); clear c0 c1 c2 c3 c4 c5 c6 c7 c8 c9 c10 c11; obtain ⟨c0, c1, c2, c3, c4, c5, c6, c7, c8, c9, c10, c11⟩ := HM2.out.cells; clear hbx))
                all_goals first
                  | (go_ret; exact ⟨ret_i64 HE.out.symm, HM2.out.b⟩)
                  | (go_ret; exact ⟨ret_i64 HE.out.symm, HM1.out.b⟩)
                  | (go_ret; exact ⟨ret_i64 HE.out.symm, HM.out.b⟩)
              | true =>
                cases h7 : inB m.fill 1 100000 with
                | false =>
                  have HE := Lib.hid (show checkM m = 7 from HE.out.trans (by simp [h0, h1, h4, h5, h6, h7]))
                  go_enter Try.func19, Try.ntmps19
                  go_wp2_with (first
                    | (go_at_call 51; refine (rin_any _ _ _ _).mono ?_; rintro e w' ⟨rfl, rfl⟩)
                    | (go_at_call 52; (with_reducible refine (W1.out _).mono ?_); rintro e w1 ⟨rfl, hbx⟩; have HM1 := Lib.hid (HM.out.on hbx); obtain ⟨c0, c1, c2, c3, c4, c5, c6, c7, c8, c9, c10, c11⟩ := HM1.out.cells; clear hbx)
                    | (go_at_call 52; (with_reducible refine (W2.out _).mono ?_); rintro e w2 ⟨rfl, hbx⟩; have HM2 := Lib.hid (HM1.out.on hbx); clear c0 c1 c2 c3 c4 c5 c6 c7 c8 c9 c10 c11; obtain ⟨c0, c1, c2, c3, c4, c5, c6, c7, c8, c9, c10, c11⟩ := HM2.out.cells; clear hbx))
                  all_goals first
                    | (go_ret; exact ⟨ret_i64 HE.out.symm, HM2.out.b⟩)
                    | (go_ret; exact ⟨ret_i64 HE.out.symm, HM1.out.b⟩)
                    | (go_ret; exact ⟨ret_i64 HE.out.symm, HM.out.b⟩)
                | true =>
                  cases h8 : inB m.gap 1 60 with
                  | false =>
                    have HE := Lib.hid (show checkM m = 7 from HE.out.trans (by simp [h0, h1, h4, h5, h6, h7, h8]))
                    go_enter Try.func19, Try.ntmps19
                    go_wp2_with (first
                      | (go_at_call 51; refine (rin_any _ _ _ _).mono ?_; rintro e w' ⟨rfl, rfl⟩)
                      | (go_at_call 52; (with_reducible refine (W1.out _).mono ?_); rintro e w1 ⟨rfl, hbx⟩; have HM1 := Lib.hid (HM.out.on hbx); obtain ⟨c0, c1, c2, c3, c4, c5, c6, c7, c8, c9, c10, c11⟩ := HM1.out.cells; clear hbx)
                      | (go_at_call 52; (with_reducible refine (W2.out _).mono ?_); rintro e w2 ⟨rfl, hbx⟩; have HM2 := Lib.hid (HM1.out.on hbx); clear c0 c1 c2 c3 c4 c5 c6 c7 c8 c9 c10 c11; obtain ⟨c0, c1, c2, c3, c4, c5, c6, c7, c8, c9, c10, c11⟩ := HM2.out.cells; clear hbx))
                    all_goals first
                      | (go_ret; exact ⟨ret_i64 HE.out.symm, HM2.out.b⟩)
                      | (go_ret; exact ⟨ret_i64 HE.out.symm, HM1.out.b⟩)
                      | (go_ret; exact ⟨ret_i64 HE.out.symm, HM.out.b⟩)
                  | true =>
                    cases h9 : inB m.deep 0 100000 with
                    | false =>
                      have HE := Lib.hid (show checkM m = 7 from HE.out.trans (by simp [h0, h1, h4, h5, h6, h7, h8, h9]))
                      go_enter Try.func19, Try.ntmps19
                      go_wp2_with (first
                        | (go_at_call 51; refine (rin_any _ _ _ _).mono ?_; rintro e w' ⟨rfl, rfl⟩)
                        | (go_at_call 52; (with_reducible refine (W1.out _).mono ?_); rintro e w1 ⟨rfl, hbx⟩; have HM1 := Lib.hid (HM.out.on hbx); obtain ⟨c0, c1, c2, c3, c4, c5, c6, c7, c8, c9, c10, c11⟩ := HM1.out.cells; clear hbx)
                        | (go_at_call 52; (with_reducible refine (W2.out _).mono ?_); rintro e w2 ⟨rfl, hbx⟩; have HM2 := Lib.hid (HM1.out.on hbx); clear c0 c1 c2 c3 c4 c5 c6 c7 c8 c9 c10 c11; obtain ⟨c0, c1, c2, c3, c4, c5, c6, c7, c8, c9, c10, c11⟩ := HM2.out.cells; clear hbx))
                      all_goals first
                        | (go_ret; exact ⟨ret_i64 HE.out.symm, HM2.out.b⟩)
                        | (go_ret; exact ⟨ret_i64 HE.out.symm, HM1.out.b⟩)
                        | (go_ret; exact ⟨ret_i64 HE.out.symm, HM.out.b⟩)
                    | true =>
                      by_cases g1 : m.phi < m.plo
                      · have HE := Lib.hid (show checkM m = 2 from HE.out.trans (by simp [h0, h1, h4, h5, h6, h7, h8, h9, g1]))
                        go_enter Try.func19, Try.ntmps19
                        go_wp2_with (first
                          | (go_at_call 51; refine (rin_any _ _ _ _).mono ?_; rintro e w' ⟨rfl, rfl⟩)
                          | (go_at_call 52; (with_reducible refine (W1.out _).mono ?_); rintro e w1 ⟨rfl, hbx⟩; have HM1 := Lib.hid (HM.out.on hbx); obtain ⟨c0, c1, c2, c3, c4, c5, c6, c7, c8, c9, c10, c11⟩ := HM1.out.cells; clear hbx)
                          | (go_at_call 52; (with_reducible refine (W2.out _).mono ?_); rintro e w2 ⟨rfl, hbx⟩; have HM2 := Lib.hid (HM1.out.on hbx); clear c0 c1 c2 c3 c4 c5 c6 c7 c8 c9 c10 c11; obtain ⟨c0, c1, c2, c3, c4, c5, c6, c7, c8, c9, c10, c11⟩ := HM2.out.cells; clear hbx))
                        all_goals first
                          | (go_ret; exact ⟨ret_i64 HE.out.symm, HM2.out.b⟩)
                          | (go_ret; exact ⟨ret_i64 HE.out.symm, HM1.out.b⟩)
                          | (go_ret; exact ⟨ret_i64 HE.out.symm, HM.out.b⟩)
                      · by_cases g2 : m.whi < m.wlo
                        · have HE := Lib.hid (show checkM m = 2 from HE.out.trans (by simp [h0, h1, h4, h5, h6, h7, h8, h9, g2]))
                          go_enter Try.func19, Try.ntmps19
                          go_wp2_with (first
                            | (go_at_call 51; refine (rin_any _ _ _ _).mono ?_; rintro e w' ⟨rfl, rfl⟩)
                            | (go_at_call 52; (with_reducible refine (W1.out _).mono ?_); rintro e w1 ⟨rfl, hbx⟩; have HM1 := Lib.hid (HM.out.on hbx); obtain ⟨c0, c1, c2, c3, c4, c5, c6, c7, c8, c9, c10, c11⟩ := HM1.out.cells; clear hbx)
                            | (go_at_call 52; (with_reducible refine (W2.out _).mono ?_); rintro e w2 ⟨rfl, hbx⟩; have HM2 := Lib.hid (HM1.out.on hbx); clear c0 c1 c2 c3 c4 c5 c6 c7 c8 c9 c10 c11; obtain ⟨c0, c1, c2, c3, c4, c5, c6, c7, c8, c9, c10, c11⟩ := HM2.out.cells; clear hbx))
                          all_goals first
                            | (go_ret; exact ⟨ret_i64 HE.out.symm, HM2.out.b⟩)
                            | (go_ret; exact ⟨ret_i64 HE.out.symm, HM1.out.b⟩)
                            | (go_ret; exact ⟨ret_i64 HE.out.symm, HM.out.b⟩)
                        · have HE := Lib.hid (show checkM m = 0 from HE.out.trans (by simp [h0, h1, h4, h5, h6, h7, h8, h9, g1, g2]))
                          go_enter Try.func19, Try.ntmps19
                          go_wp2_with (first
                            | (go_at_call 51; refine (rin_any _ _ _ _).mono ?_; rintro e w' ⟨rfl, rfl⟩)
                            | (go_at_call 52; (with_reducible refine (W1.out _).mono ?_); rintro e w1 ⟨rfl, hbx⟩; have HM1 := Lib.hid (HM.out.on hbx); obtain ⟨c0, c1, c2, c3, c4, c5, c6, c7, c8, c9, c10, c11⟩ := HM1.out.cells; clear hbx)
                            | (go_at_call 52; (with_reducible refine (W2.out _).mono ?_); rintro e w2 ⟨rfl, hbx⟩; have HM2 := Lib.hid (HM1.out.on hbx); clear c0 c1 c2 c3 c4 c5 c6 c7 c8 c9 c10 c11; obtain ⟨c0, c1, c2, c3, c4, c5, c6, c7, c8, c9, c10, c11⟩ := HM2.out.cells; clear hbx))
                          all_goals first
                            | (go_ret; exact ⟨ret_i64 HE.out.symm, HM2.out.b⟩)
                            | (go_ret; exact ⟨ret_i64 HE.out.symm, HM1.out.b⟩)
                            | (go_ret; exact ⟨ret_i64 HE.out.symm, HM.out.b⟩)
end Go.Proofs.Ytljbjcnfkbmjkaa

namespace Go.Proofs.Ytljbjcnfkbmjkaa
open Go.RowKit Go.Shelf

theorem drop_at {α : Type} {l : List α} {k : Nat} {x : α} (h : l[k]? = some x) : l.drop k = x :: l.drop (k + 1) := by
  obtain ⟨hlt, he⟩ := List.getElem?_eq_some_iff.1 h
  rw [List.drop_eq_getElem_cons hlt, he]
/-- The error of numbers that have to be from a to b. -/
def rangeE (a b : Int) (l : List Int) : Int := if l.all (fun x => inB x a b) = true then 0 else 7
theorem rangeE_cons (a b x : Int) (l : List Int) : rangeE a b (x :: l) = if inB x a b = true then rangeE a b l else 7 := by
  unfold rangeE
  rw [List.all_cons]
  cases inB x a b <;> simp
set_option maxRecDepth 100000 in
set_option maxHeartbeats 1000000 in
theorem range_any {w : World} (a b : Int) {A : Option Addr} {c : Nat} {l : List Int} (h : IntsIn w A l) :
    Calls Try.prog 49 #[.int .i64 a, .int .i64 b, .slice A l.length c] w fun e w' => e = .returned (.int .i64 (rangeE a b l)) ∧ w' = w := by
  have HI := Lib.hid h
  have hl := h.len
  clear h
  go_enter Try.func49, Try.ntmps49
  go_wp2_with fail
  go_loop [11] (fun i => ∃ k : Nat, k ≤ l.length ∧ i = .int .i64 k ∧ Hid (rangeE a b (l.drop k) = rangeE a b l)) (fun i => l.length - (intOf i).toNat)
  case atStart => exact ⟨0, by omega, rfl, rfl⟩
  case round =>
    obtain ⟨k, hk, rfl, HR⟩ := hrel
    by_cases hlt : k < l.length
    · obtain ⟨x, hx⟩ : ∃ x, l[k]? = some x := ⟨l[k], List.getElem?_eq_getElem hlt⟩
      obtain ⟨bb, o, rfl, _, hcell⟩ := ints_at HI.out.at_ hx
      have hd : l.drop k = x :: l.drop (k + 1) := drop_at hx
      have HD := Lib.hid (show rangeE a b l = if inB x a b = true then rangeE a b (l.drop (k + 1)) else 7 by rw [← HR.out, hd, rangeE_cons])
      clear hx hd HR
      by_cases h1 : x < a
      · have H := Lib.hid (show rangeE a b l = 7 by rw [HD.out, if_neg (by rw [inB_iff]; omega)])
        clear HD
        go_wp2_with fail
        go_ret
        exact ⟨ret_i64 H.out.symm, rfl⟩
      · by_cases h2 : b < x
        · have H := Lib.hid (show rangeE a b l = 7 by rw [HD.out, if_neg (by rw [inB_iff]; omega)])
          clear HD
          go_wp2_with fail
          go_ret
          exact ⟨ret_i64 H.out.symm, rfl⟩
        · have H := Lib.hid (show rangeE a b (l.drop (k + 1)) = rangeE a b l by rw [HD.out, if_pos (by rw [inB_iff]; omega)])
          clear HD
          go_wp2_with fail
          go_round
          case rel => exact ⟨k + 1, Nat.succ_le_of_lt hlt, by go_num, H⟩
          case measure => exact meas_one hlt
    · have H := Lib.hid (show rangeE a b l = 0 by rw [← HR.out, List.drop_eq_nil_of_le (by omega)]; rfl)
      clear HR
      go_wp2_with fail
      go_ret
      exact ⟨ret_i64 H.out.symm, rfl⟩

/-- The first of some errors. -/
def orE : List Int → Int
  | [] => 0
  | e :: l => if e ≠ 0 then e else orE l
set_option maxRecDepth 100000 in
set_option maxHeartbeats 1000000 in
theorem or_any {w : World} {A : Option Addr} {c : Nat} {l : List Int} (h : IntsIn w A l) :
    Calls Try.prog 48 #[.slice A l.length c] w fun e w' => e = .returned (.int .i64 (orE l)) ∧ w' = w := by
  have HI := Lib.hid h
  have hl := h.len
  clear h
  go_enter Try.func48, Try.ntmps48
  go_wp2_with fail
  go_loop [8] (fun i => ∃ k : Nat, k ≤ l.length ∧ i = .int .i64 k ∧ Hid (orE (l.drop k) = orE l)) (fun i => l.length - (intOf i).toNat)
  case atStart => exact ⟨0, by omega, rfl, rfl⟩
  case round =>
    obtain ⟨k, hk, rfl, HR⟩ := hrel
    by_cases hlt : k < l.length
    · obtain ⟨x, hx⟩ : ∃ x, l[k]? = some x := ⟨l[k], List.getElem?_eq_getElem hlt⟩
      obtain ⟨bb, o, rfl, _, hcell⟩ := ints_at HI.out.at_ hx
      have hd : l.drop k = x :: l.drop (k + 1) := drop_at hx
      have HD := Lib.hid (show orE l = if x ≠ 0 then x else orE (l.drop (k + 1)) by rw [← HR.out, hd, orE])
      clear hx hd HR
      by_cases h1 : x = 0
      · subst h1
        have H := Lib.hid (show orE (l.drop (k + 1)) = orE l by rw [HD.out, if_neg (by simp)])
        clear HD
        go_wp2_with fail
        go_round
        case rel => exact ⟨k + 1, Nat.succ_le_of_lt hlt, by go_num, H⟩
        case measure => exact meas_one hlt
      · have H := Lib.hid (show orE l = x by rw [HD.out, if_pos h1])
        have h2 : (x != 0) = true := by simpa using h1
        have h3 : (x == 0) = false := by simpa using h1
        clear HD
        go_wp2_with fail
        go_ret
        exact ⟨ret_i64 H.out.symm, rfl⟩
    · have H := Lib.hid (show orE l = 0 by rw [← HR.out, List.drop_eq_nil_of_le (by omega)]; rfl)
      clear HR
      go_wp2_with fail
      go_ret
      exact ⟨ret_i64 H.out.symm, rfl⟩
/-- A block of ints, as a slice. -/
theorem ints_blk {W : World} {g : Nat} {T : TypeId} {cs : Array Value} {l : List Int} (h : Blk W g T cs) (hc : cs = (l.map (Value.int .i64)).toArray) (hl : l.length ≤ 9223372036854775807) : IntsIn W (some ⟨g, 0, none⟩) l :=
  ⟨fun _ => ⟨g, 0, rfl, h.lt, fun i x hi j hj => by
    obtain rfl : j = 0 := by omega
    rw [Nat.mul_one, Nat.zero_add, Nat.add_zero, h.cell, hc]
    simp [hi, encI]⟩, hl⟩
theorem minute_any (n : Int) (w : World) :
    Calls Try.prog 58 #[.int .i64 n] w fun e w' => e = .returned (.int .i64 (rangeE 0 600 [n])) ∧ Below w.heap.size w w' := by
  have HI := Lib.hid (ints_blk (l := [n]) (Blk.new w 3 #[.int .i64 n]) rfl (by simp))
  have HB := Lib.hid ((Below.refl _ w).alloc (Nat.le_refl _) (.cells #[.int .i64 n] 3))
  go_enter Try.func58, Try.ntmps58
  go_wp2_with fail
  refine (range_any (l := [n]) (c := 1) 0 600 HI.out).mono ?_
  rintro e w1 ⟨rfl, hw1⟩
  rw [hw1]
  clear hw1
  go_wp2_with fail
  go_ret
  exact ⟨rfl, HB.out⟩
theorem empty_any (w : World) (a b : Int) :
    Calls Try.prog 84 #[.agg #[.int .i64 a, .int .i64 b]] w fun e w' => e = .returned (.bool (decide (b < a))) ∧ Below w.heap.size w w' := by
  have HB := Lib.hid ((Below.refl _ w).alloc (Nat.le_refl _) (.cells #[.int .i64 a, .int .i64 b] 23))
  go_enter Try.func84, Try.ntmps84
  go_wp2_with fail
  go_ret
  exact ⟨rfl, HB.out⟩
/-- The first place at which p holds, from k on; or -1. -/
def idxL {α : Type} (p : α → Bool) : List α → Int → Int
  | [], _ => -1
  | x :: l, k => if p x = true then k else idxL p l (k + 1)
theorem idxL_any {α : Type} (p : α → Bool) : ∀ (l : List α) (k : Int), 0 ≤ k → decide (0 ≤ idxL p l k) = l.any p
  | [], k, _ => by simp [idxL]
  | x :: l, k, h => by
    rw [idxL, List.any_cons]
    cases hp : p x with
    | true => simp [h]
    | false =>
      rw [if_neg (by simp), idxL_any p l (k + 1) (by omega), Bool.false_or]
def emptyB (s : Int × Int) : Bool := decide (s.2 < s.1)
set_option maxRecDepth 100000 in
set_option maxHeartbeats 1000000 in
theorem idxS_any {w : World} {A : Option Addr} {c : Nat} {l : List (Int × Int)} (h : SpansIn w A l) :
    Calls Try.prog 98 #[.slice A l.length c, .func (.func 84) #[] #[]] w fun e w' => e = .returned (.int .i64 (idxL emptyB l 0)) ∧ Below w.heap.size w w' := by
  have HI := Lib.hid h
  have hl := h.len
  clear h
  go_enter Try.func98, Try.ntmps98
  go_wp2_with fail
  go_loopw [8] (fun i W => ∃ k : Nat, k ≤ l.length ∧ i = .int .i64 k ∧ Hid (idxL emptyB (l.drop k) k = idxL emptyB l 0) ∧ Hid (Below w.heap.size w W)) (fun i _ => l.length - (intOf i).toNat)
  case atStart => exact ⟨0, by omega, rfl, rfl, Below.refl _ _⟩
  case round =>
    obtain ⟨k, hk, rfl, HR, HB⟩ := hrel
    by_cases hlt : k < l.length
    · obtain ⟨⟨x, y⟩, hx⟩ : ∃ x, l[k]? = some x := ⟨l[k], List.getElem?_eq_getElem hlt⟩
      obtain ⟨bb, o, rfl, _, c0, c1⟩ := spans_at (HI.out.on HB.out).at_ hx
      have hd : l.drop k = (x, y) :: l.drop (k + 1) := drop_at hx
      have HD := Lib.hid (show idxL emptyB l 0 = if decide (y < x) = true then (k : Int) else idxL emptyB (l.drop (k + 1)) ((k : Int) + 1) by rw [← HR.out, hd, idxL]; rfl)
      have HC := Lib.hid (empty_any wr x y)
      clear hx hd HR
      go_wp2_with fail
      refine HC.out.mono ?_
      rintro e w1 ⟨rfl, hb⟩
      have HB := Lib.hid (HB.out.trans (hb.mono HB.out.size))
      clear hb HC
      by_cases h1 : y < x
      · have H := Lib.hid (show idxL emptyB l 0 = k by rw [HD.out, if_pos (by simpa using h1)])
        clear HD
        go_wp2_with fail
        go_ret
        exact ⟨ret_i64 H.out.symm, HB.out⟩
      · have H := Lib.hid (show idxL emptyB (l.drop (k + 1)) ((k + 1 : Nat) : Int) = idxL emptyB l 0 by rw [HD.out, if_neg (by simpa using h1)]; rfl)
        clear HD
        go_wp2_with fail
        go_roundw
        case rel => exact ⟨k + 1, Nat.succ_le_of_lt hlt, by go_num, H, HB⟩
        case measure => exact meas_one hlt
    · have H := Lib.hid (show idxL emptyB l 0 = -1 by rw [← HR.out, List.drop_eq_nil_of_le (by omega)]; rfl)
      clear HR
      go_wp2_with fail
      go_ret
      exact ⟨ret_i64 H.out.symm, HB.out⟩
theorem contS_any {w : World} {A : Option Addr} {c : Nat} {l : List (Int × Int)} (h : SpansIn w A l) :
    Calls Try.prog 83 #[.slice A l.length c, .func (.func 84) #[] #[]] w fun e w' => e = .returned (.bool (l.any emptyB)) ∧ Below w.heap.size w w' := by
  have HC := Lib.hid (idxS_any (c := c) h)
  have HE := Lib.hid (idxL_any emptyB l 0 (Int.le_refl _))
  clear h
  go_enter Try.func83, Try.ntmps83
  go_wp2_with fail
  refine HC.out.mono ?_
  rintro e w1 ⟨rfl, hb⟩
  go_wp2_with fail
  go_ret
  exact ⟨ret_bool (by have := HE.out; simpa using this), hb⟩
/-- The error of ranges in which something has to be. -/
def orderE (l : List (Int × Int)) : Int := if l.any emptyB = true then 2 else 0
theorem order_any {w : World} {A : Option Addr} {c : Nat} {l : List (Int × Int)} (h : SpansIn w A l) :
    Calls Try.prog 50 #[.slice A l.length c] w fun e w' => e = .returned (.int .i64 (orderE l)) ∧ Below w.heap.size w w' := by
  have HC := Lib.hid (contS_any (c := c) h)
  clear h
  unfold orderE
  obtain ⟨b, hb⟩ : ∃ b, b = l.any emptyB := ⟨_, rfl⟩
  rw [← hb] at HC ⊢
  clear hb
  cases b with
  | true =>
    go_enter Try.func50, Try.ntmps50
    go_wp2_with fail
    refine HC.out.mono ?_
    rintro e w1 ⟨rfl, hb⟩
    go_wp2_with fail
    go_ret
    exact ⟨rfl, hb⟩
  | false =>
    go_enter Try.func50, Try.ntmps50
    go_wp2_with fail
    refine HC.out.mono ?_
    rintro e w1 ⟨rfl, hb⟩
    go_wp2_with fail
    go_ret
    exact ⟨rfl, hb⟩
end Go.Proofs.Ytljbjcnfkbmjkaa
