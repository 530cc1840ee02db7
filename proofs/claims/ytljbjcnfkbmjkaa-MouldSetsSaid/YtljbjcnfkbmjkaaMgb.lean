/- ref.Skin: contract. -/
import Derived.Test.YtljbjcnfkbmjkaaGg
import Derived.Test.YtljbjcnfkbmjkaaGd
namespace Go.Proofs.Ytljbjcnfkbmjkaa
open Go.RowKit Go.Shelf
attribute [local go_sem] Oper.semAt_some

/-- The mould, and the result's box. -/
structure RkB (w : World) (m : Md) (W : World) : Prop where
  b0 : MdBk w w.heap.size 25 m W
  b1 : Blk W (w.heap.size + 1) 23 #[.int .i64 0, .int .i64 0]
theorem RkB.on {w W W' : World} {m : Md} (h : RkB w m W) (hb : Below W.heap.size W W') : RkB w m W' := ⟨h.b0.on hb, h.b1.on hb⟩
set_option maxRecDepth 100000 in
set_option maxHeartbeats 8000000 in
theorem rskin_any (m : Md) (n : Int) (w : World) :
    Calls Try.prog 30 #[.agg #[.int .i64 m.rings, .int .i64 m.give, .int .i64 m.plo, .int .i64 m.phi, .int .i64 m.wlo, .int .i64 m.whi, .int .i64 m.st, .int .i64 m.shrink, .int .i64 m.skin, .int .i64 m.fill, .int .i64 m.gap, .int .i64 m.deep], .int .i64 n] w fun e w' => e = .returned (.tuple #[.agg #[.int .i64 (skinR m n).1.1, .int .i64 (skinR m n).1.2], .int .i64 (skinR m n).2]) ∧ Below w.heap.size w w' := by
  have HM : Hid (RkB w m ((w.alloc (.cells #[.int .i64 m.rings, .int .i64 m.give, .int .i64 m.plo, .int .i64 m.phi, .int .i64 m.wlo, .int .i64 m.whi, .int .i64 m.st, .int .i64 m.shrink, .int .i64 m.skin, .int .i64 m.fill, .int .i64 m.gap, .int .i64 m.deep] 25)).alloc (.cells #[.int .i64 0, .int .i64 0] 23))) :=
    ⟨⟨(Blk.new w _ _).alloc _, ((Below.refl _ w).alloc (Nat.le_refl _) _).alloc (by simp) _⟩, Blk.new1 w _ _ _⟩
  have HC := Lib.hid (fun W => rcheck_any m W)
  obtain ⟨c0, c1, c2, c3, c4, c5, c6, c7, c8, c9, c10, c11⟩ := HM.out.b0.cells
  by_cases hck : checkM m = 0
  · rw [hck] at HC
    have hok := checkM_ok.1 hck
    cases hin : inB n 0 600 with
    | true =>
      have HI := Lib.hid (fun W => rin_any n 0 600 W)
      rw [hin] at HI
      have HR : Hid (skinR m n = ((setN (wh m true) n, setN (wh m false) n), 0)) := by
        show skinR m n = _
        unfold skinR
        rw [if_neg (fun h => h hck), if_pos hin]
      have HE := Lib.hid (show ∀ W : World, Calls Try.prog 69 #[.agg #[.int .i64 m.rings, .int .i64 m.give, .int .i64 m.plo, .int .i64 m.phi, .int .i64 m.wlo, .int .i64 m.whi, .int .i64 m.st, .int .i64 m.shrink, .int .i64 m.skin, .int .i64 m.fill, .int .i64 m.gap, .int .i64 m.deep]] W fun e w' => ∃ A c A2 c2, e = .returned (.tuple #[.slice A (kR m) c, .slice A2 (kR m) c2]) ∧ IntsIn w' A (wh m false) ∧ IntsIn w' A2 (wh m true) ∧ Below W.heap.size W w' from
        fun W => (rends_any m hok W).mono fun e w' ⟨v, e1, A, c, A2, c2, e2, h⟩ => ⟨A, c, A2, c2, by rw [e1, e2], h⟩)
      have hla := wh_length m false
      have hlb := wh_length m true
      generalize wh m false = a at *
      generalize wh m true = b at *
      have HTa := Lib.hid (show ∀ (W : World) (A : Option Addr) (c : Nat) (_ : IntsIn W A a), Calls Try.prog 42 #[.slice A (kR m) c, .int .i64 n] W fun e w' => e = .returned (.int .i64 (setN a n)) ∧ w' = W from fun W A c h => by rw [← hla]; exact rset_any n h)
      have HTb := Lib.hid (show ∀ (W : World) (A : Option Addr) (c : Nat) (_ : IntsIn W A b), Calls Try.prog 42 #[.slice A (kR m) c, .int .i64 n] W fun e w' => e = .returned (.int .i64 (setN b n)) ∧ w' = W from fun W A c h => by rw [← hlb]; exact rset_any n h)
      clear hin hck hok hla hlb
      go_enter Try.func30, Try.ntmps30
      go_wp2_with (first
        | (go_at_call 19; (with_reducible refine (HC.out _).mono ?_); rintro e w1 ⟨rfl, hb1⟩; have HM1 := Lib.hid (HM.out.on hb1); clear c0 c1 c2 c3 c4 c5 c6 c7 c8 c9 c10 c11; obtain ⟨c0, c1, c2, c3, c4, c5, c6, c7, c8, c9, c10, c11⟩ := HM1.out.b0.cells; clear hb1)
        | (go_at_call 51; refine (HI.out _).mono ?_; rintro e w2 ⟨rfl, hw2⟩; rw [hw2]; clear hw2)
        | (go_at_call 69; (with_reducible refine (HE.out _).mono ?_); rintro e w3 ⟨A, c, A2, d, rfl, i1, i2, hb⟩; have HM3 := Lib.hid (HM1.out.on hb); have I1 := Lib.hid i1; have I2 := Lib.hid i2; have f0 := HM3.out.b1.frozen 0; have f1 := HM3.out.b1.frozen 1; have d0 := HM3.out.b1.cell 0; have d1 := HM3.out.b1.cell 1; clear hb i1 i2 c0 c1 c2 c3 c4 c5 c6 c7 c8 c9 c10 c11)
        | (go_at_call 42; (with_reducible refine (HTb.out _ _ _ I2.out).mono ?_); rintro e w4 ⟨rfl, hw4⟩; rw [hw4]; clear hw4)
        | (go_at_call 42; (with_reducible refine (HTa.out _ _ _ I1.out).mono ?_); rintro e w5 ⟨rfl, hw5⟩; rw [hw5]; clear hw5)
        | fail)
      have s0 := (HM3.out.b1.set_ 0 (.int .i64 (setN b n))).cell 0
      have s1 := ((HM3.out.b1.set_ 0 (.int .i64 (setN b n))).set_ 1 (.int .i64 (setN a n))).cell 1
      refine bodyPost_ret (v := .tuple #[.agg #[.int .i64 (setN b n), .int .i64 (setN a n)], .int .i64 0]) (by simp at s0 s1; simp [results, Try.results30, go_sem, s0, s1]) rfl ⟨by rw [HR.out], ?_⟩
      exact below_set (below_set HM3.out.b0.b (by omega)) (by omega)
    | false =>
      have HI := Lib.hid (fun W => rin_any n 0 600 W)
      rw [hin] at HI
      have HR : Hid (skinR m n = ((0, 0), 7)) := by
        show skinR m n = _
        unfold skinR
        rw [if_neg (fun h => h hck), if_neg (by rw [hin]; decide)]
      clear hin hck hok
      go_enter Try.func30, Try.ntmps30
      go_wp2_with (first
        | (go_at_call 19; (with_reducible refine (HC.out _).mono ?_); rintro e w1 ⟨rfl, hb1⟩; have HM1 := Lib.hid (HM.out.on hb1); clear c0 c1 c2 c3 c4 c5 c6 c7 c8 c9 c10 c11; obtain ⟨c0, c1, c2, c3, c4, c5, c6, c7, c8, c9, c10, c11⟩ := HM1.out.b0.cells; have f0 := HM1.out.b1.frozen 0; have f1 := HM1.out.b1.frozen 1; have d0 := HM1.out.b1.cell 0; have d1 := HM1.out.b1.cell 1; clear hb1)
        | (go_at_call 51; refine (HI.out _).mono ?_; rintro e w2 ⟨rfl, hw2⟩; rw [hw2]; clear hw2)
        | fail)
      have s0 := (HM1.out.b1.set_ 0 (.int .i64 0)).cell 0
      have s1 := ((HM1.out.b1.set_ 0 (.int .i64 0)).set_ 1 (.int .i64 0)).cell 1
      refine bodyPost_ret (v := .tuple #[.agg #[.int .i64 0, .int .i64 0], .int .i64 7]) (by simp at s0 s1; simp [results, Try.results30, go_sem, s0, s1]) rfl ⟨by rw [HR.out], ?_⟩
      exact below_set (below_set HM1.out.b0.b (by omega)) (by omega)
  · have HR : Hid (skinR m n = ((0, 0), checkM m)) := if_pos hck
    have hz : (checkM m != 0) = true := by simpa using hck
    have hz2 : (checkM m == 0) = false := by simpa using hck
    generalize checkM m = z at *
    go_enter Try.func30, Try.ntmps30
    go_wp2_with (first
        | (go_at_call 19; (with_reducible refine (HC.out _).mono ?_); rintro e w1 ⟨rfl, hb1⟩; have HM1 := Lib.hid (HM.out.on hb1); clear c0 c1 c2 c3 c4 c5 c6 c7 c8 c9 c10 c11; obtain ⟨c0, c1, c2, c3, c4, c5, c6, c7, c8, c9, c10, c11⟩ := HM1.out.b0.cells; have f0 := HM1.out.b1.frozen 0; have f1 := HM1.out.b1.frozen 1; have d0 := HM1.out.b1.cell 0; have d1 := HM1.out.b1.cell 1; clear hb1)
        | fail)
    have s0 := (HM1.out.b1.set_ 0 (.int .i64 0)).cell 0
    have s1 := ((HM1.out.b1.set_ 0 (.int .i64 0)).set_ 1 (.int .i64 0)).cell 1
    refine bodyPost_ret (v := .tuple #[.agg #[.int .i64 0, .int .i64 0], .int .i64 z]) (by simp at s0 s1; simp [results, Try.results30, go_sem, s0, s1]) rfl ⟨by rw [HR.out], ?_⟩
    exact below_set (below_set HM1.out.b0.b (by omega)) (by omega)
end Go.Proofs.Ytljbjcnfkbmjkaa
