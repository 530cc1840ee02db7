/- MouldSets: the law. -/
import Derived.Test.YtljbjcnfkbmjkaaMgb
import Derived.Test.YtljbjcnfkbmjkaaMgc
import Derived.Test.YtljbjcnfkbmjkaaMeH
namespace Go.Proofs.Ytljbjcnfkbmjkaa
open Go.RowKit Go.Shelf Go.Maps
attribute [local go_sem] Oper.semAt_some

set_option maxRecDepth 100000 in
set_option maxHeartbeats 8000000 in
theorem lsets_any (m : Md) (n : Int) (w : World) :
    Calls Try.prog 4 #[.agg #[.int .i64 m.rings, .int .i64 m.give, .int .i64 m.plo, .int .i64 m.phi, .int .i64 m.wlo, .int .i64 m.whi, .int .i64 m.st, .int .i64 m.shrink, .int .i64 m.skin, .int .i64 m.fill, .int .i64 m.gap, .int .i64 m.deep], .int .i64 n] w fun e w' => e = .returned (.bool true) ∧ Below w.heap.size w w' := by
  have HM := Lib.hid (MdBk.new w 25 m)
  have HA0 := Lib.hid (fun W => msets_any m W)
  have HB0 := Lib.hid (fun W => rsets_any m W)
  have HK := Lib.hid (fun W => mskin_any m n W)
  have HJ := Lib.hid (fun W => rskin_any m n W)
  generalize hsl : setsR m = sl at *
  generalize hkl : skinR m n = kl at *
  clear hsl hkl
  obtain ⟨ls, f⟩ := sl
  obtain ⟨⟨k0, k1⟩, g⟩ := kl
  simp only at HA0 HB0 HK HJ
  have HA : Hid (∀ W, Calls Try.prog 27 #[.agg #[.int .i64 m.rings, .int .i64 m.give, .int .i64 m.plo, .int .i64 m.phi, .int .i64 m.wlo, .int .i64 m.whi, .int .i64 m.st, .int .i64 m.shrink, .int .i64 m.skin, .int .i64 m.fill, .int .i64 m.gap, .int .i64 m.deep]] W fun e w' => ∃ A c, e = .returned (.tuple #[.slice A ls.length c, .int .i64 f]) ∧ SpansIn w' A ls ∧ Below W.heap.size W w') := fun W =>
    (HA0.out W).mono fun e w' ⟨v, he, hv, hb⟩ => by
      obtain ⟨A, c, rfl, hin⟩ := SpansOut.in_ hv
      exact ⟨A, c, he, hin, hb⟩
  have HB : Hid (∀ W, Calls Try.prog 28 #[.agg #[.int .i64 m.rings, .int .i64 m.give, .int .i64 m.plo, .int .i64 m.phi, .int .i64 m.wlo, .int .i64 m.whi, .int .i64 m.st, .int .i64 m.shrink, .int .i64 m.skin, .int .i64 m.fill, .int .i64 m.gap, .int .i64 m.deep]] W fun e w' => ∃ A c, e = .returned (.tuple #[.slice A ls.length c, .int .i64 f]) ∧ SpansIn w' A ls ∧ Below W.heap.size W w') := fun W =>
    (HB0.out W).mono fun e w' ⟨v, he, hv, hb⟩ => by
      obtain ⟨A, c, rfl, hin⟩ := SpansOut.in_ hv
      exact ⟨A, c, he, hin, hb⟩
  have HST := Lib.hid (show ∀ (W : World) (X Y : Option Addr) (a b : Nat) (_ : SpansIn W X ls) (_ : SpansIn W Y ls), Calls Try.prog 25 #[.slice X ls.length a, .slice Y ls.length b] W fun e w' => e = .returned (.bool true) ∧ Below W.heap.size W w' from
    fun W X Y a b h1 h2 => (rspans_any (c := a) (d := b) h1.at_ h1.len h2.at_ h2.len).mono fun e w' h => ⟨by rw [h.1, decide_eq_true rfl], by obtain ⟨k, rfl⟩ := h.2; exact below_drewN' (Below.refl _ _) _⟩)
  clear HA0 HB0
  generalize ls.length = nl at *
  have hff : (f != f) = false := by simp
  have hgg : (g == g) = true := by simp
  have hkk : ∀ W, (binOp .eql 23 (.agg #[.int .i64 k0, .int .i64 k1]) (.agg #[.int .i64 k0, .int .i64 k1])).run Try.prog W = .ok (.bool true) W := fun W => by
    have := span_eql (k0, k1) (k0, k1) W
    simpa using this
  go_enter Try.func4, Try.ntmps4
  obtain ⟨z0, z1, z2, z3, z4, z5, z6, z7, z8, z9, z10, z11⟩ := HM.out.cells
  go_wp2_with (first
    | (go_at_call 27; (with_reducible refine (HA.out _).mono ?_); rintro e w1 ⟨A1, a1, rfl, i1, hb⟩; have H1 := Lib.hid (And.intro (HM.out.on hb) i1); clear z0 z1 z2 z3 z4 z5 z6 z7 z8 z9 z10 z11; obtain ⟨z0, z1, z2, z3, z4, z5, z6, z7, z8, z9, z10, z11⟩ := H1.out.1.cells; clear hb i1)
    | (go_at_call 28; (with_reducible refine (HB.out _).mono ?_); rintro e w2 ⟨A2, a2, rfl, i2, hb⟩; have H2 := Lib.hid (And.intro (H1.out.1.on hb) (And.intro (H1.out.2.on hb) i2)); clear z0 z1 z2 z3 z4 z5 z6 z7 z8 z9 z10 z11; clear hb i2)
    | (go_at_call 25; (with_reducible refine (HST.out _ _ _ _ _ H2.out.2.1 H2.out.2.2).mono ?_); rintro e w3 ⟨rfl, hb⟩; have H3 := Lib.hid (H2.out.1.on hb); clear hb; obtain ⟨z0, z1, z2, z3, z4, z5, z6, z7, z8, z9, z10, z11⟩ := H3.out.cells)
    | (go_at_call 29; (with_reducible refine (HK.out _).mono ?_); rintro e w4 ⟨rfl, hb⟩; have HB4 := Lib.hid ((Below.refl _ w4).alloc (Nat.le_refl _) (.cells #[.int .i64 k0, .int .i64 k1] 23)); have H4 : Hid (MdBk w w.heap.size 25 m (w4.alloc (.cells #[.int .i64 k0, .int .i64 k1] 23)) ∧ Blk (w4.alloc (.cells #[.int .i64 k0, .int .i64 k1] 23)) w4.heap.size 23 #[.int .i64 k0, .int .i64 k1]) := ⟨(H3.out.on hb).on HB4.out, Blk.new w4 _ _⟩; clear z0 z1 z2 z3 z4 z5 z6 z7 z8 z9 z10 z11; obtain ⟨z0, z1, z2, z3, z4, z5, z6, z7, z8, z9, z10, z11⟩ := H4.out.1.cells; clear hb)
    | (go_at_call 30; (with_reducible refine (HJ.out _).mono ?_); rintro e w5 ⟨rfl, hb⟩; have HB5 := Lib.hid ((Below.refl _ w5).alloc (Nat.le_refl _) (.cells #[.int .i64 k0, .int .i64 k1] 23)); have H5 : Hid (MdBk w w.heap.size 25 m (w5.alloc (.cells #[.int .i64 k0, .int .i64 k1] 23)) ∧ Blk (w5.alloc (.cells #[.int .i64 k0, .int .i64 k1] 23)) w4.heap.size 23 #[.int .i64 k0, .int .i64 k1]) := ⟨(H4.out.1.on hb).on HB5.out, (H4.out.2.on hb).on HB5.out⟩; clear z0 z1 z2 z3 z4 z5 z6 z7 z8 z9 z10 z11; have d0 := (H4.out.2.on hb).cell 0; have d1 := (H4.out.2.on hb).cell 1; have hl5 := (H4.out.2.on hb).lt; clear hb)
    | (go_at_call 26; (with_reducible refine (awake_any _).mono ?_); rintro e w6 ⟨rfl, hb⟩; have H6 := Lib.hid (H5.out.1.on hb); clear hb)
    | fail)
  go_ret
  exact ⟨rfl, H6.out.b⟩
end Go.Proofs.Ytljbjcnfkbmjkaa
