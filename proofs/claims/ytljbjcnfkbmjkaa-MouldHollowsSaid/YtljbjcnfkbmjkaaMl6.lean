/- MouldHollows: the law. -/
import Derived.Test.YtljbjcnfkbmjkaaGk
import Derived.Test.YtljbjcnfkbmjkaaMl7
import Derived.Test.YtljbjcnfkbmjkaaMeH
namespace Go.Proofs.Ytljbjcnfkbmjkaa
open Go.RowKit Go.Shelf Go.Maps
attribute [local go_sem] Oper.semAt_some

/-- What lies in memory: the mould, the plan, the hollow. -/
structure LgB (w : World) (m : Md) (B : Option Addr) (l : List Int) (K : Nat) (x1 x2 x3 x4 : Int) (W : World) : Prop where
  bm : MdBk w w.heap.size 25 m W
  l : IntsIn W B l
  k : Blk W K 45 #[.int .i64 x1, .int .i64 x2, .int .i64 x3, .int .i64 x4]
theorem LgB.on {w W W' : World} {m : Md} {B : Option Addr} {K : Nat} {l : List Int} {x1 x2 x3 x4 : Int} (h : LgB w m B l K x1 x2 x3 x4 W) (hb : Below W.heap.size W W') : LgB w m B l K x1 x2 x3 x4 W' := ⟨h.bm.on hb, h.l.on hb, h.k.on hb⟩
set_option maxRecDepth 100000 in
set_option maxHeartbeats 8000000 in
theorem lhollows_any (m : Md) {w : World} {B : Option Addr} {d : Nat} {l : List Int} (hl : IntsIn w B l) :
    Calls Try.prog 5 #[.agg #[.int .i64 m.rings, .int .i64 m.give, .int .i64 m.plo, .int .i64 m.phi, .int .i64 m.wlo, .int .i64 m.whi, .int .i64 m.st, .int .i64 m.shrink, .int .i64 m.skin, .int .i64 m.fill, .int .i64 m.gap, .int .i64 m.deep], .slice B l.length d] w fun e w' => e = .returned (.bool true) ∧ Below w.heap.size w w' := by
  have HM := Lib.hid (MdBk.new w 25 m)
  have HL := Lib.hid (hl.on HM.out.b)
  have HH0 := Lib.hid (fun (W : World) (d : Nat) (hB : IntsIn W B l) => hollow_any (c := d) m hB)
  have HJ0 := Lib.hid (fun (W : World) (d : Nat) (hB : IntsIn W B l) => rhollow_any (d := d) m hB)
  have HF0 := Lib.hid (fun W => fewest_any m W)
  have HG0 := Lib.hid (fun W => rfewest_any m W)
  generalize hhl : hollR m l = hh at *
  generalize hfl : fewR m = ff at *
  clear hhl hfl
  obtain ⟨⟨⟨x1, x2⟩, ⟨x3, x4⟩⟩, f⟩ := hh
  obtain ⟨bl, g⟩ := ff
  simp only at HH0 HJ0 HF0 HG0
  have HF : Hid (∀ W, Calls Try.prog 33 #[.agg #[.int .i64 m.rings, .int .i64 m.give, .int .i64 m.plo, .int .i64 m.phi, .int .i64 m.wlo, .int .i64 m.whi, .int .i64 m.st, .int .i64 m.shrink, .int .i64 m.skin, .int .i64 m.fill, .int .i64 m.gap, .int .i64 m.deep]] W fun e w' => ∃ A c, e = .returned (.tuple #[.slice A bl.length c, .int .i64 g]) ∧ IntsIn w' A bl ∧ Below W.heap.size W w') := fun W =>
    (HF0.out W).mono fun e w' ⟨v, he, hv, hb⟩ => by
      obtain ⟨A, c, rfl, hin⟩ := IntsOut.in_ hv
      exact ⟨A, c, he, hin, hb⟩
  have HG : Hid (∀ W, Calls Try.prog 34 #[.agg #[.int .i64 m.rings, .int .i64 m.give, .int .i64 m.plo, .int .i64 m.phi, .int .i64 m.wlo, .int .i64 m.whi, .int .i64 m.st, .int .i64 m.shrink, .int .i64 m.skin, .int .i64 m.fill, .int .i64 m.gap, .int .i64 m.deep]] W fun e w' => ∃ A c, e = .returned (.tuple #[.slice A bl.length c, .int .i64 g]) ∧ IntsIn w' A bl ∧ Below W.heap.size W w') := fun W =>
    (HG0.out W).mono fun e w' ⟨v, he, hv, hb⟩ => by
      obtain ⟨A, c, rfl, hin⟩ := IntsOut.in_ hv
      exact ⟨A, c, he, hin, hb⟩
  have HIT := Lib.hid (show ∀ (W : World) (X Y : Option Addr) (a b : Nat) (_ : IntsIn W X bl) (_ : IntsIn W Y bl), Calls Try.prog 22 #[.slice X bl.length a, .slice Y bl.length b] W fun e w' => e = .returned (.bool true) ∧ Below W.heap.size W w' from
    fun W X Y a b h1 h2 => (rints_any (c := a) (d := b) h1 h2).mono fun e w' h => ⟨by rw [h.1, decide_eq_true rfl], h.2⟩)
  clear HF0 HG0 hl
  generalize bl.length = nb at *
  generalize l.length = nl at *
  have hff : (f != f) = false := by simp
  have hgg : (g == g) = true := by simp
  have hne : ∀ W, (binOp .neq 45 (.agg #[.int .i64 x1, .int .i64 x2, .int .i64 x3, .int .i64 x4]) (.agg #[.int .i64 x1, .int .i64 x2, .int .i64 x3, .int .i64 x4])).run Try.prog W = .ok (.bool false) W := fun W => end_neq x1 x2 x3 x4 W
  go_enter Try.func5, Try.ntmps5
  obtain ⟨z0, z1, z2, z3, z4, z5, z6, z7, z8, z9, z10, z11⟩ := HM.out.cells
  go_wp2_with (first
    | (go_at_call 31; (with_reducible refine (HH0.out _ _ HL.out).mono ?_); rintro e w1 ⟨rfl, hb⟩; have HB1 := Lib.hid ((Below.refl _ w1).alloc (Nat.le_refl _) (.cells #[.int .i64 x1, .int .i64 x2, .int .i64 x3, .int .i64 x4] 45)); have H1 : Hid (LgB w m B l w1.heap.size x1 x2 x3 x4 (w1.alloc (.cells #[.int .i64 x1, .int .i64 x2, .int .i64 x3, .int .i64 x4] 45))) := ⟨(HM.out.on hb).on HB1.out, (HL.out.on hb).on HB1.out, Blk.new w1 _ _⟩; clear z0 z1 z2 z3 z4 z5 z6 z7 z8 z9 z10 z11; obtain ⟨z0, z1, z2, z3, z4, z5, z6, z7, z8, z9, z10, z11⟩ := H1.out.bm.cells; clear hb)
    | (go_at_call 32; (with_reducible refine (HJ0.out _ _ H1.out.l).mono ?_); rintro e w2 ⟨rfl, hb⟩; have HB2 := Lib.hid ((Below.refl _ w2).alloc (Nat.le_refl _) (.cells #[.int .i64 x1, .int .i64 x2, .int .i64 x3, .int .i64 x4] 45)); have H2 := Lib.hid ((H1.out.on hb).on HB2.out); clear z0 z1 z2 z3 z4 z5 z6 z7 z8 z9 z10 z11; have d0 := (H1.out.on hb).k.cell 0; have d1 := (H1.out.on hb).k.cell 1; have d2 := (H1.out.on hb).k.cell 2; have d3 := (H1.out.on hb).k.cell 3; have hl2 := (H1.out.on hb).k.lt; obtain ⟨z0, z1, z2, z3, z4, z5, z6, z7, z8, z9, z10, z11⟩ := H2.out.bm.cells; clear hb)
    | (go_at_call 33; (with_reducible refine (HF.out _).mono ?_); rintro e w3 ⟨A3, a3, rfl, i3, hb⟩; have H3 := Lib.hid (And.intro (H2.out.on hb) i3); clear z0 z1 z2 z3 z4 z5 z6 z7 z8 z9 z10 z11 d0 d1 d2 d3 hl2; obtain ⟨z0, z1, z2, z3, z4, z5, z6, z7, z8, z9, z10, z11⟩ := H3.out.1.bm.cells; clear hb i3)
    | (go_at_call 34; (with_reducible refine (HG.out _).mono ?_); rintro e w4 ⟨A4, a4, rfl, i4, hb⟩; have H4 := Lib.hid (And.intro (H3.out.1.on hb) (And.intro (H3.out.2.on hb) i4)); clear z0 z1 z2 z3 z4 z5 z6 z7 z8 z9 z10 z11; clear hb i4)
    | (go_at_call 22; (with_reducible refine (HIT.out _ _ _ _ _ H4.out.2.1 H4.out.2.2).mono ?_); rintro e w5 ⟨rfl, hb⟩; have H5 := Lib.hid (H4.out.1.on hb); clear hb)
    | (go_at_call 26; (with_reducible refine (awake_any _).mono ?_); rintro e w6 ⟨rfl, hb⟩; have H6 := Lib.hid (H5.out.on hb); clear hb)
    | fail)
  go_ret
  exact ⟨rfl, H6.out.bm.b⟩
end Go.Proofs.Ytljbjcnfkbmjkaa
