/- mould.atEnds at warmths: contract. -/
import Derived.Test.YtljbjcnfkbmjkaaMd8
namespace Go.Proofs.Ytljbjcnfkbmjkaa
open Go.RowKit Go.Shelf Go.Maps
attribute [local go_sem] Oper.semAt_some

set_option maxRecDepth 100000 in
theorem warmF_any {w : World} {m : Md} (hm : MdIn m) {B7 B3 s : Nat} {p q : Int} (hp : 0 ≤ p ∧ p ≤ 2000) (hq : 0 ≤ q ∧ q ≤ 2000) (hs : s ≤ 600) (h7 : Blk w B7 88 #[.int .i64 m.rings, .int .i64 m.give, .int .i64 m.plo, .int .i64 m.phi, .int .i64 m.wlo, .int .i64 m.whi, .int .i64 m.st, .int .i64 m.shrink, .int .i64 m.skin, .int .i64 m.fill, .int .i64 m.gap, .int .i64 m.deep]) (h3 : Blk w B3 3 #[.int .i64 s]) :
    Calls Try.prog 60 #[.agg #[.int .i64 p, .int .i64 q], .pointer (some ⟨B7, 0, none⟩), .pointer (some ⟨B3, 0, none⟩)] w fun e w' => e = .returned (.agg #[.int .i64 (la (stW m p q s) 0), .int .i64 (la (stW m p q s) 1), .int .i64 (la (stW m p q s) 2), .int .i64 (la (stW m p q s) 3), .int .i64 (la (stW m p q s) 4), .int .i64 (la (stW m p q s) 5), .int .i64 (la (stW m p q s) 6), .int .i64 (la (stW m p q s) 7)]) ∧ Below w.heap.size w w' := by
  have h7l := h7.lt
  have h3l := h3.lt
  have hc3 := h3.cell 0
  have HA := Lib.hid (fun W : World => after_any (w := W) hm hp hq hs)
  generalize la (stW m p q s) = a at *
  obtain ⟨c0, c1, c2, c3, c4, c5, c6, c7, c8, c9, c10, c11⟩ := (show MdBk w B7 88 m w from ⟨h7, Below.refl _ _⟩).cells
  have hb0 : Below w.heap.size w ((w.alloc (.cells #[.int .i64 p, .int .i64 q] 98)).alloc (.cells #[.int .i64 ((fun (_ : Nat) => (0 : Int)) 0), .int .i64 ((fun (_ : Nat) => (0 : Int)) 1), .int .i64 ((fun (_ : Nat) => (0 : Int)) 2), .int .i64 ((fun (_ : Nat) => (0 : Int)) 3), .int .i64 ((fun (_ : Nat) => (0 : Int)) 4), .int .i64 ((fun (_ : Nat) => (0 : Int)) 5), .int .i64 ((fun (_ : Nat) => (0 : Int)) 6), .int .i64 ((fun (_ : Nat) => (0 : Int)) 7)] 90)) := ((Below.refl _ w).alloc (Nat.le_refl _) _).alloc (by simp) _
  go_enter Try.func60, Try.ntmps60
  go_wp2_with (first
    | (go_at_call 61; refine (HA.out _).mono ?_; rintro e w2 ⟨rfl, hb2⟩; have h4 := Lib.hid ((show W8 _ (w.heap.size + 1) (fun _ => 0) from ⟨Blk.new1 w _ _ _⟩).on hb2); have HB2 := Lib.hid (hb0.trans (hb2.mono (by simp; omega))); obtain ⟨f0, f1, f2, f3, f4, f5, f6, f7⟩ := h4.out.frozen; obtain ⟨y0, y1, y2, y3, y4, y5, y6, y7⟩ := h4.out.cells; clear hb2)
    | fail)
  have h5 := Lib.hid (set8_w8 h4.out a)
  obtain ⟨z0, z1, z2, z3, z4, z5, z6, z7⟩ := h5.out.cells
  refine bodyPost_ret (v := .agg #[.int .i64 (a 0), .int .i64 (a 1), .int .i64 (a 2), .int .i64 (a 3), .int .i64 (a 4), .int .i64 (a 5), .int .i64 (a 6), .int .i64 (a 7)]) ?_ rfl ⟨rfl, set8_below HB2.out (by omega) a⟩
  simp [results, Try.results60, go_sem, *]
end Go.Proofs.Ytljbjcnfkbmjkaa
