/- mould.shrinks, mould.closed: contracts. -/
import Derived.Test.YtljbjcnfkbmjkaaMdE
namespace Go.Proofs.Ytljbjcnfkbmjkaa
open Go.RowKit Go.Shelf Go.Maps
attribute [local go_sem] Oper.semAt_some

set_option maxRecDepth 100000 in
theorem shrinks_any {m : Md} (hm : MdIn m) {i : Nat} (hi : i < kR m) (w : World) :
    Calls Try.prog 94 #[.agg #[.int .i64 m.rings, .int .i64 m.give, .int .i64 m.plo, .int .i64 m.phi, .int .i64 m.wlo, .int .i64 m.whi, .int .i64 m.st, .int .i64 m.shrink, .int .i64 m.skin, .int .i64 m.fill, .int .i64 m.gap, .int .i64 m.deep], .int .i64 i] w fun e w' => e = .returned (.int .i64 (shrV m i)) ∧ Below w.heap.size w w' := by
  have HB := Lib.hid (MdBk.new w 88 m)
  have hs := shrV_nonneg hm hi
  have h1 := hm.shrink
  have h2 := hm.rings
  have h3 : (i : Int) < m.rings := by rw [← kR_eq hm]; omega
  have e1 : IntKind.i64.wrap (m.rings - 1) = m.rings - 1 := IntWalk.i64_in _ (by omega)
  have e2 : IntKind.i64.wrap (m.rings - 1 - (i : Int)) = m.rings - 1 - (i : Int) := IntWalk.i64_in _ (by omega)
  have e3 : IntKind.i64.wrap (2 * (m.rings - 1 - (i : Int))) = 2 * (m.rings - 1 - (i : Int)) := IntWalk.i64_in _ (by omega)
  have e4 : IntKind.i64.wrap (1 + 2 * (m.rings - 1 - (i : Int))) = 1 + 2 * (m.rings - 1 - (i : Int)) := IntWalk.i64_in _ (by omega)
  have e5 : IntKind.i64.wrap (m.shrink * (1 + 2 * (m.rings - 1 - (i : Int)))) = m.shrink * (1 + 2 * (m.rings - 1 - (i : Int))) := IntWalk.i64_in _ (by unfold shrV at hs; omega)
  clear hs
  go_enter Try.func94, Try.ntmps94
  go_wp2_with fail
  go_ret
  exact ⟨rfl, HB.out.b⟩
set_option maxRecDepth 100000 in
theorem closed_any {m : Md} {b c : Nat} (w : World) :
    Calls Try.prog 75 #[.agg #[.int .i64 m.rings, .int .i64 m.give, .int .i64 m.plo, .int .i64 m.phi, .int .i64 m.wlo, .int .i64 m.whi, .int .i64 m.st, .int .i64 m.shrink, .int .i64 m.skin, .int .i64 m.fill, .int .i64 m.gap, .int .i64 m.deep], .agg #[.map (some b), .map (some c)]] w fun e w' => e = .returned (.func (.func 92) #[] #[.pointer (some ⟨w.heap.size + 1, 0, none⟩), .pointer (some ⟨w.heap.size, 0, none⟩)]) ∧ Below w.heap.size w w' ∧ Blk w' w.heap.size 88 #[.int .i64 m.rings, .int .i64 m.give, .int .i64 m.plo, .int .i64 m.phi, .int .i64 m.wlo, .int .i64 m.whi, .int .i64 m.st, .int .i64 m.shrink, .int .i64 m.skin, .int .i64 m.fill, .int .i64 m.gap, .int .i64 m.deep] ∧ Blk w' (w.heap.size + 1) 106 #[.map (some b), .map (some c)] := by
  have HB := Lib.hid (show Below w.heap.size w ((w.alloc (.cells #[.int .i64 m.rings, .int .i64 m.give, .int .i64 m.plo, .int .i64 m.phi, .int .i64 m.wlo, .int .i64 m.whi, .int .i64 m.st, .int .i64 m.shrink, .int .i64 m.skin, .int .i64 m.fill, .int .i64 m.gap, .int .i64 m.deep] 88)).alloc (.cells #[.map (some b), .map (some c)] 106)) from ((Below.refl _ w).alloc (Nat.le_refl _) _).alloc (by simp) _)
  go_enter Try.func75, Try.ntmps75
  go_wp2_with fail
  go_ret
  exact ⟨rfl, HB.out, (Blk.new w _ _).alloc _, Blk.new1 w _ _ _⟩
end Go.Proofs.Ytljbjcnfkbmjkaa
