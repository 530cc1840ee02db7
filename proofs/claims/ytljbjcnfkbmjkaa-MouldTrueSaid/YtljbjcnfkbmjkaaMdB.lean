/- mould.span at warmths: contracts. -/
import Derived.Test.YtljbjcnfkbmjkaaMdA
namespace Go.Proofs.Ytljbjcnfkbmjkaa
open Go.RowKit Go.Shelf Go.Maps
attribute [local go_sem] Oper.semAt_some

set_option maxRecDepth 100000 in
theorem ofw_any (w : World) (a : Nat → Int) {r : Nat} (hr8 : r < 8) :
    Calls Try.prog 63 #[.agg #[.int .i64 (a 0), .int .i64 (a 1), .int .i64 (a 2), .int .i64 (a 3), .int .i64 (a 4), .int .i64 (a 5), .int .i64 (a 6), .int .i64 (a 7)], .int .i64 r] w fun e w' => e = .returned (.int .i64 (a r)) ∧ Below w.heap.size w w' := by
  have hb : Below w.heap.size w (w.alloc (.cells #[.int .i64 (a 0), .int .i64 (a 1), .int .i64 (a 2), .int .i64 (a 3), .int .i64 (a 4), .int .i64 (a 5), .int .i64 (a 6), .int .i64 (a 7)] 90)) := (Below.refl _ w).alloc (Nat.le_refl _) _
  have hc : (w.alloc (.cells #[.int .i64 (a 0), .int .i64 (a 1), .int .i64 (a 2), .int .i64 (a 3), .int .i64 (a 4), .int .i64 (a 5), .int .i64 (a 6), .int .i64 (a 7)] 90)).cell? ⟨w.heap.size, r, none⟩ = some (.int .i64 (a r)) := (show W8 _ w.heap.size a from ⟨Blk.new w _ _⟩).cell hr8
  have HB := Lib.hid hb
  clear hb
  go_enter Try.func63, Try.ntmps63
  go_wp2_with fail
  go_ret
  exact ⟨rfl, HB.out⟩
set_option maxRecDepth 100000 in
theorem spansFw_any {w : World} (a : Nat → Int) {r B5 B8 : Nat} (hr8 : r < 8) (h5 : w.cell? ⟨B5, 0, none⟩ = some (.func (.func 63) #[] #[])) (h8 : w.cell? ⟨B8, 0, none⟩ = some (.int .i64 r)) (hl5 : B5 < w.heap.size) (hl8 : B8 < w.heap.size) :
    Calls Try.prog 89 #[.agg #[.int .i64 (a 0), .int .i64 (a 1), .int .i64 (a 2), .int .i64 (a 3), .int .i64 (a 4), .int .i64 (a 5), .int .i64 (a 6), .int .i64 (a 7)], .pointer (some ⟨B5, 0, none⟩), .pointer (some ⟨B8, 0, none⟩)] w fun e w' => e = .returned (.int .i64 (a r)) ∧ Below w.heap.size w w' := by
  have eg : ∀ args w, (callFunc 63 args).run Try.prog w = .ok (.enter 63 args) w := enters_of Try.func63 (by kernel_rfl) rfl
  have HB := Lib.hid ((Below.refl _ w).alloc (Nat.le_refl _) (.cells #[.int .i64 (a 0), .int .i64 (a 1), .int .i64 (a 2), .int .i64 (a 3), .int .i64 (a 4), .int .i64 (a 5), .int .i64 (a 6), .int .i64 (a 7)] 90))
  go_enter Try.func89, Try.ntmps89
  go_wp2_with fail
  refine (ofw_any _ a hr8).mono ?_
  rintro e w' ⟨rfl, hb⟩
  have HB2 := Lib.hid (HB.out.trans (hb.mono (by simp)))
  clear hb
  go_wp2_with fail
  go_ret
  exact ⟨rfl, HB2.out⟩
end Go.Proofs.Ytljbjcnfkbmjkaa
