/- What the listed variables give; a start that fits. -/
import Derived.Test.YtnpajncolkafgaaGreatDoorLine
import Derived.Test.YtnpajncolkafgaaGreatDoorCards
import Derived.Test.YtnpajncolkafgaaGreatDoorTie
import Derived.WalkKit
import Derived.ProofKit
import Derived.OpenShut
import Derived.Deep.DeepHandedRow
import Derived.Deep.DeepWitnessRowRef
import Derived.Lib.LaidTab
import Derived.Stop.LaidErr
import Derived.LaidMore
import Derived.Shelf.Vars
import Derived.Lib.LaidU8
namespace Go.Proofs.YtnpajncolkafgaaGreatDoor
open Go.ChangeShapes Go.WideShapes Go.ChangeAt Go.RowKit

theorem own : ownKnob Tryz.prog.godebug = none := by kernel_rfl
theorem g_pow : Tryz.prog.globalNamed "internal/strconv.uint64pow10" = some 0 := by kernel_rfl
theorem g_max : Tryz.prog.globalNamed "internal/bytealg.MaxLen" = some 1 := by kernel_rfl
theorem g_syn : Tryz.prog.globalNamed "strconv.ErrSyntax" = some 4 := by kernel_rfl
theorem g_rng : Tryz.prog.globalNamed "strconv.ErrRange" = some 5 := by kernel_rfl
theorem gt_pow : (Tryz.prog.globals[0]?).map (·.type) = some 200 := by kernel_rfl
theorem gt_syn : (Tryz.prog.globals[4]?).map (·.type) = some 165 := by kernel_rfl
theorem gt_rng : (Tryz.prog.globals[5]?).map (·.type) = some 165 := by kernel_rfl
theorem c_pow : Tryz.prog.cellsOf 200 = 20 := by kernel_rfl
theorem c_u64 : Tryz.prog.cellsOf 184 = 1 := by kernel_rfl
theorem c_es : Tryz.prog.cellsOf 234 = 1 := by kernel_rfl
theorem c_str : Tryz.prog.cellsOf 9 = 1 := by kernel_rfl
theorem es_name : Tryz.prog.typeName? 3 232 = some "*errors.errorString" := by kernel_rfl
theorem es_star : "*errors.errorString" = "*" ++ "errors.errorString" := by decide
set_option maxRecDepth 100000 in
theorem es_row (u : TypeId) (h : Tryz.prog.typeName? 3 u = some "*errors.errorString") : u = 232 :=
  typeName_ptr_named (nm := "errors.errorString") (by rw [← es_star]; kernel_rfl) (by kernel_rfl) (by decide) u (by rw [← es_star]; exact h)

theorem base_of {W : World} (h0 : laidMetH Tryz.prog Rows.waxKnownRow.laid W) (hs : W.ShapedOpen Tryz.prog) : Base W := by
  rw [MakeChecks.laidMetH_plain _ _ _ (by kernel_rfl)] at h0
  have h : laidMet Tryz.prog (("math/bits.deBruijn32tab", Rows.laid_math_bits_deBruijn32tab) :: ("math/bits.deBruijn64tab", Rows.laid_math_bits_deBruijn64tab) :: ("internal/strconv.uint64pow10", Lib.tabData .u64 Lib.pow10Tab) :: ("unicode/utf8.acceptRanges", Rows.laid_unicode_utf8_acceptRanges) :: ("strconv.ErrRange", .iface "*errors.errorString" (.ptr (.agg [.lit (.string [118, 97, 108, 117, 101, 32, 111, 117, 116, 32, 111, 102, 32, 114, 97, 110, 103, 101])]))) :: ("strconv.ErrSyntax", .iface "*errors.errorString" (.ptr (.agg [.lit (.string [105, 110, 118, 97, 108, 105, 100, 32, 115, 121, 110, 116, 97, 120])]))) :: [("unicode/utf8.first", Rows.laid_unicode_utf8_first)]) W := h0
  refine ⟨?_, ?_, ?_, ?_⟩
  · exact Lib.tabIs_of_head g_pow gt_pow Tryz.underlying200 Tryz.underlying184 c_u64 c_pow h.tail.tail
  · exact cell_of_shapedOpen_int (t := 3) (k := .i64) (zero := #[.int .i64 0]) hs (of_decide_eq_true (by kernel_rfl)) (by kernel_rfl) (by kernel_rfl) (by kernel_rfl) (by kernel_rfl) Tryz.underlying3
  · obtain ⟨a0, s0, hv0, _⟩ := laid_sentinel h.tail.tail.tail.tail.tail g_syn gt_syn Tryz.underlying165 es_row Tryz.underlying232 Tryz.underlying234 rfl rfl Tryz.underlying9 c_es c_str
    exact ⟨_, _, by simpa using World.var?_cell g_syn hv0 0⟩
  · obtain ⟨a0, s0, hv0, _⟩ := laid_sentinel h.tail.tail.tail.tail g_rng gt_rng Tryz.underlying165 es_row Tryz.underlying232 Tryz.underlying234 rfl rfl Tryz.underlying9 c_es c_str
    exact ⟨_, _, by simpa using World.var?_cell g_rng hv0 0⟩

/-- A start for the witness: the door's heap, and utf8.first as Go's library lays it. -/
noncomputable def laidWorld (os : Os) : World :=
  { World.doorLaid Tryz.prog 72 os with heap := (World.doorLaid Tryz.prog 72 os).heap.modify 6 fun
      | .cells _ t frozen => .cells (Lib.firstTab.map fun z => Value.int .u8 z).toArray t frozen
      | o => o }
theorem laid_met (os : Os) (args : Array Value) : laidMetH Tryz.prog Rows.waxKnownRow.laid ((laidWorld os).forCall (fun _ _ => 0) ⟨#[], args, []⟩).memory := by
  rw [MakeChecks.laidMetH_plain _ _ _ (by kernel_rfl)]
  exact laidMet_of_run' 8 (by kernel_rfl) (by kernel_rfl)
end Go.Proofs.YtnpajncolkafgaaGreatDoor
