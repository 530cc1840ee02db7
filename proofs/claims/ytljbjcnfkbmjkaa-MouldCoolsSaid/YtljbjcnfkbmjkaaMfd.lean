/- The mould's laws: a truth that comes in. -/
import Derived.Test.YtljbjcnfkbmjkaaMf0
namespace Go.Proofs.Ytljbjcnfkbmjkaa
open Go.ChangeShapes Go.WideShapes Go.ChangeAt Go.RowKit Go.Deep Go.Joins

section
variable {H : Type} {enc : TypeId × Value → H} {W : World}
theorem c_tr : Try.prog.cellsOf 28 = 2 := by kernel_rfl
theorem array2 {α : Type} {cs : Array α} (h : cs.size = 2) : ∃ c0 c1, cs = #[c0, c1] := by
  obtain ⟨l⟩ := cs
  match l, h with
  | [c0, c1], _ => exact ⟨c0, c1, rfl⟩
set_option maxRecDepth 100000 in
/-- A truth that came in. -/
theorem open_tr {v : Value} {d : DataW H} {p : List MemPlace} {b0 : Nat} (hv : Value.okWide Try.prog W .any b0 28 v) (h : DataW.Trod enc Try.prog W 0 (fun _ => true) true 28 v d p) :
    ∃ A1 ps c1 A2 ws c2, v = .agg #[.slice A1 (ps : List Int).length c1, .slice A2 (ws : List Int).length c2] ∧ IntsIn W A1 ps ∧ IntsIn W A2 ws := by
  have ht := Try.underlying28
  obtain ⟨cs, rfl, hsz⟩ := okWide_struct ht hv
  obtain ⟨e0, e1, rfl⟩ := array2 (hsz.trans c_tr)
  obtain ⟨fuel, hf⟩ := h
  obtain ⟨y0, y1, n, _, _, h0, h1⟩ := trod_struct2 ht (show DataW.trod enc Try.prog W 0 (fun _ => true) true fuel 28 [e0, e1] = some (d, p) by simpa [Value.cells] using hf)
  obtain ⟨A1, ps, c1, rfl, r1, _, m1, _⟩ := open_rows (α := Int) (en := encI) Try.underlying26 c_int (by omega) (show DataW.trod enc Try.prog W 0 (fun _ => true) true n 26 [e0] = some y0 from h0) el_int
  obtain ⟨A2, ws, c2, rfl, r2, _, m2, _⟩ := open_rows (α := Int) (en := encI) Try.underlying26 c_int (by omega) (show DataW.trod enc Try.prog W 0 (fun _ => true) true n 26 [e1] = some y1 from h1) el_int
  exact ⟨A1, ps, c1, A2, ws, c2, rfl, ⟨r1, by unfold maxLen at m1; omega⟩, ⟨r2, by unfold maxLen at m2; omega⟩⟩
end
end Go.Proofs.Ytljbjcnfkbmjkaa
