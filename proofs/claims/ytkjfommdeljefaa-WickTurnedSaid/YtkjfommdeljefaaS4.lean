/- The wick's laws: small numbers in arrays that come in. -/
import Derived.Test.YtkjfommdeljefaaQY
namespace Go.Proofs.Ytkjfommdeljefaa
open Go.ChangeShapes Go.WideShapes Go.ChangeAt Go.RowKit Go.Deep Go.Joins

theorem okWide_array {P : Program} {w : World} {r : Reach} {base : Nat} {t : TypeId} {v : Value} {n : Nat} {e : TypeId} (ht : P.underlying t = some (.array n e)) (h : Value.okWide P w r base t v) : ∃ cs, v = .agg cs ∧ cs.size = P.cellsOf t := by
  simp only [Value.okWide, ht] at h
  obtain ⟨cs, h1, h2, _⟩ := h
  exact ⟨cs, h1, h2⟩
theorem arr2 {α : Type} {cs : Array α} (h : cs.size = 2) : ∃ c0 c1, cs = #[c0, c1] := by
  obtain ⟨l⟩ := cs
  match l, h with
  | [c0, c1], _ => exact ⟨c0, c1, rfl⟩
theorem c_u16 : Try.prog.cellsOf 61 = 1 := by kernel_rfl
theorem c_two : Try.prog.cellsOf 76 = 2 := by kernel_rfl
section
variable {H : Type} {enc : TypeId × Value → H} {W : World}
theorem cell_u16 {n : Nat} {c : Value} {y : DataW H × List MemPlace} (h : DataW.trod enc Try.prog W 0 (fun _ => true) true n 61 [c] = some y) : ∃ z : Int, c = .int .u16 z ∧ 0 ≤ z ∧ z ≤ 65535 := by
  obtain ⟨z, e, _, hw⟩ := DataW.trod_int Try.underlying61 h
  simp only [List.cons.injEq, and_true] at e
  exact ⟨z, e, bounds_u16 hw⟩
set_option maxRecDepth 100000 in
theorem open_two16 {v : Value} {d : DataW H} {p : List MemPlace} {b0 : Nat} (hv : Value.okWide Try.prog W .any b0 76 v) (h : DataW.Trod enc Try.prog W 0 (fun _ => true) true 76 v d p) :
    ∃ y0 y1 : Int, v = .agg #[.int .u16 y0, .int .u16 y1] ∧ (0 ≤ y0 ∧ y0 ≤ 65535) ∧ (0 ≤ y1 ∧ y1 ≤ 65535) := by
  have ht := Try.underlying76
  obtain ⟨cs, rfl, hsz⟩ := okWide_array ht hv
  obtain ⟨e0, e1, rfl⟩ := arr2 (hsz.trans c_two)
  obtain ⟨fuel, hf⟩ := h
  obtain ⟨xs, n, _, _, _, hlen, hfld⟩ := DataW.trod_array ht hf
  match xs, hlen with
  | [x0, x1], _ =>
    obtain ⟨z0, rfl, r0⟩ := cell_u16 (show DataW.trod enc Try.prog W 0 (fun _ => true) true n 61 [e0] = some x0 by have h := hfld 0 (by omega); simpa [c_u16, Value.cells] using h)
    obtain ⟨z1, rfl, r1⟩ := cell_u16 (show DataW.trod enc Try.prog W 0 (fun _ => true) true n 61 [e1] = some x1 by have h := hfld 1 (by omega); simpa [c_u16, Value.cells] using h)
    exact ⟨z0, z1, rfl, r0, r1⟩
end
end Go.Proofs.Ytkjfommdeljefaa
