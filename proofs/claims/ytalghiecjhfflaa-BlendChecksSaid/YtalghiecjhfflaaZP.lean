/- The blend's laws: pairs of numbers that come in. -/
import Derived.Test.YtalghiecjhfflaaZI
namespace Go.Proofs.Ytalghiecjhfflaa
open Go.ChangeShapes Go.WideShapes Go.ChangeAt Go.RowKit Go.Deep Go.Joins


theorem okWide_array {P : Program} {w : World} {r : Reach} {base : Nat} {t : TypeId} {v : Value} {n : Nat} {e : TypeId} (ht : P.underlying t = some (.array n e)) (h : Value.okWide P w r base t v) : ∃ cs, v = .agg cs ∧ cs.size = P.cellsOf t := by
  simp only [Value.okWide, ht] at h
  obtain ⟨cs, h1, h2, _⟩ := h
  exact ⟨cs, h1, h2⟩
theorem arr2 {α : Type} {cs : Array α} (h : cs.size = 2) : ∃ c0 c1, cs = #[c0, c1] := by
  obtain ⟨l⟩ := cs
  match l, h with
  | [c0, c1], _ => exact ⟨c0, c1, rfl⟩
theorem c_two : Try.prog.cellsOf 23 = 2 := by kernel_rfl
section
variable {H : Type} {enc : TypeId × Value → H} {W : World}
set_option maxRecDepth 100000 in
theorem open_two {v : Value} {d : DataW H} {p : List MemPlace} {b0 : Nat} (hv : Value.okWide Try.prog W .any b0 23 v) (h : DataW.Trod enc Try.prog W 0 (fun _ => true) true 23 v d p) :
    ∃ y0 y1 : Int, v = .agg #[.int .i64 y0, .int .i64 y1] := by
  have ht := Try.underlying23
  obtain ⟨cs, rfl, hsz⟩ := okWide_array ht hv
  obtain ⟨e0, e1, rfl⟩ := arr2 (hsz.trans c_two)
  obtain ⟨fuel, hf⟩ := h
  obtain ⟨xs, n, _, _, _, hlen, hfld⟩ := DataW.trod_array Try.underlying23 hf
  match xs, hlen with
  | [x0, x1], _ =>
    obtain ⟨z0, rfl⟩ := field_int (show DataW.trod enc Try.prog W 0 (fun _ => true) true n 3 [e0] = some x0 by have h := hfld 0 (by omega); simpa [c_int, Value.cells] using h)
    obtain ⟨z1, rfl⟩ := field_int (show DataW.trod enc Try.prog W 0 (fun _ => true) true n 3 [e1] = some x1 by have h := hfld 1 (by omega); simpa [c_int, Value.cells] using h)
    exact ⟨z0, z1, rfl⟩
end
end Go.Proofs.Ytalghiecjhfflaa
