/- The wick's laws: numbers by turns that come in. -/
import Derived.Test.YtkjfommdeljefaaS4
namespace Go.Proofs.Ytkjfommdeljefaa
open Go.ChangeShapes Go.WideShapes Go.ChangeAt Go.RowKit Go.Deep Go.Joins

theorem arrn11 {α : Type} {cs : Array α} (h : cs.size = 11) : ∃ c0 c1 c2 c3 c4 c5 c6 c7 c8 c9 c10, cs = #[c0, c1, c2, c3, c4, c5, c6, c7, c8, c9, c10] := by
  obtain ⟨l⟩ := cs
  match l, h with
  | [c0, c1, c2, c3, c4, c5, c6, c7, c8, c9, c10], _ => exact ⟨c0, c1, c2, c3, c4, c5, c6, c7, c8, c9, c10, rfl⟩
theorem c_u8 : Try.prog.cellsOf 5 = 1 := by kernel_rfl
theorem c_six : Try.prog.cellsOf 62 = 6 := by kernel_rfl
theorem c_four : Try.prog.cellsOf 63 = 4 := by kernel_rfl
theorem c_burnt : Try.prog.cellsOf 65 = 11 := by kernel_rfl
section
variable {H : Type} {enc : TypeId × Value → H} {W : World}
theorem cell_u8 {n : Nat} {c : Value} {y : DataW H × List MemPlace} (h : DataW.trod enc Try.prog W 0 (fun _ => true) true n 5 [c] = some y) : ∃ z : Int, c = .int .u8 z ∧ 0 ≤ z ∧ z ≤ 255 := by
  obtain ⟨z, e, _, hw⟩ := DataW.trod_int Try.underlying5 h
  simp only [List.cons.injEq, and_true] at e
  exact ⟨z, e, bounds_u8 hw⟩
set_option maxRecDepth 100000 in
theorem six_at {n : Nat} {c0 c1 c2 c3 c4 c5 : Value} {y : DataW H × List MemPlace} (h : DataW.trod enc Try.prog W 0 (fun _ => true) true n 62 [c0, c1, c2, c3, c4, c5] = some y) : ∃ z0 z1 z2 z3 z4 z5 : Int, c0 = .int .u16 z0 ∧ c1 = .int .u16 z1 ∧ c2 = .int .u16 z2 ∧ c3 = .int .u16 z3 ∧ c4 = .int .u16 z4 ∧ c5 = .int .u16 z5 ∧ (0 ≤ z0 ∧ z0 ≤ 65535) ∧ (0 ≤ z1 ∧ z1 ≤ 65535) ∧ (0 ≤ z2 ∧ z2 ≤ 65535) ∧ (0 ≤ z3 ∧ z3 ≤ 65535) ∧ (0 ≤ z4 ∧ z4 ≤ 65535) ∧ (0 ≤ z5 ∧ z5 ≤ 65535) := by
  obtain ⟨xs, m, _, _, _, hlen, hfld⟩ := DataW.trod_array Try.underlying62 h
  match xs, hlen with
  | [x0, x1, x2, x3, x4, x5], _ =>
    obtain ⟨z0, rfl, r0⟩ := cell_u16 (show DataW.trod enc Try.prog W 0 (fun _ => true) true m 61 [c0] = some x0 by have h := hfld 0 (by omega); simpa [c_u16, Value.cells] using h)
    obtain ⟨z1, rfl, r1⟩ := cell_u16 (show DataW.trod enc Try.prog W 0 (fun _ => true) true m 61 [c1] = some x1 by have h := hfld 1 (by omega); simpa [c_u16, Value.cells] using h)
    obtain ⟨z2, rfl, r2⟩ := cell_u16 (show DataW.trod enc Try.prog W 0 (fun _ => true) true m 61 [c2] = some x2 by have h := hfld 2 (by omega); simpa [c_u16, Value.cells] using h)
    obtain ⟨z3, rfl, r3⟩ := cell_u16 (show DataW.trod enc Try.prog W 0 (fun _ => true) true m 61 [c3] = some x3 by have h := hfld 3 (by omega); simpa [c_u16, Value.cells] using h)
    obtain ⟨z4, rfl, r4⟩ := cell_u16 (show DataW.trod enc Try.prog W 0 (fun _ => true) true m 61 [c4] = some x4 by have h := hfld 4 (by omega); simpa [c_u16, Value.cells] using h)
    obtain ⟨z5, rfl, r5⟩ := cell_u16 (show DataW.trod enc Try.prog W 0 (fun _ => true) true m 61 [c5] = some x5 by have h := hfld 5 (by omega); simpa [c_u16, Value.cells] using h)
    exact ⟨z0, z1, z2, z3, z4, z5, rfl, rfl, rfl, rfl, rfl, rfl, r0, r1, r2, r3, r4, r5⟩
set_option maxRecDepth 100000 in
theorem four_at {n : Nat} {c0 c1 c2 c3 : Value} {y : DataW H × List MemPlace} (h : DataW.trod enc Try.prog W 0 (fun _ => true) true n 63 [c0, c1, c2, c3] = some y) : ∃ z0 z1 z2 z3 : Int, c0 = .int .u16 z0 ∧ c1 = .int .u16 z1 ∧ c2 = .int .u16 z2 ∧ c3 = .int .u16 z3 ∧ (0 ≤ z0 ∧ z0 ≤ 65535) ∧ (0 ≤ z1 ∧ z1 ≤ 65535) ∧ (0 ≤ z2 ∧ z2 ≤ 65535) ∧ (0 ≤ z3 ∧ z3 ≤ 65535) := by
  obtain ⟨xs, m, _, _, _, hlen, hfld⟩ := DataW.trod_array Try.underlying63 h
  match xs, hlen with
  | [x0, x1, x2, x3], _ =>
    obtain ⟨z0, rfl, r0⟩ := cell_u16 (show DataW.trod enc Try.prog W 0 (fun _ => true) true m 61 [c0] = some x0 by have h := hfld 0 (by omega); simpa [c_u16, Value.cells] using h)
    obtain ⟨z1, rfl, r1⟩ := cell_u16 (show DataW.trod enc Try.prog W 0 (fun _ => true) true m 61 [c1] = some x1 by have h := hfld 1 (by omega); simpa [c_u16, Value.cells] using h)
    obtain ⟨z2, rfl, r2⟩ := cell_u16 (show DataW.trod enc Try.prog W 0 (fun _ => true) true m 61 [c2] = some x2 by have h := hfld 2 (by omega); simpa [c_u16, Value.cells] using h)
    obtain ⟨z3, rfl, r3⟩ := cell_u16 (show DataW.trod enc Try.prog W 0 (fun _ => true) true m 61 [c3] = some x3 by have h := hfld 3 (by omega); simpa [c_u16, Value.cells] using h)
    exact ⟨z0, z1, z2, z3, rfl, rfl, rfl, rfl, r0, r1, r2, r3⟩

set_option maxRecDepth 100000 in
theorem open_burnt {v : Value} {d : DataW H} {p : List MemPlace} {b0 : Nat} (hv : Value.okWide Try.prog W .any b0 65 v) (h : DataW.Trod enc Try.prog W 0 (fun _ => true) true 65 v d p) :
    ∃ yk y0 y1 y2 y3 y4 y5 n0 n1 n2 n3 : Int, v = .agg #[.int .u8 yk, .int .u16 y0, .int .u16 y1, .int .u16 y2, .int .u16 y3, .int .u16 y4, .int .u16 y5, .int .u16 n0, .int .u16 n1, .int .u16 n2, .int .u16 n3] ∧ (0 ≤ yk ∧ yk ≤ 255) ∧ ((0 ≤ y0 ∧ y0 ≤ 65535) ∧ (0 ≤ y1 ∧ y1 ≤ 65535) ∧ (0 ≤ y2 ∧ y2 ≤ 65535) ∧ (0 ≤ y3 ∧ y3 ≤ 65535) ∧ (0 ≤ y4 ∧ y4 ≤ 65535) ∧ (0 ≤ y5 ∧ y5 ≤ 65535)) ∧ ((0 ≤ n0 ∧ n0 ≤ 65535) ∧ (0 ≤ n1 ∧ n1 ≤ 65535) ∧ (0 ≤ n2 ∧ n2 ≤ 65535) ∧ (0 ≤ n3 ∧ n3 ≤ 65535)) := by
  have ht := Try.underlying65
  obtain ⟨cs, rfl, hsz⟩ := okWide_struct ht hv
  obtain ⟨c0, c1, c2, c3, c4, c5, c6, c7, c8, c9, c10, rfl⟩ := arrn11 (hsz.trans c_burnt)
  obtain ⟨fuel, hf⟩ := h
  obtain ⟨xs, n, _, _, _, hlen, hfld⟩ := DataW.trod_struct ht hf
  match xs, hlen with
  | [x0, x1, x2], _ =>
    obtain ⟨yk, rfl, r⟩ := cell_u8 (show DataW.trod enc Try.prog W 0 (fun _ => true) true n 5 [c0] = some x0 by have h := hfld 0 _ rfl; simpa [c_u8, Value.cells] using h)
    obtain ⟨y0, y1, y2, y3, y4, y5, rfl, rfl, rfl, rfl, rfl, rfl, a0, a1, a2, a3, a4, a5⟩ := six_at (show DataW.trod enc Try.prog W 0 (fun _ => true) true n 62 [c1, c2, c3, c4, c5, c6] = some x1 by have h := hfld 1 _ rfl; simpa [c_six, Value.cells] using h)
    obtain ⟨n0, n1, n2, n3, rfl, rfl, rfl, rfl, b0, b1, b2, b3⟩ := four_at (show DataW.trod enc Try.prog W 0 (fun _ => true) true n 63 [c7, c8, c9, c10] = some x2 by have h := hfld 2 _ rfl; simpa [c_four, Value.cells] using h)
    exact ⟨yk, y0, y1, y2, y3, y4, y5, n0, n1, n2, n3, rfl, r, ⟨a0, a1, a2, a3, a4, a5⟩, ⟨b0, b1, b2, b3⟩⟩
set_option maxRecDepth 100000 in
theorem open_u8 {v : Value} {d : DataW H} {p : List MemPlace} {b0 : Nat} (hv : Value.okWide Try.prog W .any b0 5 v) (h : DataW.Trod enc Try.prog W 0 (fun _ => true) true 5 v d p) :
    ∃ z : Int, v = .int .u8 z ∧ 0 ≤ z ∧ z ≤ 255 := by
  obtain ⟨z, e, _, _, hw⟩ := open_int Try.underlying5 hv h
  exact ⟨z, e, bounds_u8 hw⟩
end
end Go.Proofs.Ytkjfommdeljefaa
