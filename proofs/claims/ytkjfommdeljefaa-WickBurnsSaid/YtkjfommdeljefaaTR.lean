/- The wick's laws: a question of a wick, a candle, a truth and grams that comes in. -/
import Derived.Test.YtkjfommdeljefaaT8
namespace Go.Proofs.Ytkjfommdeljefaa
open Go.ChangeShapes Go.WideShapes Go.ChangeAt Go.RowKit Go.Deep Go.Joins

theorem arrn13 {α : Type} {cs : Array α} (h : cs.size = 13) : ∃ c0 c1 c2 c3 c4 c5 c6 c7 c8 c9 c10 c11 c12, cs = #[c0, c1, c2, c3, c4, c5, c6, c7, c8, c9, c10, c11, c12] := by
  obtain ⟨l⟩ := cs
  match l, h with
  | [c0, c1, c2, c3, c4, c5, c6, c7, c8, c9, c10, c11, c12], _ => exact ⟨c0, c1, c2, c3, c4, c5, c6, c7, c8, c9, c10, c11, c12, rfl⟩
theorem c_tu : Try.prog.cellsOf 36 = 6 := by kernel_rfl
theorem c_lit : Try.prog.cellsOf 38 = 13 := by kernel_rfl
section
variable {H : Type} {enc : TypeId × Value → H} {W : World}
theorem tu_at {n : Nat} {c0 c1 c2 c3 c4 c5 : Value} {y : DataW H × List MemPlace} (h : DataW.trod enc Try.prog W 0 (fun _ => true) true n 36 [c0, c1, c2, c3, c4, c5] = some y) : ∃ t : Tu, c0 = .int .i64 t.pull ∧ c1 = .int .i64 t.flow ∧ c2 = .int .i64 t.rise ∧ c3 = .int .i64 t.spr ∧ c4 = .int .i64 t.dra ∧ c5 = .int .i64 t.cold := by
  obtain ⟨xs, m, _, _, _, hlen, hfld⟩ := DataW.trod_struct Try.underlying36 h
  match xs, hlen with
  | [y0, y1, y2, y3, y4, y5], _ =>
    obtain ⟨z0, rfl⟩ := field_int (show DataW.trod enc Try.prog W 0 (fun _ => true) true m 3 [c0] = some y0 by have h := hfld 0 _ rfl; simpa [c_int, Value.cells] using h)
    obtain ⟨z1, rfl⟩ := field_int (show DataW.trod enc Try.prog W 0 (fun _ => true) true m 3 [c1] = some y1 by have h := hfld 1 _ rfl; simpa [c_int, Value.cells] using h)
    obtain ⟨z2, rfl⟩ := field_int (show DataW.trod enc Try.prog W 0 (fun _ => true) true m 3 [c2] = some y2 by have h := hfld 2 _ rfl; simpa [c_int, Value.cells] using h)
    obtain ⟨z3, rfl⟩ := field_int (show DataW.trod enc Try.prog W 0 (fun _ => true) true m 3 [c3] = some y3 by have h := hfld 3 _ rfl; simpa [c_int, Value.cells] using h)
    obtain ⟨z4, rfl⟩ := field_int (show DataW.trod enc Try.prog W 0 (fun _ => true) true m 3 [c4] = some y4 by have h := hfld 4 _ rfl; simpa [c_int, Value.cells] using h)
    obtain ⟨z5, rfl⟩ := field_int (show DataW.trod enc Try.prog W 0 (fun _ => true) true m 3 [c5] = some y5 by have h := hfld 5 _ rfl; simpa [c_int, Value.cells] using h)
    exact ⟨⟨z0, z1, z2, z3, z4, z5⟩, rfl, rfl, rfl, rfl, rfl, rfl⟩
set_option maxRecDepth 100000 in
theorem open_lit {v : Value} {d : DataW H} {p : List MemPlace} {b0 : Nat} (hv : Value.okWide Try.prog W .any b0 38 v) (h : DataW.Trod enc Try.prog W 0 (fun _ => true) true 38 v d p) :
    ∃ (q g : Int) (c : Cd) (t : Tu), v = .agg #[.int .i64 q, .int .i64 c.wax, .int .i64 c.dia, .int .i64 c.dra, .int .i64 c.clo, .int .i64 c.chi, .int .i64 t.pull, .int .i64 t.flow, .int .i64 t.rise, .int .i64 t.spr, .int .i64 t.dra, .int .i64 t.cold, .int .i64 g] := by
  have ht := Try.underlying38
  obtain ⟨cs, rfl, hsz⟩ := okWide_struct ht hv
  obtain ⟨c0, c1, c2, c3, c4, c5, c6, c7, c8, c9, c10, c11, c12, rfl⟩ := arrn13 (hsz.trans c_lit)
  obtain ⟨fuel, hf⟩ := h
  obtain ⟨xs, n, _, _, _, hlen, hfld⟩ := DataW.trod_struct ht hf
  match xs, hlen with
  | [x0, x1, x2, x3], _ =>
    obtain ⟨q, rfl⟩ := field_int (show DataW.trod enc Try.prog W 0 (fun _ => true) true n 3 [c0] = some x0 by have h := hfld 0 _ rfl; simpa [c_int, Value.cells] using h)
    obtain ⟨c, rfl, rfl, rfl, rfl, rfl⟩ := cd_at (show DataW.trod enc Try.prog W 0 (fun _ => true) true n 34 [c1, c2, c3, c4, c5] = some x1 by have h := hfld 1 _ rfl; simpa [c_cd, Value.cells] using h)
    obtain ⟨t, rfl, rfl, rfl, rfl, rfl, rfl⟩ := tu_at (show DataW.trod enc Try.prog W 0 (fun _ => true) true n 36 [c6, c7, c8, c9, c10, c11] = some x2 by have h := hfld 2 _ rfl; simpa [c_tu, Value.cells] using h)
    obtain ⟨g, rfl⟩ := field_int (show DataW.trod enc Try.prog W 0 (fun _ => true) true n 3 [c12] = some x3 by have h := hfld 3 _ rfl; simpa [c_int, Value.cells] using h)
    exact ⟨q, g, c, t, rfl⟩
end
end Go.Proofs.Ytkjfommdeljefaa
