/- The mould's laws: turns, and small numbers in arrays, that come in. -/
import Derived.Test.YtljbjcnfkbmjkaaMf0
import Derived.Test.YtljbjcnfkbmjkaaGi
namespace Go.Proofs.Ytljbjcnfkbmjkaa
open Go.ChangeShapes Go.WideShapes Go.ChangeAt Go.RowKit Go.Deep Go.Joins

theorem okWide_array {P : Program} {w : World} {r : Reach} {base : Nat} {t : TypeId} {v : Value} {n : Nat} {e : TypeId} (ht : P.underlying t = some (.array n e)) (h : Value.okWide P w r base t v) : ∃ cs, v = .agg cs ∧ cs.size = P.cellsOf t := by
  simp only [Value.okWide, ht] at h
  obtain ⟨cs, h1, h2, _⟩ := h
  exact ⟨cs, h1, h2⟩
theorem arr2 {α : Type} {cs : Array α} (h : cs.size = 2) : ∃ c0 c1, cs = #[c0, c1] := by
  obtain ⟨l⟩ := cs
  match l, h with
  | [c0, c1], _ => exact ⟨c0, c1, rfl⟩
theorem arr3 {α : Type} {cs : Array α} (h : cs.size = 3) : ∃ c0 c1 c2, cs = #[c0, c1, c2] := by
  obtain ⟨l⟩ := cs
  match l, h with
  | [c0, c1, c2], _ => exact ⟨c0, c1, c2, rfl⟩
theorem arr4 {α : Type} {cs : Array α} (h : cs.size = 4) : ∃ c0 c1 c2 c3, cs = #[c0, c1, c2, c3] := by
  obtain ⟨l⟩ := cs
  match l, h with
  | [c0, c1, c2, c3], _ => exact ⟨c0, c1, c2, c3, rfl⟩
theorem arr5 {α : Type} {cs : Array α} (h : cs.size = 5) : ∃ c0 c1 c2 c3 c4, cs = #[c0, c1, c2, c3, c4] := by
  obtain ⟨l⟩ := cs
  match l, h with
  | [c0, c1, c2, c3, c4], _ => exact ⟨c0, c1, c2, c3, c4, rfl⟩
section
variable {H : Type} {enc : TypeId × Value → H} {W : World}
theorem el_u16 (n : Nat) (cs : List Value) (y : DataW H × List MemPlace) (_ : cs.length = 1) (h : DataW.trod enc Try.prog W 0 (fun _ => true) true n 55 cs = some y) : ∃ z : Int, (∀ j, j < 1 → cs[j]? = some (encU z j)) ∧ (0 ≤ z ∧ z ≤ 65535) := by
  obtain ⟨z, rfl, _, hw⟩ := DataW.trod_int Try.underlying55 h
  exact ⟨z, fun j hj => by obtain rfl : j = 0 := by omega
                           rfl, bounds_u16 hw⟩
theorem c_u16 : Try.prog.cellsOf 55 = 1 := by kernel_rfl
theorem c_turns : Try.prog.cellsOf 58 = 2 := by kernel_rfl
theorem c_turns2 : Try.prog.cellsOf 73 = 4 := by kernel_rfl
theorem c_three : Try.prog.cellsOf 77 = 3 := by kernel_rfl
theorem c_five : Try.prog.cellsOf 79 = 5 := by kernel_rfl
set_option maxRecDepth 100000 in
theorem turns_at {n : Nat} {c d : Value} {y : DataW H × List MemPlace} (h : DataW.trod enc Try.prog W 0 (fun _ => true) true n 58 [c, d] = some y) :
    ∃ A1 ps c1 A2 ws c2, c = .slice A1 (ps : List Int).length c1 ∧ d = .slice A2 (ws : List Int).length c2 ∧ U16In W A1 ps ∧ U16In W A2 ws := by
  obtain ⟨y0, y1, k, _, _, h0, h1⟩ := trod_struct2 Try.underlying58 h
  obtain ⟨A1, ps, c1, e1, r1, _, m1, q1⟩ := open_rows (α := Int) (en := encU) Try.underlying56 c_u16 (by omega) (show DataW.trod enc Try.prog W 0 (fun _ => true) true k 56 [c] = some y0 from h0) el_u16
  obtain ⟨A2, ws, c2, e2, r2, _, m2, q2⟩ := open_rows (α := Int) (en := encU) Try.underlying56 c_u16 (by omega) (show DataW.trod enc Try.prog W 0 (fun _ => true) true k 56 [d] = some y1 from h1) el_u16
  exact ⟨A1, ps, c1, A2, ws, c2, e1, e2, ⟨r1, by unfold maxLen at m1; omega, q1⟩, ⟨r2, by unfold maxLen at m2; omega, q2⟩⟩
set_option maxRecDepth 100000 in
/-- Turns that came in. -/
theorem open_turns {v : Value} {d : DataW H} {p : List MemPlace} {b0 : Nat} (hv : Value.okWide Try.prog W .any b0 58 v) (h : DataW.Trod enc Try.prog W 0 (fun _ => true) true 58 v d p) :
    ∃ A1 ps c1 A2 ws c2, v = .agg #[.slice A1 (ps : List Int).length c1, .slice A2 (ws : List Int).length c2] ∧ U16In W A1 ps ∧ U16In W A2 ws := by
  obtain ⟨cs, rfl, hsz⟩ := okWide_struct Try.underlying58 hv
  obtain ⟨e0, e1, rfl⟩ := arr2 (hsz.trans c_turns)
  obtain ⟨fuel, hf⟩ := h
  obtain ⟨A1, ps, c1, A2, ws, c2, rfl, rfl, i1, i2⟩ := turns_at (show DataW.trod enc Try.prog W 0 (fun _ => true) true fuel 58 [e0, e1] = some (d, p) by simpa [Value.cells] using hf)
  exact ⟨A1, ps, c1, A2, ws, c2, rfl, i1, i2⟩
set_option maxRecDepth 100000 in
theorem open_turns2 {v : Value} {d : DataW H} {p : List MemPlace} {b0 : Nat} (hv : Value.okWide Try.prog W .any b0 73 v) (h : DataW.Trod enc Try.prog W 0 (fun _ => true) true 73 v d p) :
    ∃ A1 ps c1 A2 ws c2 A3 ps2 c3 A4 ws2 c4, v = .agg #[.slice A1 (ps : List Int).length c1, .slice A2 (ws : List Int).length c2, .slice A3 (ps2 : List Int).length c3, .slice A4 (ws2 : List Int).length c4] ∧ U16In W A1 ps ∧ U16In W A2 ws ∧ U16In W A3 ps2 ∧ U16In W A4 ws2 := by
  have ht := Try.underlying73
  obtain ⟨cs, rfl, hsz⟩ := okWide_array ht hv
  obtain ⟨e0, e1, e2, e3, rfl⟩ := arr4 (hsz.trans c_turns2)
  obtain ⟨fuel, hf⟩ := h
  obtain ⟨xs, n, _, _, _, hlen, hfld⟩ := DataW.trod_array ht hf
  match xs, hlen with
  | [y0, y1], _ =>
    obtain ⟨A1, ps, c1, A2, ws, c2, rfl, rfl, i1, i2⟩ := turns_at (show DataW.trod enc Try.prog W 0 (fun _ => true) true n 58 [e0, e1] = some y0 by have h := hfld 0 (by omega); simpa [c_turns, Value.cells] using h)
    obtain ⟨A3, ps2, c3, A4, ws2, c4, rfl, rfl, i3, i4⟩ := turns_at (show DataW.trod enc Try.prog W 0 (fun _ => true) true n 58 [e2, e3] = some y1 by have h := hfld 1 (by omega); simpa [c_turns, Value.cells] using h)
    exact ⟨A1, ps, c1, A2, ws, c2, A3, ps2, c3, A4, ws2, c4, rfl, i1, i2, i3, i4⟩
theorem cell_u16 {n : Nat} {c : Value} {y : DataW H × List MemPlace} (h : DataW.trod enc Try.prog W 0 (fun _ => true) true n 55 [c] = some y) : ∃ z : Int, c = .int .u16 z ∧ 0 ≤ z ∧ z ≤ 65535 := by
  obtain ⟨z, hz, hr⟩ := el_u16 n [c] y rfl h
  have := hz 0 (by omega)
  simp only [List.getElem?_cons_zero, Option.some.injEq] at this
  exact ⟨z, this, hr⟩
set_option maxRecDepth 100000 in
theorem open_three16 {v : Value} {d : DataW H} {p : List MemPlace} {b0 : Nat} (hv : Value.okWide Try.prog W .any b0 77 v) (h : DataW.Trod enc Try.prog W 0 (fun _ => true) true 77 v d p) :
    ∃ y0 y1 y2 : Int, v = .agg #[.int .u16 y0, .int .u16 y1, .int .u16 y2] ∧ (0 ≤ y0 ∧ y0 ≤ 65535) ∧ (0 ≤ y1 ∧ y1 ≤ 65535) ∧ (0 ≤ y2 ∧ y2 ≤ 65535) := by
  have ht := Try.underlying77
  obtain ⟨cs, rfl, hsz⟩ := okWide_array ht hv
  obtain ⟨e0, e1, e2, rfl⟩ := arr3 (hsz.trans c_three)
  obtain ⟨fuel, hf⟩ := h
  obtain ⟨xs, n, _, _, _, hlen, hfld⟩ := DataW.trod_array ht hf
  match xs, hlen with
  | [x0, x1, x2], _ =>
    obtain ⟨z0, rfl, r0⟩ := cell_u16 (show DataW.trod enc Try.prog W 0 (fun _ => true) true n 55 [e0] = some x0 by have h := hfld 0 (by omega); simpa [c_u16, Value.cells] using h)
    obtain ⟨z1, rfl, r1⟩ := cell_u16 (show DataW.trod enc Try.prog W 0 (fun _ => true) true n 55 [e1] = some x1 by have h := hfld 1 (by omega); simpa [c_u16, Value.cells] using h)
    obtain ⟨z2, rfl, r2⟩ := cell_u16 (show DataW.trod enc Try.prog W 0 (fun _ => true) true n 55 [e2] = some x2 by have h := hfld 2 (by omega); simpa [c_u16, Value.cells] using h)
    exact ⟨z0, z1, z2, rfl, r0, r1, r2⟩
set_option maxRecDepth 100000 in
theorem open_five16 {v : Value} {d : DataW H} {p : List MemPlace} {b0 : Nat} (hv : Value.okWide Try.prog W .any b0 79 v) (h : DataW.Trod enc Try.prog W 0 (fun _ => true) true 79 v d p) :
    ∃ y0 y1 y2 y3 y4 : Int, v = .agg #[.int .u16 y0, .int .u16 y1, .int .u16 y2, .int .u16 y3, .int .u16 y4] ∧ (0 ≤ y0 ∧ y0 ≤ 65535) ∧ (0 ≤ y1 ∧ y1 ≤ 65535) ∧ (0 ≤ y2 ∧ y2 ≤ 65535) ∧ (0 ≤ y3 ∧ y3 ≤ 65535) ∧ (0 ≤ y4 ∧ y4 ≤ 65535) := by
  have ht := Try.underlying79
  obtain ⟨cs, rfl, hsz⟩ := okWide_array ht hv
  obtain ⟨e0, e1, e2, e3, e4, rfl⟩ := arr5 (hsz.trans c_five)
  obtain ⟨fuel, hf⟩ := h
  obtain ⟨xs, n, _, _, _, hlen, hfld⟩ := DataW.trod_array ht hf
  match xs, hlen with
  | [x0, x1, x2, x3, x4], _ =>
    obtain ⟨z0, rfl, r0⟩ := cell_u16 (show DataW.trod enc Try.prog W 0 (fun _ => true) true n 55 [e0] = some x0 by have h := hfld 0 (by omega); simpa [c_u16, Value.cells] using h)
    obtain ⟨z1, rfl, r1⟩ := cell_u16 (show DataW.trod enc Try.prog W 0 (fun _ => true) true n 55 [e1] = some x1 by have h := hfld 1 (by omega); simpa [c_u16, Value.cells] using h)
    obtain ⟨z2, rfl, r2⟩ := cell_u16 (show DataW.trod enc Try.prog W 0 (fun _ => true) true n 55 [e2] = some x2 by have h := hfld 2 (by omega); simpa [c_u16, Value.cells] using h)
    obtain ⟨z3, rfl, r3⟩ := cell_u16 (show DataW.trod enc Try.prog W 0 (fun _ => true) true n 55 [e3] = some x3 by have h := hfld 3 (by omega); simpa [c_u16, Value.cells] using h)
    obtain ⟨z4, rfl, r4⟩ := cell_u16 (show DataW.trod enc Try.prog W 0 (fun _ => true) true n 55 [e4] = some x4 by have h := hfld 4 (by omega); simpa [c_u16, Value.cells] using h)
    exact ⟨z0, z1, z2, z3, z4, rfl, r0, r1, r2, r3, r4⟩
end
end Go.Proofs.Ytljbjcnfkbmjkaa
