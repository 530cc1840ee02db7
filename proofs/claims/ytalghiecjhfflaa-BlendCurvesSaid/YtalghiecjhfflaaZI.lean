/- The blend's laws: waxes and small numbers that come in. -/
import Derived.Test.YtalghiecjhfflaaQW
import Derived.Test.YtalghiecjhfflaaZF
namespace Go.Proofs.Ytalghiecjhfflaa
open Go.ChangeShapes Go.WideShapes Go.ChangeAt Go.RowKit Go.Deep Go.Joins


instance : Inhabited Pt := ⟨⟨0, 0⟩⟩
instance : Inhabited Bw := ⟨⟨⟨#[]⟩, 0, 0, 0, 0, 0, none, [], 0⟩⟩
theorem c_str : Try.prog.cellsOf 9 = 1 := by kernel_rfl
theorem c_u16 : Try.prog.cellsOf 125 = 1 := by kernel_rfl
theorem c_pt : Try.prog.cellsOf 84 = 2 := by kernel_rfl
theorem c_bw : Try.prog.cellsOf 78 = 7 := by kernel_rfl
theorem c_pts : Try.prog.cellsOf 76 = 1 := by kernel_rfl
section
variable {H : Type} {enc : TypeId × Value → H} {W : World}
theorem field_str {n : Nat} {c : Value} {y : DataW H × List MemPlace} (h : DataW.trod enc Try.prog W 0 (fun _ => true) true n 9 [c] = some y) : ∃ z : ByteArray, c = .string z ∧ z.size ≤ maxLen := by
  obtain ⟨a, ea, _, hs⟩ := DataW.trod_string Try.underlying9 h
  simp only [List.cons.injEq, and_true] at ea
  exact ⟨a, ea, hs⟩
set_option maxRecDepth 100000 in
theorem el_u16 (n : Nat) (cs : List Value) (y : DataW H × List MemPlace) (_ : cs.length = 1) (h : DataW.trod enc Try.prog W 0 (fun _ => true) true n 125 cs = some y) : ∃ z : Int, (∀ j, j < 1 → cs[j]? = some (encU z j)) ∧ (0 ≤ z ∧ z ≤ 65535) := by
  obtain ⟨z, rfl, _, hw⟩ := DataW.trod_int Try.underlying125 h
  exact ⟨z, fun j hj => by obtain rfl : j = 0 := by omega
                           rfl, bounds_u16 hw⟩
set_option maxRecDepth 100000 in
theorem el_pt (n : Nat) (cs : List Value) (y : DataW H × List MemPlace) (hl : cs.length = 2) (h : DataW.trod enc Try.prog W 0 (fun _ => true) true n 84 cs = some y) : ∃ z : Pt, (∀ j, j < 2 → cs[j]? = some (encPt z j)) ∧ True := by
  match cs, hl with
  | [c0, c1], _ =>
    obtain ⟨y0, y1, m, _, _, h0, h1⟩ := trod_struct2 Try.underlying84 h
    obtain ⟨z0, rfl⟩ := field_int (show DataW.trod enc Try.prog W 0 (fun _ => true) true m 3 [c0] = some y0 from h0)
    obtain ⟨z1, rfl⟩ := field_int (show DataW.trod enc Try.prog W 0 (fun _ => true) true m 3 [c1] = some y1 from h1)
    exact ⟨⟨z0, z1⟩, fun j hj => by match j, hj with
      | 0, _ => rfl
      | 1, _ => rfl, trivial⟩
set_option maxRecDepth 100000 in
theorem el_bw (n : Nat) (cs : List Value) (y : DataW H × List MemPlace) (hl : cs.length = 7) (h : DataW.trod enc Try.prog W 0 (fun _ => true) true n 78 cs = some y) : ∃ z : Bw, (∀ j, j < 7 → cs[j]? = some (encBw z j)) ∧ PtsIn W z.ca z.cv ∧ z.nm.size ≤ maxLen := by
  obtain ⟨xs, m, _, _, _, hlen, hfld⟩ := DataW.trod_struct Try.underlying78 h
  match cs, hl, xs, hlen with
  | [c0, c1, c2, c3, c4, c5, c6], _, [y0, y1, y2, y3, y4], _ =>
    obtain ⟨a, rfl, hs⟩ := field_str (show DataW.trod enc Try.prog W 0 (fun _ => true) true m 9 [c0] = some y0 by have h := hfld 0 _ rfl; simpa [c_str, Value.cells] using h)
    obtain ⟨z1, rfl⟩ := field_int (show DataW.trod enc Try.prog W 0 (fun _ => true) true m 3 [c1] = some y1 by have h := hfld 1 _ rfl; simpa [c_int, Value.cells] using h)
    obtain ⟨z2, z3, rfl, rfl⟩ := field_span (show DataW.trod enc Try.prog W 0 (fun _ => true) true m 36 [c2, c3] = some y2 by have h := hfld 2 _ rfl; simpa [c_span, Value.cells] using h)
    obtain ⟨z4, z5, rfl, rfl⟩ := field_span (show DataW.trod enc Try.prog W 0 (fun _ => true) true m 36 [c4, c5] = some y3 by have h := hfld 3 _ rfl; simpa [c_span, Value.cells] using h)
    obtain ⟨ca, cv, cc, rfl, hp, _, hm, _⟩ := open_rows (α := Pt) (en := encPt) Try.underlying76 c_pt (by omega) (show DataW.trod enc Try.prog W 0 (fun _ => true) true m 76 [c6] = some y4 by have h := hfld 4 _ rfl; simpa [c_pts, Value.cells] using h) el_pt
    exact ⟨⟨a, z1, z2, z3, z4, z5, ca, cv, cc⟩, fun j hj => by match j, hj with
      | 0, _ => rfl
      | 1, _ => rfl
      | 2, _ => rfl
      | 3, _ => rfl
      | 4, _ => rfl
      | 5, _ => rfl
      | 6, _ => rfl, ⟨hp, by unfold maxLen at hm; omega⟩, hs⟩
set_option maxRecDepth 100000 in
/-- Waxes that came in. -/
theorem open_bws {v : Value} {d : DataW H} {p : List MemPlace} {b0 : Nat} (hv : Value.okWide Try.prog W .any b0 22 v) (h : DataW.Trod enc Try.prog W 0 (fun _ => true) true 22 v d p) : ∃ A l c, v = .slice A (l : List Bw).length c ∧ BwsIn W A l ∧ l.length ≤ c := by
  obtain ⟨A0, l0, c0, rfl⟩ := okWide_slice Try.underlying22 hv
  obtain ⟨fuel, hf⟩ := h
  obtain ⟨A, l, c, e, hr, hc, hm, hq⟩ := open_rows (α := Bw) (en := encBw) Try.underlying22 c_bw (by omega) (show DataW.trod enc Try.prog W 0 (fun _ => true) true fuel 22 [.slice A0 l0 c0] = some (d, p) by simpa [Value.cells] using hf) el_bw
  exact ⟨A, l, c, e, ⟨hr, fun x hx => (hq x hx).1, by unfold maxLen at hm; omega, fun x hx => by have := (hq x hx).2; unfold maxLen at this; omega⟩, hc⟩
set_option maxRecDepth 100000 in
/-- Small numbers that came in. -/
theorem open_turns {v : Value} {d : DataW H} {p : List MemPlace} {b0 : Nat} (hv : Value.okWide Try.prog W .any b0 58 v) (h : DataW.Trod enc Try.prog W 0 (fun _ => true) true 58 v d p) : ∃ A l c, v = .slice A (l : List Int).length c ∧ U16In W A l := by
  obtain ⟨A0, l0, c0, rfl⟩ := okWide_slice Try.underlying58 hv
  obtain ⟨fuel, hf⟩ := h
  obtain ⟨A, l, c, e, hr, _, hm, hq⟩ := open_rows (α := Int) (en := encU) Try.underlying58 c_u16 (by omega) (show DataW.trod enc Try.prog W 0 (fun _ => true) true fuel 58 [.slice A0 l0 c0] = some (d, p) by simpa [Value.cells] using hf) el_u16
  exact ⟨A, l, c, e, ⟨hr, by unfold maxLen at hm; omega, hq⟩⟩
set_option maxRecDepth 100000 in
theorem open_u32 {v : Value} {d : DataW H} {p : List MemPlace} {b0 : Nat} (hv : Value.okWide Try.prog W .any b0 72 v) (h : DataW.Trod enc Try.prog W 0 (fun _ => true) true 72 v d p) : ∃ z : Int, v = .int .u32 z ∧ 0 ≤ z ∧ z ≤ 4294967295 := by
  obtain ⟨z, rfl, _, _, hw⟩ := open_int Try.underlying72 hv h
  have := bounds_u32 hw
  exact ⟨z, rfl, this.1, this.2⟩
set_option maxRecDepth 100000 in
theorem open_u8 {v : Value} {d : DataW H} {p : List MemPlace} {b0 : Nat} (hv : Value.okWide Try.prog W .any b0 5 v) (h : DataW.Trod enc Try.prog W 0 (fun _ => true) true 5 v d p) : ∃ z : Int, v = .int .u8 z ∧ 0 ≤ z ∧ z ≤ 255 := by
  obtain ⟨z, rfl, _, _, hw⟩ := open_int Try.underlying5 hv h
  have := bounds_u8 hw
  exact ⟨z, rfl, this.1, this.2⟩
end
end Go.Proofs.Ytalghiecjhfflaa
