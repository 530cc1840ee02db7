/- The wick's laws: a shop, a candle that come in. -/
import Derived.Test.YtkjfommdeljefaaQW
namespace Go.Proofs.Ytkjfommdeljefaa
open Go.ChangeShapes Go.WideShapes Go.ChangeAt Go.RowKit Go.Deep Go.Joins

theorem array6 {α : Type} {cs : Array α} (h : cs.size = 6) : ∃ c0 c1 c2 c3 c4 c5, cs = #[c0, c1, c2, c3, c4, c5] := by
  obtain ⟨l⟩ := cs
  match l, h with
  | [c0, c1, c2, c3, c4, c5], _ => exact ⟨c0, c1, c2, c3, c4, c5, rfl⟩
theorem array5 {α : Type} {cs : Array α} (h : cs.size = 5) : ∃ c0 c1 c2 c3 c4, cs = #[c0, c1, c2, c3, c4] := by
  obtain ⟨l⟩ := cs
  match l, h with
  | [c0, c1, c2, c3, c4], _ => exact ⟨c0, c1, c2, c3, c4, rfl⟩
instance : Inhabited Wk := ⟨⟨⟨#[]⟩, 0, 0, 0⟩⟩
instance : Inhabited Wx := ⟨⟨⟨#[]⟩, 0, 0, 0, 0, 0, 0, 0⟩⟩
theorem c_str : Try.prog.cellsOf 9 = 1 := by kernel_rfl
theorem c_wk : Try.prog.cellsOf 74 = 4 := by kernel_rfl
theorem c_wx : Try.prog.cellsOf 80 = 8 := by kernel_rfl
theorem c_sh : Try.prog.cellsOf 27 = 6 := by kernel_rfl
theorem c_cd : Try.prog.cellsOf 34 = 5 := by kernel_rfl
theorem c_ks : Try.prog.cellsOf 22 = 1 := by kernel_rfl
theorem c_xs : Try.prog.cellsOf 23 = 1 := by kernel_rfl
section
variable {H : Type} {enc : TypeId × Value → H} {W : World}
theorem field_str {n : Nat} {c : Value} {y : DataW H × List MemPlace} (h : DataW.trod enc Try.prog W 0 (fun _ => true) true n 9 [c] = some y) : ∃ z : ByteArray, c = .string z ∧ z.size ≤ maxLen := by
  obtain ⟨a, ea, _, hs⟩ := DataW.trod_string Try.underlying9 h
  simp only [List.cons.injEq, and_true] at ea
  exact ⟨a, ea, hs⟩
set_option maxRecDepth 100000 in
theorem el_wk (n : Nat) (cs : List Value) (y : DataW H × List MemPlace) (hl : cs.length = 4) (h : DataW.trod enc Try.prog W 0 (fun _ => true) true n 74 cs = some y) : ∃ z : Wk, (∀ j, j < 4 → cs[j]? = some (encWk z j)) ∧ z.nm.size ≤ maxLen := by
  obtain ⟨xs, m, _, _, _, hlen, hfld⟩ := DataW.trod_struct Try.underlying74 h
  match cs, hl, xs, hlen with
  | [c0, c1, c2, c3], _, [y0, y1, y2], _ =>
    obtain ⟨a, rfl, hs⟩ := field_str (show DataW.trod enc Try.prog W 0 (fun _ => true) true m 9 [c0] = some y0 by have h := hfld 0 _ rfl; simpa [c_str, Value.cells] using h)
    obtain ⟨z1, rfl⟩ := field_int (show DataW.trod enc Try.prog W 0 (fun _ => true) true m 3 [c1] = some y1 by have h := hfld 1 _ rfl; simpa [c_int, Value.cells] using h)
    obtain ⟨z2, z3, rfl, rfl⟩ := field_span (show DataW.trod enc Try.prog W 0 (fun _ => true) true m 25 [c2, c3] = some y2 by have h := hfld 2 _ rfl; simpa [c_span, Value.cells] using h)
    exact ⟨⟨a, z1, z2, z3⟩, fun j hj => by match j, hj with
      | 0, _ => rfl
      | 1, _ => rfl
      | 2, _ => rfl
      | 3, _ => rfl, hs⟩
set_option maxRecDepth 100000 in
theorem el_wx (n : Nat) (cs : List Value) (y : DataW H × List MemPlace) (hl : cs.length = 8) (h : DataW.trod enc Try.prog W 0 (fun _ => true) true n 80 cs = some y) : ∃ z : Wx, (∀ j, j < 8 → cs[j]? = some (encWx z j)) ∧ z.nm.size ≤ maxLen := by
  obtain ⟨xs, m, _, _, _, hlen, hfld⟩ := DataW.trod_struct Try.underlying80 h
  match cs, hl, xs, hlen with
  | [c0, c1, c2, c3, c4, c5, c6, c7], _, [y0, y1, y2, y3, y4], _ =>
    obtain ⟨a, rfl, hs⟩ := field_str (show DataW.trod enc Try.prog W 0 (fun _ => true) true m 9 [c0] = some y0 by have h := hfld 0 _ rfl; simpa [c_str, Value.cells] using h)
    obtain ⟨z1, z2, rfl, rfl⟩ := field_span (show DataW.trod enc Try.prog W 0 (fun _ => true) true m 25 [c1, c2] = some y1 by have h := hfld 1 _ rfl; simpa [c_span, Value.cells] using h)
    obtain ⟨z3, z4, rfl, rfl⟩ := field_span (show DataW.trod enc Try.prog W 0 (fun _ => true) true m 25 [c3, c4] = some y2 by have h := hfld 2 _ rfl; simpa [c_span, Value.cells] using h)
    obtain ⟨z5, z6, rfl, rfl⟩ := field_span (show DataW.trod enc Try.prog W 0 (fun _ => true) true m 25 [c5, c6] = some y3 by have h := hfld 3 _ rfl; simpa [c_span, Value.cells] using h)
    obtain ⟨z7, rfl⟩ := field_int (show DataW.trod enc Try.prog W 0 (fun _ => true) true m 3 [c7] = some y4 by have h := hfld 4 _ rfl; simpa [c_int, Value.cells] using h)
    exact ⟨⟨a, z1, z2, z3, z4, z5, z6, z7⟩, fun j hj => by match j, hj with
      | 0, _ => rfl
      | 1, _ => rfl
      | 2, _ => rfl
      | 3, _ => rfl
      | 4, _ => rfl
      | 5, _ => rfl
      | 6, _ => rfl
      | 7, _ => rfl, hs⟩
set_option maxRecDepth 100000 in
/-- A shop that came in. -/
theorem open_sh {v : Value} {d : DataW H} {p : List MemPlace} {b0 : Nat} (hv : Value.okWide Try.prog W .any b0 27 v) (h : DataW.Trod enc Try.prog W 0 (fun _ => true) true 27 v d p) :
    ∃ s : Sp, v = .agg #[.slice s.ka s.s.ks.length s.kc, .slice s.xa s.s.xs.length s.xc, .int .i64 s.s.flo, .int .i64 s.s.fhi, .int .i64 s.s.plo, .int .i64 s.s.phi] ∧ ShIn W s := by
  have ht := Try.underlying27
  obtain ⟨cs, rfl, hsz⟩ := okWide_struct ht hv
  obtain ⟨c0, c1, c2, c3, c4, c5, rfl⟩ := array6 (hsz.trans c_sh)
  obtain ⟨fuel, hf⟩ := h
  obtain ⟨xs, n, _, _, _, hlen, hfld⟩ := DataW.trod_struct ht hf
  match xs, hlen with
  | [y0, y1, y2, y3], _ =>
    obtain ⟨ka, ks, kc, rfl, hk, hkc, hkm, hkq⟩ := open_rows (α := Wk) (en := encWk) Try.underlying22 c_wk (by omega) (show DataW.trod enc Try.prog W 0 (fun _ => true) true n 22 [c0] = some y0 by have h := hfld 0 _ rfl; simpa [c_ks, Value.cells] using h) el_wk
    obtain ⟨xa, xl, xc, rfl, hx, hxc, hxm, hxq⟩ := open_rows (α := Wx) (en := encWx) Try.underlying23 c_wx (by omega) (show DataW.trod enc Try.prog W 0 (fun _ => true) true n 23 [c1] = some y1 by have h := hfld 1 _ rfl; simpa [c_xs, Value.cells] using h) el_wx
    obtain ⟨z2, z3, rfl, rfl⟩ := field_span (show DataW.trod enc Try.prog W 0 (fun _ => true) true n 25 [c2, c3] = some y2 by have h := hfld 2 _ rfl; simpa [c_span, Value.cells] using h)
    obtain ⟨z4, z5, rfl, rfl⟩ := field_span (show DataW.trod enc Try.prog W 0 (fun _ => true) true n 25 [c4, c5] = some y3 by have h := hfld 3 _ rfl; simpa [c_span, Value.cells] using h)
    unfold maxLen at hkm hxm hkq hxq
    exact ⟨⟨⟨ks, xl, z2, z3, z4, z5⟩, ka, kc, xa, xc⟩, rfl, ⟨⟨hk, by show ks.length ≤ _; omega, hkc, fun x hx => by have := hkq x hx; omega⟩, ⟨hx, by show xl.length ≤ _; omega, hxc, fun x hx => by have := hxq x hx; omega⟩⟩⟩
theorem cd_at {n : Nat} {c0 c1 c2 c3 c4 : Value} {y : DataW H × List MemPlace} (h : DataW.trod enc Try.prog W 0 (fun _ => true) true n 34 [c0, c1, c2, c3, c4] = some y) : ∃ c : Cd, c0 = .int .i64 c.wax ∧ c1 = .int .i64 c.dia ∧ c2 = .int .i64 c.dra ∧ c3 = .int .i64 c.clo ∧ c4 = .int .i64 c.chi := by
  obtain ⟨xs, m, _, _, _, hlen, hfld⟩ := DataW.trod_struct Try.underlying34 h
  match xs, hlen with
  | [y0, y1, y2, y3], _ =>
    obtain ⟨z0, rfl⟩ := field_int (show DataW.trod enc Try.prog W 0 (fun _ => true) true m 3 [c0] = some y0 by have h := hfld 0 _ rfl; simpa [c_int, Value.cells] using h)
    obtain ⟨z1, rfl⟩ := field_int (show DataW.trod enc Try.prog W 0 (fun _ => true) true m 3 [c1] = some y1 by have h := hfld 1 _ rfl; simpa [c_int, Value.cells] using h)
    obtain ⟨z2, rfl⟩ := field_int (show DataW.trod enc Try.prog W 0 (fun _ => true) true m 3 [c2] = some y2 by have h := hfld 2 _ rfl; simpa [c_int, Value.cells] using h)
    obtain ⟨z3, z4, rfl, rfl⟩ := field_span (show DataW.trod enc Try.prog W 0 (fun _ => true) true m 25 [c3, c4] = some y3 by have h := hfld 3 _ rfl; simpa [c_span, Value.cells] using h)
    exact ⟨⟨z0, z1, z2, z3, z4⟩, rfl, rfl, rfl, rfl, rfl⟩
set_option maxRecDepth 100000 in
/-- A candle that came in. -/
theorem open_cd {v : Value} {d : DataW H} {p : List MemPlace} {b0 : Nat} (hv : Value.okWide Try.prog W .any b0 34 v) (h : DataW.Trod enc Try.prog W 0 (fun _ => true) true 34 v d p) :
    ∃ c : Cd, v = .agg #[.int .i64 c.wax, .int .i64 c.dia, .int .i64 c.dra, .int .i64 c.clo, .int .i64 c.chi] := by
  have ht := Try.underlying34
  obtain ⟨cs, rfl, hsz⟩ := okWide_struct ht hv
  obtain ⟨c0, c1, c2, c3, c4, rfl⟩ := array5 (hsz.trans c_cd)
  obtain ⟨fuel, hf⟩ := h
  obtain ⟨c, rfl, rfl, rfl, rfl, rfl⟩ := cd_at (show DataW.trod enc Try.prog W 0 (fun _ => true) true fuel 34 [c0, c1, c2, c3, c4] = some (d, p) by simpa [Value.cells] using hf)
  exact ⟨c, rfl⟩
end
end Go.Proofs.Ytkjfommdeljefaa
