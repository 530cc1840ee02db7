/- A hollow held against itself. -/
import Derived.Test.YtljbjcnfkbmjkaaGd
namespace Go.Proofs.Ytljbjcnfkbmjkaa
open Go.RowKit Go.Shelf

theorem end_uw : Try.prog.underlying 45 = some (.struct (Try.prog.fieldsOf 45)) := by kernel_rfl
theorem end_held : Try.prog.stoodInHeld 45 = false := by kernel_rfl
theorem end_fields : (Try.prog.fieldsOf 45).toList.map (fun f => (f.name, f.type, f.offset)) = [("Hollow", 23, 0), ("Poured", 23, 2)] := by kernel_rfl
theorem eqFields_at (P : Program) (w : World) (d o1 o2 : Nat) (xs ys : Array Value) (fs : List Field) (n1 n2 : String) (t1 t2 : TypeId) (a1 a2 b1 b2 : Value) (r1 r2 : Bool)
    (hf : fs.map (fun f => (f.name, f.type, f.offset)) = [(n1, t1, o1), (n2, t2, o2)]) (h1 : n1 ≠ "_") (h2 : n2 ≠ "_")
    (p1 : (part t1 xs o1).run P w = .ok a1 w) (q1 : (part t1 ys o1).run P w = .ok b1 w) (p2 : (part t2 xs o2).run P w = .ok a2 w) (q2 : (part t2 ys o2).run P w = .ok b2 w)
    (e1 : (Op.equalIn d t1 a1 b1).run P w = .ok r1 w) (e2 : (Op.equalIn d t2 a2 b2).run P w = .ok r2 w) : (Op.eqFields d xs ys fs).run P w = .ok (r1 && r2) w := by
  rcases fs with _ | ⟨f, _ | ⟨g, _ | ⟨h, r⟩⟩⟩
  · simp at hf
  · simp at hf
  · simp only [List.map_cons, List.map_nil, List.cons.injEq, Prod.mk.injEq, and_true] at hf
    obtain ⟨⟨rfl, rfl, z1⟩, rfl, rfl, z2⟩ := hf
    simp only [Op.eqFields, if_pos h1, if_pos h2, z1, z2, Sem.run_bind, p1, q1, p2, q2, Result.andThen_ok, e1, e2, Sem.run_ite, Sem.run_pure]
    cases r1 <;> cases r2 <;> simp
  · simp at hf
theorem span_eqin2 (a b c d : Int) (w : World) : (Op.equalIn 9999 23 (.agg #[.int .i64 a, .int .i64 b]) (.agg #[.int .i64 c, .int .i64 d])).run Try.prog w = .ok (a == c && b == d) w := by
  rw [run_equalIn_struct w 9998 23 _ _ span_uw span_held,
    eqFields_two Try.prog w 9998 _ _ _ "Lo" "Hi" 3 3 (.int .i64 a) (.int .i64 b) (.int .i64 c) (.int .i64 d) (a == c) (b == d) span_fields (by decide) (by decide) (by kernel_rfl) (by kernel_rfl) (by kernel_rfl) (by kernel_rfl)
      (run_equalIn_int w 9997 3 .i64 .i64 _ _ Try.underlying3) (run_equalIn_int w 9997 3 .i64 .i64 _ _ Try.underlying3)]
theorem end_eqin (x1 x2 x3 x4 y1 y2 y3 y4 : Int) (w : World) : (Op.equalIn 10000 45 (.agg #[.int .i64 x1, .int .i64 x2, .int .i64 x3, .int .i64 x4]) (.agg #[.int .i64 y1, .int .i64 y2, .int .i64 y3, .int .i64 y4])).run Try.prog w = .ok ((x1 == y1 && x2 == y2) && (x3 == y3 && x4 == y4)) w := by
  rw [run_equalIn_struct w 9999 45 _ _ end_uw end_held,
    eqFields_at Try.prog w 9999 0 2 _ _ _ "Hollow" "Poured" 23 23 (.agg #[.int .i64 x1, .int .i64 x2]) (.agg #[.int .i64 x3, .int .i64 x4]) (.agg #[.int .i64 y1, .int .i64 y2]) (.agg #[.int .i64 y3, .int .i64 y4]) (x1 == y1 && x2 == y2) (x3 == y3 && x4 == y4) end_fields (by decide) (by decide) (by kernel_rfl) (by kernel_rfl) (by kernel_rfl) (by kernel_rfl)
      (span_eqin2 _ _ _ _ w) (span_eqin2 _ _ _ _ w)]
theorem end_neq (x1 x2 x3 x4 : Int) (w : World) : (binOp .neq 45 (.agg #[.int .i64 x1, .int .i64 x2, .int .i64 x3, .int .i64 x4]) (.agg #[.int .i64 x1, .int .i64 x2, .int .i64 x3, .int .i64 x4])).run Try.prog w = .ok (.bool false) w := by
  have h : (binOp .neq 45 (.agg #[.int .i64 x1, .int .i64 x2, .int .i64 x3, .int .i64 x4]) (.agg #[.int .i64 x1, .int .i64 x2, .int .i64 x3, .int .i64 x4])).run Try.prog w = .ok (.bool (!((x1 == x1 && x2 == x2) && (x3 == x3 && x4 == x4)))) w := by
    rw [run_neq_struct, end_eqin]; rfl
  rw [h]
  simp
end Go.Proofs.Ytljbjcnfkbmjkaa
