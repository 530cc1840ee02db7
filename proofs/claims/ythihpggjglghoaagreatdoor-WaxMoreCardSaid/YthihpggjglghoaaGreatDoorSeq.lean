/- Equality of ranges and of properties. -/
import Derived.Test.YthihpggjglghoaaGreatDoorOpen
import Derived.Laws.StructEq
namespace Go.Proofs.YthihpggjglghoaaGreatDoor
open Go.RowKit Go.Shelf

theorem span_uw : Tryz.prog.underlying 43 = some (.struct (Tryz.prog.fieldsOf 43)) := by kernel_rfl
theorem span_held : Tryz.prog.stoodInHeld 43 = false := by kernel_rfl
theorem span_guard : Tryz.prog.eqGuardType Tryz.prog.depth 43 = false := by kernel_rfl
theorem span_fields : (Tryz.prog.fieldsOf 43).toList.map (fun f => (f.name, f.type, f.offset)) = [("Lo", 3, 0), ("Hi", 3, 1)] := by kernel_rfl
theorem prop_uw : Tryz.prog.underlying 47 = some (.struct (Tryz.prog.fieldsOf 47)) := by kernel_rfl
theorem prop_held : Tryz.prog.stoodInHeld 47 = false := by kernel_rfl
theorem prop_guard : Tryz.prog.eqGuardType Tryz.prog.depth 47 = false := by kernel_rfl
theorem prop_fields : (Tryz.prog.fieldsOf 47).toList.map (fun f => (f.name, f.type, f.offset)) = [("Name", 9, 0), ("Error", 3, 1)] := by kernel_rfl
theorem eqFields_two (P : Program) (w : World) (d : Nat) (xs ys : Array Value) (fs : List Field) (n1 n2 : String) (t1 t2 : TypeId) (a1 a2 b1 b2 : Value) (r1 r2 : Bool)
    (hf : fs.map (fun f => (f.name, f.type, f.offset)) = [(n1, t1, 0), (n2, t2, 1)]) (h1 : n1 ≠ "_") (h2 : n2 ≠ "_")
    (p1 : (part t1 xs 0).run P w = .ok a1 w) (q1 : (part t1 ys 0).run P w = .ok b1 w) (p2 : (part t2 xs 1).run P w = .ok a2 w) (q2 : (part t2 ys 1).run P w = .ok b2 w)
    (e1 : (Op.equalIn d t1 a1 b1).run P w = .ok r1 w) (e2 : (Op.equalIn d t2 a2 b2).run P w = .ok r2 w) : (Op.eqFields d xs ys fs).run P w = .ok (r1 && r2) w := by
  rcases fs with _ | ⟨f, _ | ⟨g, _ | ⟨h, r⟩⟩⟩
  · simp at hf
  · simp at hf
  · simp only [List.map_cons, List.map_nil, List.cons.injEq, Prod.mk.injEq, and_true] at hf
    obtain ⟨⟨rfl, rfl, z1⟩, rfl, rfl, z2⟩ := hf
    simp only [Op.eqFields, if_pos h1, if_pos h2, z1, z2, Sem.run_bind, p1, q1, p2, q2, Result.andThen_ok, e1, e2, Sem.run_ite, Sem.run_pure]
    cases r1 <;> cases r2 <;> simp
  · simp at hf
theorem span_eqin (x y : Int × Int) (w : World) : (Op.equalIn 10000 43 (.agg #[.int .i64 x.1, .int .i64 x.2]) (.agg #[.int .i64 y.1, .int .i64 y.2])).run Tryz.prog w = .ok (decide (x = y)) w := by
  rw [run_equalIn_struct w 9999 43 _ _ span_uw span_held,
    eqFields_two Tryz.prog w 9999 _ _ _ "Lo" "Hi" 3 3 (.int .i64 x.1) (.int .i64 x.2) (.int .i64 y.1) (.int .i64 y.2) (x.1 == y.1) (x.2 == y.2) span_fields (by decide) (by decide) (by kernel_rfl) (by kernel_rfl) (by kernel_rfl) (by kernel_rfl)
      (run_equalIn_int w 9998 3 .i64 .i64 _ _ Tryz.underlying3) (run_equalIn_int w 9998 3 .i64 .i64 _ _ Tryz.underlying3)]
  obtain ⟨a, b⟩ := x
  obtain ⟨c, d⟩ := y
  congr 1
  rw [Bool.eq_iff_iff]
  simp
theorem span_eql (x y : Int × Int) (w : World) : (binOp .eql 43 (.agg #[.int .i64 x.1, .int .i64 x.2]) (.agg #[.int .i64 y.1, .int .i64 y.2])).run Tryz.prog w = .ok (.bool (decide (x = y))) w := by
  rw [run_eql_struct, span_eqin]; rfl
theorem span_neq (x y : Int × Int) (w : World) : (binOp .neq 43 (.agg #[.int .i64 x.1, .int .i64 x.2]) (.agg #[.int .i64 y.1, .int .i64 y.2])).run Tryz.prog w = .ok (.bool (!decide (x = y))) w := by
  rw [run_neq_struct, span_eqin]; rfl
theorem prop_eqin (x y : Pr) (w : World) : (Op.equalIn 10000 47 (.agg #[.string x.nm, .int .i64 x.er]) (.agg #[.string y.nm, .int .i64 y.er])).run Tryz.prog w = .ok (x.nm.toList == y.nm.toList && x.er == y.er) w := by
  rw [run_equalIn_struct w 9999 47 _ _ prop_uw prop_held,
    eqFields_two Tryz.prog w 9999 _ _ _ "Name" "Error" 9 3 (.string x.nm) (.int .i64 x.er) (.string y.nm) (.int .i64 y.er) (x.nm.toList == y.nm.toList) (x.er == y.er) prop_fields (by decide) (by decide) (by kernel_rfl) (by kernel_rfl) (by kernel_rfl) (by kernel_rfl)
      (run_equalIn_string w 9998 9 _ _ Tryz.underlying9) (run_equalIn_int w 9998 3 .i64 .i64 _ _ Tryz.underlying3)]
theorem prop_neq (x y : Pr) (w : World) : (binOp .neq 47 (.agg #[.string x.nm, .int .i64 x.er]) (.agg #[.string y.nm, .int .i64 y.er])).run Tryz.prog w = .ok (.bool (!(x.nm.toList == y.nm.toList && x.er == y.er))) w := by
  rw [run_neq_struct, prop_eqin]; rfl
end Go.Proofs.YthihpggjglghoaaGreatDoor
