/- Equality of structs of ints: truths, burnings, ranges. -/
import Derived.Test.YtkjfommdeljefaaGb
import Derived.Laws.StructEq
namespace Go.Proofs.Ytkjfommdeljefaa
open Go.RowKit Go.Shelf

/-- A field held in both: its two numbers, where it lies. -/
abbrev F2 := Int × Int × Nat
theorem eqFields_ints {P : Program} {w : World} {d : Nat} (hu : P.underlying 3 = some (.int .i64)) (xs ys : Array Value) : ∀ (fs : List Field) (l : List F2), fs.map (fun f => (f.type, f.offset)) = l.map (fun q => ((3 : TypeId), q.2.2)) → (fs.all fun f => f.name != "_") = true →
    (∀ q ∈ l, (part 3 xs q.2.2).run P w = .ok (.int .i64 q.1) w ∧ (part 3 ys q.2.2).run P w = .ok (.int .i64 q.2.1) w) → (Op.eqFields (d + 1) xs ys fs).run P w = .ok (l.all fun q => q.1 == q.2.1) w
  | [], [], _, _, _ => by simp [Op.eqFields]
  | [], q :: l, h, _, _ => by simp at h
  | f :: fs, [], h, _, _ => by simp at h
  | f :: fs, q :: l, h, hn, hp => by
    simp only [List.map_cons, List.cons.injEq, Prod.mk.injEq] at h
    obtain ⟨⟨z1, z2⟩, h2⟩ := h
    simp only [List.all_cons, Bool.and_eq_true, bne_iff_ne, ne_eq] at hn
    obtain ⟨p1, p2⟩ := hp q (by simp)
    have ih := eqFields_ints (d := d) hu xs ys fs l h2 hn.2 (fun r hr => hp r (by simp [hr]))
    have e1 := run_equalIn_int (P := P) w d 3 .i64 .i64 q.1 q.2.1 hu
    simp only [Op.eqFields, ne_eq, hn.1, not_false_eq_true, if_true, z1, z2, Sem.run_bind, p1, p2, Result.andThen_ok, e1, Sem.run_ite, Sem.run_pure, ih, List.all_cons]
    cases (q.1 == q.2.1) <;> simp
theorem tu_uw : Try.prog.underlying 36 = some (.struct (Try.prog.fieldsOf 36)) := by kernel_rfl
theorem tu_held : Try.prog.stoodInHeld 36 = false := by kernel_rfl
theorem bn_uw : Try.prog.underlying 40 = some (.struct (Try.prog.fieldsOf 40)) := by kernel_rfl
theorem bn_held : Try.prog.stoodInHeld 40 = false := by kernel_rfl
theorem sp_uw : Try.prog.underlying 25 = some (.struct (Try.prog.fieldsOf 25)) := by kernel_rfl
theorem sp_held : Try.prog.stoodInHeld 25 = false := by kernel_rfl
def tuEq (t u : Tu) : Bool := t.pull == u.pull && (t.flow == u.flow && (t.rise == u.rise && (t.spr == u.spr && (t.dra == u.dra && (t.cold == u.cold && true)))))
def bnEq (t u : Bn) : Bool := t.rate == u.rate && (t.flame == u.flame && (t.pool == u.pool && true))
theorem tu_eqin (t u : Tu) (w : World) : (Op.equalIn 10000 36 (.agg #[.int .i64 t.pull, .int .i64 t.flow, .int .i64 t.rise, .int .i64 t.spr, .int .i64 t.dra, .int .i64 t.cold]) (.agg #[.int .i64 u.pull, .int .i64 u.flow, .int .i64 u.rise, .int .i64 u.spr, .int .i64 u.dra, .int .i64 u.cold])).run Try.prog w = .ok (tuEq t u) w := by
  rw [run_equalIn_struct w 9999 36 _ _ tu_uw tu_held]
  exact eqFields_ints (d := 9998) Try.underlying3 _ _ _ [(t.pull, u.pull, 0), (t.flow, u.flow, 1), (t.rise, u.rise, 2), (t.spr, u.spr, 3), (t.dra, u.dra, 4), (t.cold, u.cold, 5)] (by kernel_rfl) (by kernel_rfl) (fun q hq => by
    simp only [List.mem_cons, List.not_mem_nil, or_false] at hq
    rcases hq with rfl | rfl | rfl | rfl | rfl | rfl <;> exact ⟨by kernel_rfl, by kernel_rfl⟩)
theorem bn_eqin (t u : Bn) (w : World) : (Op.equalIn 10000 40 (.agg #[.int .i64 t.rate, .int .i64 t.flame, .int .i64 t.pool]) (.agg #[.int .i64 u.rate, .int .i64 u.flame, .int .i64 u.pool])).run Try.prog w = .ok (bnEq t u) w := by
  rw [run_equalIn_struct w 9999 40 _ _ bn_uw bn_held]
  exact eqFields_ints (d := 9998) Try.underlying3 _ _ _ [(t.rate, u.rate, 0), (t.flame, u.flame, 1), (t.pool, u.pool, 2)] (by kernel_rfl) (by kernel_rfl) (fun q hq => by
    simp only [List.mem_cons, List.not_mem_nil, or_false] at hq
    rcases hq with rfl | rfl | rfl <;> exact ⟨by kernel_rfl, by kernel_rfl⟩)
theorem sp_eqin (x y : Int × Int) (w : World) : (Op.equalIn 10000 25 (.agg #[.int .i64 x.1, .int .i64 x.2]) (.agg #[.int .i64 y.1, .int .i64 y.2])).run Try.prog w = .ok (x.1 == y.1 && (x.2 == y.2 && true)) w := by
  rw [run_equalIn_struct w 9999 25 _ _ sp_uw sp_held]
  exact eqFields_ints (d := 9998) Try.underlying3 _ _ _ [(x.1, y.1, 0), (x.2, y.2, 1)] (by kernel_rfl) (by kernel_rfl) (fun q hq => by
    simp only [List.mem_cons, List.not_mem_nil, or_false] at hq
    rcases hq with rfl | rfl <;> exact ⟨by kernel_rfl, by kernel_rfl⟩)
theorem tu_eql (t u : Tu) (w : World) : (binOp .eql 36 (.agg #[.int .i64 t.pull, .int .i64 t.flow, .int .i64 t.rise, .int .i64 t.spr, .int .i64 t.dra, .int .i64 t.cold]) (.agg #[.int .i64 u.pull, .int .i64 u.flow, .int .i64 u.rise, .int .i64 u.spr, .int .i64 u.dra, .int .i64 u.cold])).run Try.prog w = .ok (.bool (tuEq t u)) w := by rw [run_eql_struct, tu_eqin]; rfl
theorem bn_eql (t u : Bn) (w : World) : (binOp .eql 40 (.agg #[.int .i64 t.rate, .int .i64 t.flame, .int .i64 t.pool]) (.agg #[.int .i64 u.rate, .int .i64 u.flame, .int .i64 u.pool])).run Try.prog w = .ok (.bool (bnEq t u)) w := by rw [run_eql_struct, bn_eqin]; rfl
theorem bn_neq (t u : Bn) (w : World) : (binOp .neq 40 (.agg #[.int .i64 t.rate, .int .i64 t.flame, .int .i64 t.pool]) (.agg #[.int .i64 u.rate, .int .i64 u.flame, .int .i64 u.pool])).run Try.prog w = .ok (.bool (!bnEq t u)) w := by rw [run_neq_struct, bn_eqin]; rfl
theorem spn_eql (x y : Int × Int) (w : World) : (binOp .eql 25 (.agg #[.int .i64 x.1, .int .i64 x.2]) (.agg #[.int .i64 y.1, .int .i64 y.2])).run Try.prog w = .ok (.bool (x.1 == y.1 && (x.2 == y.2 && true))) w := by rw [run_eql_struct, sp_eqin]; rfl
theorem spn_neq (x y : Int × Int) (w : World) : (binOp .neq 25 (.agg #[.int .i64 x.1, .int .i64 x.2]) (.agg #[.int .i64 y.1, .int .i64 y.2])).run Try.prog w = .ok (.bool (!(x.1 == y.1 && (x.2 == y.2 && true)))) w := by rw [run_neq_struct, sp_eqin]; rfl
end Go.Proofs.Ytkjfommdeljefaa
