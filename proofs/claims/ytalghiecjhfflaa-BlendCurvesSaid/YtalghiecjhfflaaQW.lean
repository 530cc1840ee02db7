/- The wick's laws: arguments that come in, and that they read on as they did. -/
import Derived.Test.YtalghiecjhfflaaGa
import Derived.Test.YtalghiecjhfflaaRows
import Derived.WalkKit
import Derived.ProofKit
import Derived.OpenShut
import Derived.Deep.Slices
import Derived.Lib.SmallJoins
import Derived.Deep.DeepHandedRow
namespace Go.Proofs.Ytalghiecjhfflaa
open Go.ChangeShapes Go.WideShapes Go.ChangeAt Go.RowKit Go.Deep Go.Joins

theorem own : ownKnob Try.prog.godebug = none := by kernel_rfl
theorem laidOut : laidOutB Try.prog = true := by kernel_rfl
theorem plain_of {w : World} {a : Addr} {v : Value} (h : w.cell? a = some v) : a = ⟨a.block, a.off, none⟩ := by
  obtain ⟨b, o, s⟩ := a
  have hs : s = none := by simpa using World.cell?_spot h
  subst hs
  rfl

section
variable {H : Type} {enc : TypeId × Value → H} {W W' : World}

theorem open_rows {α : Type} [Inhabited α] {t e : TypeId} {sz fuel : Nat} {c0 : Value} {x : DataW H × List MemPlace} {en : α → Nat → Value} {Q : α → Prop} (ht : Try.prog.underlying t = some (.slice e)) (hsz : Try.prog.cellsOf e = sz) (hpos : 0 < sz)
    (h : DataW.trod enc Try.prog W 0 (fun _ => true) true fuel t [c0] = some x)
    (hel : ∀ (n : Nat) (cs : List Value) (y : DataW H × List MemPlace), cs.length = sz → DataW.trod enc Try.prog W 0 (fun _ => true) true n e cs = some y → ∃ z : α, (∀ j, j < sz → cs[j]? = some (en z j)) ∧ Q z) :
    ∃ (A : Option Addr) (l : List α) (c : Nat), c0 = .slice A l.length c ∧ RowAt sz en W W.heap.size A l ∧ l.length ≤ c ∧ l.length ≤ maxLen ∧ ∀ z ∈ l, Q z := by
  rcases open_slice ht h with ⟨hcs, _⟩ | ⟨a, len, cap, m, n, D, Pl, hcs, _, hl, hm, hmm, _, hx⟩
  · simp only [List.cons.injEq, and_true] at hcs
    subst hcs
    exact ⟨none, [], 0, rfl, RowAt.nil, by simp, by simp, fun z hz => by simp at hz⟩
  · simp only [List.cons.injEq, and_true] at hcs
    subst hcs
    have hmc : m = cap := by rw [hmm]; simp
    obtain ⟨f, hf⟩ := choose_lt (α := α) (n := len) (p := fun i z => (∀ j, j < sz → W.cell? (a.add (i * sz + j)) = some (en z j)) ∧ Q z) (fun i hi => by
      obtain ⟨cs, h1, h2⟩ := hx i (by omega)
      rw [hsz] at h1
      obtain ⟨_, hlen, hc⟩ := World.cells?_some h1
      obtain ⟨z, hz, hq⟩ := hel n cs _ hlen h2
      refine ⟨z, fun j hj => ?_, hq⟩
      have h3 := hc j hj
      rw [add_add] at h3
      rw [h3]
      exact hz j hj)
    refine ⟨some a, (List.range len).map f, cap, by simp, fun hp => ?_, by simpa using hl, by simp; omega, fun z hz => ?_⟩
    · have hlen0 : 0 < len := by simpa using hp
      have hc0 := (hf 0 hlen0).1 0 hpos
      have hpl : a = ⟨a.block, a.off, none⟩ := by
        have h0 : W.cell? a = some (en (f 0) 0) := by simpa [Addr.add] using hc0
        exact plain_of h0
      refine ⟨a.block, a.off, by rw [← hpl], ?_, fun i z hi j hj => ?_⟩
      · rcases Nat.lt_or_ge a.block W.heap.size with h' | h'
        · exact h'
        · rw [hpl] at hc0
          simp only [Nat.zero_mul, Nat.add_zero, Addr.add, World.cell?] at hc0
          rw [Array.getElem?_eq_none (by simpa using h')] at hc0
          cases hc0
      · rw [List.getElem?_map] at hi
        obtain ⟨i', hi', rfl⟩ := Option.map_eq_some_iff.1 hi
        obtain ⟨hlt, hii⟩ := List.getElem?_eq_some_iff.1 hi'
        simp at hlt hii
        subst hii
        have h3 := (hf i hlt).1 j hj
        rw [hpl, add_plain] at h3
        rw [Nat.add_assoc]
        exact h3
    · obtain ⟨i, hi, rfl⟩ := List.mem_map.1 hz
      exact (hf i (by simpa using hi)).2

theorem el_int (n : Nat) (cs : List Value) (y : DataW H × List MemPlace) (_ : cs.length = 1) (h : DataW.trod enc Try.prog W 0 (fun _ => true) true n 3 cs = some y) : ∃ z : Int, (∀ j, j < 1 → cs[j]? = some (encI z j)) ∧ (Lit.int .i64 z).wf = true := by
  obtain ⟨z, rfl, _, hw⟩ := DataW.trod_int Try.underlying3 h
  exact ⟨z, fun j hj => by obtain rfl : j = 0 := by omega
                           rfl, hw⟩
theorem c_int : Try.prog.cellsOf 3 = 1 := by kernel_rfl
/-- A list of ints that came in. -/
theorem open_ints_in {v : Value} {d : DataW H} {p : List MemPlace} (h : DataW.Trod enc Try.prog W 0 (fun _ => true) true 31 v d p) (hv : ∃ A l c, v = .slice A l c) : ∃ A l c, v = .slice A l.length c ∧ IntsIn W A l ∧ ∀ z ∈ l, (Lit.int .i64 z).wf = true := by
  obtain ⟨A0, l0, c0, rfl⟩ := hv
  obtain ⟨fuel, hf⟩ := h
  obtain ⟨A, l, c, e, hr, hc, hm, hq⟩ := open_rows (α := Int) (en := encI) Try.underlying31 c_int (by omega) (show DataW.trod enc Try.prog W 0 (fun _ => true) true fuel 31 [.slice A0 l0 c0] = some (d, p) by simpa [Value.cells] using hf) el_int
  exact ⟨A, l, c, e, ⟨hr, by unfold maxLen at hm; omega⟩, hq⟩
/-- The arguments read on as they did. -/
theorem trodAll_below {P : Program} (hl : laidOutB P = true) (hb : Below W.heap.size W W') (ts : List TypeId) : ∀ (vs : List Value) (ds : List (DataW H)) (ps : List MemPlace), (ts.all fun t => P.readableRec t && decide (t < P.types.size)) = true →
    DataW.TrodAll enc P W 0 (fun _ => true) true ts vs ds ps → (∀ x ∈ ps, x.block < W.heap.size) → DataW.TrodAll enc P W' 0 (fun b => decide (b < W.heap.size)) true ts vs ds ps := by
  induction ts with
  | nil =>
    intro vs ds ps _ h _
    obtain ⟨rfl, rfl, rfl⟩ := trodAll_nil h
    exact trodAll_mk0
  | cons t ts ih =>
    intro vs ds ps ht h hlt
    obtain ⟨v, vs', d, ds', p, q, rfl, rfl, rfl, h1, h2⟩ := trodAll_cons h
    simp only [List.all_cons, Bool.and_eq_true, decide_eq_true_eq] at ht
    exact trodAll_cons_mk (Below.trod hl ht.1.1 ht.1.2 h1 hb (fun x hx => hlt x (by simp [hx]))) (ih vs' ds' q ht.2 h2 (fun x hx => hlt x (by simp [hx])))
end
section
variable {H : Type} {enc : TypeId × Value → H} {W : World}
theorem field_int {n : Nat} {c : Value} {y : DataW H × List MemPlace} (h : DataW.trod enc Try.prog W 0 (fun _ => true) true n 3 [c] = some y) : ∃ z : Int, c = .int .i64 z := by
  obtain ⟨z, e, _, _⟩ := DataW.trod_int Try.underlying3 h
  simp only [List.cons.injEq, and_true] at e
  exact ⟨z, e⟩
set_option maxRecDepth 100000 in
theorem field_span {n : Nat} {c d : Value} {y : DataW H × List MemPlace} (h : DataW.trod enc Try.prog W 0 (fun _ => true) true n 36 [c, d] = some y) : ∃ z u : Int, c = .int .i64 z ∧ d = .int .i64 u := by
  obtain ⟨y0, y1, m, _, _, h0, h1⟩ := trod_struct2 Try.underlying36 h
  obtain ⟨z, rfl⟩ := field_int (show DataW.trod enc Try.prog W 0 (fun _ => true) true m 3 [c] = some y0 from h0)
  obtain ⟨u, rfl⟩ := field_int (show DataW.trod enc Try.prog W 0 (fun _ => true) true m 3 [d] = some y1 from h1)
  exact ⟨z, u, rfl, rfl⟩
theorem c_span : Try.prog.cellsOf 36 = 2 := by kernel_rfl
set_option maxRecDepth 100000 in
/-- A small number that came in. -/
theorem open_u16 {v : Value} {d : DataW H} {p : List MemPlace} {b0 : Nat} (hv : Value.okWide Try.prog W .any b0 125 v) (h : DataW.Trod enc Try.prog W 0 (fun _ => true) true 125 v d p) :
    ∃ z : Int, v = .int .u16 z ∧ 0 ≤ z ∧ z ≤ 65535 := by
  obtain ⟨z, rfl, _, _, hw⟩ := open_int Try.underlying125 hv h
  have := bounds_u16 hw
  exact ⟨z, rfl, this.1, this.2⟩
end
end Go.Proofs.Ytalghiecjhfflaa
