/- The sets of wax.sets as a list: which kinds are in all, in some. -/
import Derived.Test.YthihpggjglghoaaGreatDoorKin
import Derived.Maps.RangeWalk
import Derived.Maps.Views
import Derived.Maps.Ext
import Derived.Maps.OwnSet
namespace Go.Proofs.YthihpggjglghoaaGreatDoor
open Go.RowKit Go.Shelf Go.Maps

def setList (t : Tab) (l : List Int) : List Nat := (outerF t.ks.length (pairOk t l) t.ks.length).map pairSet
theorem setsD_eq {H : Type} {n : Nat} (xs : List (Fin n × Fin n)) : setsD (H := H) xs = setOf (.lit (.bool true)) (xs.map fun x => Lit.int .i64 (pairSet x)) := by
  simp [setsD, setOf, List.foldl_map]
theorem has_sets {H : Type} {n : Nat} (xs : List (Fin n × Fin n)) (z : Int) : has (setsD (H := H) xs) (.int .i64 z) = true ↔ ∃ s ∈ xs.map pairSet, z = (s : Nat) := by
  rw [setsD_eq, setOf, has_fold _ _ _ _ ⟨[], rfl⟩ (by intro x hx; obtain ⟨y, _, rfl⟩ := List.mem_map.1 hx; trivial)]
  have hm : has (.map [] : DataW H) (.int .i64 z) = false := rfl
  rw [hm, Bool.false_or, List.any_map, List.any_eq_true]
  constructor
  · rintro ⟨a, h1, h2⟩
    refine ⟨pairSet a, List.mem_map.2 ⟨a, h1, rfl⟩, ?_⟩
    simpa [Lit.sameKey, eq_comm] using h2
  · rintro ⟨s, h1, h2⟩
    obtain ⟨a, ha, rfl⟩ := List.mem_map.1 h1
    exact ⟨a, ha, by simp [Lit.sameKey, h2]⟩
theorem size_sets {H : Type} {n : Nat} (xs : List (Fin n × Fin n)) : size (setsD (H := H) xs) = 0 ↔ xs = [] := by
  constructor
  · intro h
    have hl : ∀ x ∈ xs.map fun x => Lit.int .i64 (pairSet x), WideAt.IsKeyLit x := by intro x hx; obtain ⟨y, _, rfl⟩ := List.mem_map.1 hx; trivial
    obtain ⟨es, he, _⟩ := tidy_setOf (.lit (.bool true) : DataW H) _ hl
    rw [← setsD_eq] at he
    cases xs with
    | nil => rfl
    | cons x r =>
      exfalso
      have hh : has (setsD (H := H) (x :: r)) (.int .i64 (pairSet x)) = true := (has_sets _ _).2 ⟨_, by simp, rfl⟩
      rw [he] at h hh
      rw [size_eq] at h
      rw [List.length_eq_zero_iff.1 h] at hh
      simp [has] at hh
  · rintro rfl; rfl

def andV (n : Nat) (ss : List Nat) : Nat := ss.foldl (fun a s => a &&& s) (2 ^ n - 1)
def orV (ss : List Nat) : Nat := ss.foldl (fun a s => a ||| s) 0
theorem and_fold (i : Nat) : ∀ (ss : List Nat) (a : Nat), (ss.foldl (fun a s => a &&& s) a).testBit i = true ↔ a.testBit i = true ∧ ∀ s ∈ ss, s.testBit i = true
  | [], a => by simp
  | s :: r, a => by
    rw [List.foldl_cons, and_fold i r]
    simp [Nat.testBit_and, and_assoc]
theorem or_fold (i : Nat) : ∀ (ss : List Nat) (a : Nat), (ss.foldl (fun a s => a ||| s) a).testBit i = true ↔ a.testBit i = true ∨ ∃ s ∈ ss, s.testBit i = true
  | [], a => by simp
  | s :: r, a => by
    rw [List.foldl_cons, or_fold i r]
    simp [Nat.testBit_or, or_assoc]
theorem andV_bit (n : Nat) (ss : List Nat) (i : Nat) : (andV n ss).testBit i = true ↔ i < n ∧ ∀ s ∈ ss, s.testBit i = true := by
  rw [andV, and_fold]; simp [Nat.testBit_two_pow_sub_one]
theorem orV_bit (ss : List Nat) (i : Nat) : (orV ss).testBit i = true ↔ ∃ s ∈ ss, s.testBit i = true := by
  rw [orV, or_fold]; simp

/-- What has been gathered of the sets that are no longer to come. -/
structure Seen (n : Nat) (ss : List Nat) (left : Lit → Bool) (A O : Nat) : Prop where
  la : A < 256
  lo : O < 256
  ba : ∀ i, A.testBit i = true ↔ i < n ∧ ∀ s ∈ ss, left (.int .i64 s) = false → s.testBit i = true
  bo : ∀ i, O.testBit i = true ↔ ∃ s ∈ ss, left (.int .i64 s) = false ∧ s.testBit i = true
theorem seen_start {n : Nat} (hn : n ≤ 8) {ss : List Nat} {left : Lit → Bool} (h : ∀ s ∈ ss, left (.int .i64 s) = true) : Seen n ss left (2 ^ n - 1) 0 where
  la := by
    have : 2 ^ n ≤ 2 ^ 8 := Nat.pow_le_pow_right (by decide) hn
    have h8 : (2 : Nat) ^ 8 = 256 := by decide
    have : 0 < 2 ^ n := Nat.pow_pos (by decide)
    omega
  lo := by decide
  ba i := by
    simp only [Nat.testBit_two_pow_sub_one, decide_eq_true_eq]
    exact ⟨fun hi => ⟨hi, fun s hs he => by rw [h s hs] at he; cases he⟩, fun hi => hi.1⟩
  bo i := by
    simp only [Nat.zero_testBit]
    exact ⟨fun hi => (by cases hi), fun ⟨s, hs, he, _⟩ => by rw [h s hs] at he; cases he⟩
theorem seen_step {n : Nat} {ss : List Nat} {left : Lit → Bool} {A O : Nat} (h : Seen n ss left A O) {x : Nat} (hx : x ∈ ss) (hx8 : x < 256) : Seen n ss (fun z => left z && !z.sameKey (.int .i64 x)) (A &&& x) (O ||| x) := by
  have hO : O ||| x < 256 := by
    have h1 := h.lo
    have h2 : O ||| x < 2 ^ 8 := Nat.or_lt_two_pow (by omega) (by omega)
    omega
  have hl : ∀ s : Nat, (left (.int .i64 s) && !(Lit.int .i64 (s : Int)).sameKey (.int .i64 x)) = false ↔ left (.int .i64 s) = false ∨ s = x := by
    intro s
    cases hh : left (.int .i64 s)
    · simp
    · simp [Lit.sameKey]; omega
  refine ⟨?_, ?_, fun i => ?_, fun i => ?_⟩
  · exact Nat.lt_of_le_of_lt Nat.and_le_left h.la
  · exact hO
  · rw [Nat.testBit_and, Bool.and_eq_true, h.ba]
    constructor
    · rintro ⟨⟨h1, h2⟩, h3⟩
      refine ⟨h1, fun s hs he => ?_⟩
      rcases (hl s).1 he with h4 | rfl
      · exact h2 s hs h4
      · exact h3
    · rintro ⟨h1, h2⟩
      exact ⟨⟨h1, fun s hs he => h2 s hs ((hl s).2 (.inl he))⟩, h2 x hx ((hl x).2 (.inr rfl))⟩
  · rw [Nat.testBit_or, Bool.or_eq_true, h.bo]
    constructor
    · rintro (⟨s, hs, h1, h2⟩ | h3)
      · exact ⟨s, hs, (hl s).2 (.inl h1), h2⟩
      · exact ⟨x, hx, (hl x).2 (.inr rfl), h3⟩
    · rintro ⟨s, hs, h1, h2⟩
      rcases (hl s).1 h1 with h4 | rfl
      · exact .inl ⟨s, hs, h4, h2⟩
      · exact .inr h2
theorem seen_end {n : Nat} {ss : List Nat} {left : Lit → Bool} {A O : Nat} (h : Seen n ss left A O) (hl : ∀ k, left k = false) : A = andV n ss ∧ O = orV ss := by
  constructor
  · apply Nat.eq_of_testBit_eq
    intro i
    rw [Bool.eq_iff_iff, h.ba, andV_bit]
    simp [hl]
  · apply Nat.eq_of_testBit_eq
    intro i
    rw [Bool.eq_iff_iff, h.bo, orV_bit]
    simp [hl]

theorem band_nat (a b : Nat) (ha : a < 256) (hb : b < 256) : bits .and .i64 (a : Int) (b : Int) = ((a &&& b : Nat) : Int) := by
  have hx : a &&& b < 2 ^ 8 := Nat.and_lt_two_pow _ (by omega)
  have h1 : (BitVec.ofInt 64 (a : Int)).toNat = a := by
    rw [BitVec.ofInt_natCast, BitVec.toNat_ofNat]; exact Nat.mod_eq_of_lt (by omega)
  have h2 : (BitVec.ofInt 64 (b : Int)).toNat = b := by
    rw [BitVec.ofInt_natCast, BitVec.toNat_ofNat]; exact Nat.mod_eq_of_lt (by omega)
  show IntKind.i64.wrap ((BitVec.ofInt 64 (a : Int) &&& BitVec.ofInt 64 (b : Int)).toNat : Int) = _
  rw [BitVec.toNat_and, h1, h2]
  exact IntWalk.i64_in _ (by omega)
theorem bor_nat (a b : Nat) (ha : a < 256) (hb : b < 256) : bits .or .i64 (a : Int) (b : Int) = ((a ||| b : Nat) : Int) := by
  have hx : a ||| b < 2 ^ 8 := Nat.or_lt_two_pow (by omega) (by omega)
  have h1 : (BitVec.ofInt 64 (a : Int)).toNat = a := by
    rw [BitVec.ofInt_natCast, BitVec.toNat_ofNat]; exact Nat.mod_eq_of_lt (by omega)
  have h2 : (BitVec.ofInt 64 (b : Int)).toNat = b := by
    rw [BitVec.ofInt_natCast, BitVec.toNat_ofNat]; exact Nat.mod_eq_of_lt (by omega)
  show IntKind.i64.wrap ((BitVec.ofInt 64 (a : Int) ||| BitVec.ofInt 64 (b : Int)).toNat : Int) = _
  rw [BitVec.toNat_or, h1, h2]
  exact IntWalk.i64_in _ (by omega)
theorem pairSet_lt {n : Nat} (x : Fin n × Fin n) (h : n ≤ 8) : pairSet x < 256 := by
  have h1 : pairSet x < 2 ^ 8 := Nat.or_lt_two_pow (Nat.pow_lt_pow_right (by decide) (by have := x.1.2; omega)) (Nat.pow_lt_pow_right (by decide) (by have := x.2.2; omega))
  have h2 : (2 : Nat) ^ 8 = 256 := by decide
  omega
theorem plainElem_bool_inv {H : Type} {P : Program} {e : TypeId} (he : P.underlying e = some .bool) {v : Value} {z : DataW H × List MemPlace} (h : plainElem P e v = some z) : ∃ c, v = .bool c ∧ z = (.lit (.bool c), []) := by
  cases v <;> simp [plainElem, he] at h
  exact ⟨_, rfl, h.symm⟩
end Go.Proofs.YthihpggjglghoaaGreatDoor
