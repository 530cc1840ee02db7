/- Contracts of layer wax, a part: the reference, arguments that come in, and what the law needs of both. No statement is proved here. -/
import Derived.Test.YthihpggjglghoaaGreatDoorParts
import Derived.Test.YthihpggjglghoaaGreatDoorDet
import Derived.Test.YthihpggjglghoaaGreatDoorSetsT
import Derived.Test.YthihpggjglghoaaGreatDoorSold
import Derived.Test.YthihpggjglghoaaGreatDoorWithin
import Derived.Test.YthihpggjglghoaaGreatDoorOpen
import Derived.WalkKit
import Derived.ProofKit
import Derived.OpenShut
import Derived.Deep.Slices
import Derived.Lib.SmallJoins
import Derived.Test.YthihpggjglghoaaGreatDoorBlk
import Derived.BigQuiet
import Derived.Test.YthihpggjglghoaaGreatDoorPof
import Derived.Test.YthihpggjglghoaaGreatDoorOut
import Derived.Deep.DeepMust
import Derived.Test.YthihpggjglghoaaGreatDoorLine
import Derived.Test.YthihpggjglghoaaGreatDoorCards
import Derived.Test.YthihpggjglghoaaGreatDoorTie
import Derived.Deep.DeepHandedRow
import Derived.Deep.DeepWitnessRowRef
import Derived.Lib.LaidTab
import Derived.Stop.LaidErr
import Derived.LaidMore
import Derived.Shelf.Vars
import Derived.Lib.LaidU8
import Derived.RegionDies
import Derived.Deep.RegionLaw
import Derived.Deep.RegionHeld3
namespace Go.Proofs.YthihpggjglghoaaGreatDoor

theorem applyB_mem (f l : Int) (p : Int × Int) (n : Int) : ((applyB f l p).1 ≤ n ∧ n ≤ (applyB f l p).2) ↔ ((p.1 ≤ n ∧ n ≤ p.2) ∧ f * n ≤ l) := by
  unfold applyB
  by_cases h : 0 < f
  · rw [if_pos h]
    have := Int.le_ediv_iff_mul_le (a := n) (b := l) h
    rw [Int.mul_comm] at this
    simp only
    omega
  · rw [if_neg h]
    by_cases h2 : f < 0
    · rw [if_pos h2]
      have := Int.le_ediv_iff_mul_le (a := -n) (b := l) (show 0 < -f by omega)
      rw [Int.neg_mul_neg, Int.mul_comm] at this
      simp only
      omega
    · rw [if_neg h2]
      have hf : f = 0 := by omega
      subst hf
      rw [Int.zero_mul]
      by_cases h3 : l < 0
      · rw [if_pos h3]; simp only; omega
      · rw [if_neg h3]; omega
theorem tightL_mem (bs : List (Int × Int)) : ∀ (p : Int × Int) (n : Int), ((tightL bs p).1 ≤ n ∧ n ≤ (tightL bs p).2) ↔ ((p.1 ≤ n ∧ n ≤ p.2) ∧ ∀ b ∈ bs, b.1 * n ≤ b.2) := by
  induction bs with
  | nil => intro p n; simp [tightL]
  | cons b bs ih =>
    intro p n
    have h : tightL (b :: bs) p = tightL bs (applyB b.1 b.2 p) := rfl
    rw [h, ih, applyB_mem]
    simp only [List.forall_mem_cons, and_assoc]

/-- Whether a mixture with n parts of a explains reading i. -/
def explAt (ps : List Pr) (xa xb : List (Int × Int)) (l : List Int) (n : Int) (i : Nat) : Bool :=
  match l[i]?, xa[i]?, xb[i]?, ps[i]? with
  | some r, some x, some y, some p => decide (r = -1 ∨ (n * x.1 + (1000 - n) * y.1 ≤ 1000 * (r + p.er) ∧ 1000 * (r - p.er) ≤ n * x.2 + (1000 - n) * y.2))
  | _, _, _, _ => true
def explB (t : Tab) (l : List Int) (a b : Nat) (n : Int) : Bool := (List.range l.length).all (explAt t.ps ((t.ks[a]?.map Kd.rs).getD []) ((t.ks[b]?.map Kd.rs).getD []) l n)
theorem explAt_iff (ps : List Pr) (xa xb : List (Int × Int)) (l : List Int) (n : Int) (i : Nat) : explAt ps xa xb l n i = true ↔ ∀ b ∈ boundsAt ps xa xb l i, b.1 * n ≤ b.2 := by
  unfold explAt boundsAt
  cases l[i]? with
  | none => simp
  | some r =>
    cases xa[i]? with
    | none => simp
    | some x =>
      cases xb[i]? with
      | none => simp
      | some y =>
        cases ps[i]? with
        | none => simp
        | some p =>
          simp only
          by_cases h : r = -1
          · rw [if_pos h]; simp [h]
          · rw [if_neg h]
            simp only [bound2, List.forall_mem_cons, decide_eq_true_eq, h, false_or]
            have e1 : (x.1 - y.1) * n = n * x.1 - n * y.1 := by rw [Int.mul_comm, Int.mul_sub]
            have e2 : (y.2 - x.2) * n = n * y.2 - n * x.2 := by rw [Int.mul_comm, Int.mul_sub]
            have e3 : (1000 - n) * y.1 = 1000 * y.1 - n * y.1 := by rw [Int.sub_mul]
            have e4 : (1000 - n) * y.2 = 1000 * y.2 - n * y.2 := by rw [Int.sub_mul]
            rw [e1, e2, e3, e4]
            constructor
            · rintro ⟨h1, h2⟩
              exact ⟨by omega, by omega, by simp⟩
            · rintro ⟨h1, h2, _⟩
              exact ⟨by omega, by omega⟩
theorem explB_iff (t : Tab) (l : List Int) (a b : Nat) (n : Int) : explB t l a b n = true ↔ ∀ x ∈ bnds t l a b, x.1 * n ≤ x.2 := by
  unfold explB bnds boundsK
  rw [List.all_eq_true]
  constructor
  · intro h x hx
    rw [List.mem_flatMap] at hx
    obtain ⟨i, hi, hx⟩ := hx
    exact (explAt_iff _ _ _ _ _ _).1 (h i hi) x hx
  · intro h i hi
    exact (explAt_iff _ _ _ _ _ _).2 fun x hx => h x (List.mem_flatMap.2 ⟨i, hi, hx⟩)
/-- What is left of a range of parts are those that explain the readings. -/
theorem tight_expl (t : Tab) (l : List Int) (a b : Nat) (p : Int × Int) (n : Int) : ((tightL (bnds t l a b) p).1 ≤ n ∧ n ≤ (tightL (bnds t l a b) p).2) ↔ ((p.1 ≤ n ∧ n ≤ p.2) ∧ explB t l a b n = true) := by
  rw [tightL_mem, explB_iff]
end Go.Proofs.YthihpggjglghoaaGreatDoor

namespace Go.Proofs.YthihpggjglghoaaGreatDoor

/-- One property of n parts of y, the others of x, and of x alone: may both be read alike? -/
def comB (x y : Int × Int) (er n : Int) : Bool :=
  decide (max (n * y.1 + (1000 - n) * x.1 - 1000 * er) (1000 * x.1 - 1000 * er) ≤ min (n * y.2 + (1000 - n) * x.2 + 1000 * er) (1000 * x.2 + 1000 * er))

theorem mul_sub_one (n x y : Int) : n * y + (1000 - n) * x = n * (y - x) + 1000 * x := by
  rw [Int.sub_mul, Int.mul_sub]; omega
theorem com_found {x y : Int × Int} {er n : Int} (hx : 0 ≤ x.1 ∧ x.1 ≤ x.2) (hy : 0 ≤ y.1 ∧ y.1 ≤ y.2) (he : 0 ≤ er) (hn : 1 ≤ n ∧ n ≤ 1000) : comB x y er n = decide (n < foundV x y er) := by
  unfold comB foundV
  rw [decide_eq_decide]
  have h1 := mul_sub_one n x.1 y.1
  have h2 := mul_sub_one n x.2 y.2
  have h3 : n * y.1 ≤ n * y.2 := Int.mul_le_mul_of_nonneg_left hy.2 (by omega)
  have h4 : (1000 - n) * x.1 ≤ (1000 - n) * x.2 := Int.mul_le_mul_of_nonneg_left hx.2 (by omega)
  have h5 : n * (y.2 - x.2) = -(n * (x.2 - y.2)) := by rw [← Int.mul_neg]; congr 1; omega
  have hg : n * max (y.1 - x.1) (x.2 - y.2) = max (n * (y.1 - x.1)) (n * (x.2 - y.2)) := by
    by_cases hm : y.1 - x.1 ≤ x.2 - y.2
    · rw [Int.max_eq_right hm, Int.max_eq_right (Int.mul_le_mul_of_nonneg_left hm (by omega))]
    · rw [Int.max_eq_left (by omega), Int.max_eq_left (Int.mul_le_mul_of_nonneg_left (by omega) (by omega))]
  generalize max (y.1 - x.1) (x.2 - y.2) = g at *
  generalize n * (y.1 - x.1) = A at *
  generalize n * (x.2 - y.2) = B at *
  generalize n * (y.2 - x.2) = B' at *
  generalize n * y.1 = C at *
  generalize n * y.2 = D at *
  generalize (1000 - n) * x.1 = E at *
  generalize (1000 - n) * x.2 = F at *
  have key : (max (C + E - 1000 * er) (1000 * x.1 - 1000 * er) ≤ min (D + F + 1000 * er) (1000 * x.2 + 1000 * er)) ↔ n * g ≤ 1000 * (x.2 - x.1 + 2 * er) := by
    rw [hg]
    omega
  rw [key]
  by_cases h0 : g ≤ 0
  · rw [if_pos h0]
    have := Int.mul_le_mul_of_nonneg_left h0 (show 0 ≤ n by omega)
    rw [Int.mul_zero] at this
    constructor
    · intro _; omega
    · intro _; omega
  · rw [if_neg h0]
    have := Int.le_ediv_iff_mul_le (a := n) (b := 1000 * (x.2 - x.1 + 2 * er)) (c := g) (by omega)
    rw [← this]
    omega
theorem foundV_pos (x y : Int × Int) (er : Int) (hx : x.1 ≤ x.2) (he : 0 ≤ er) : 1 ≤ foundV x y er := by
  unfold foundV
  split
  · omega
  · have := Int.ediv_nonneg (a := 1000 * (x.2 - x.1 + 2 * er)) (b := max (y.1 - x.1) (x.2 - y.2)) (by omega) (by omega)
    omega
theorem leastK_pos (ps : List Pr) (xa xb : List (Int × Int)) (ha : ∀ r ∈ xa, r.1 ≤ r.2) (hp : ∀ p ∈ ps, 0 ≤ p.er) : ∀ k, 1 ≤ leastK ps xa xb k
  | 0 => by simp [leastK]
  | k + 1 => by
    rw [leastK_succ]
    have h := leastK_pos ps xa xb ha hp k
    have h2 : 1 ≤ foundAt ps xa xb k := by
      unfold foundAt
      split
      · next h1 h2 h3 => exact foundV_pos _ _ _ (ha _ (List.mem_of_getElem? h1)) (hp _ (List.mem_of_getElem? h3))
      · omega
    omega
/-- One property more. -/
theorem com_step {ps : List Pr} {xa xb : List (Int × Int)} {k : Nat} {x y : Int × Int} {p : Pr} {n : Int} (h1 : xa[k]? = some x) (h2 : xb[k]? = some y) (h3 : ps[k]? = some p) (hx : 0 ≤ x.1 ∧ x.1 ≤ x.2) (hy : 0 ≤ y.1 ∧ y.1 ≤ y.2) (he : 0 ≤ p.er) (hn : 1 ≤ n ∧ n ≤ 1000) :
    decide (n < leastK ps xa xb (k + 1)) = (decide (n < leastK ps xa xb k) && comB x y p.er n) := by
  rw [com_found hx hy he hn, leastK_succ, ← Bool.decide_and, decide_eq_decide]
  unfold foundAt
  rw [h1, h2, h3]
  dsimp only
  omega
end Go.Proofs.YthihpggjglghoaaGreatDoor

namespace Go.Proofs.YthihpggjglghoaaGreatDoor

/-- What is found ahead of n, where just L to H hold. -/
def hullS (L H n : Int) : (Int × Int) × Bool := if L ≤ H ∧ L < n then ((L, min H (n - 1)), true) else ((0, 0), false)
theorem hull_start {L H low : Int} (hb : L ≤ H → low ≤ L) : hullS L H low = ((0, 0), false) := by
  unfold hullS
  rw [if_neg]
  rintro ⟨h1, h2⟩
  have := hb h1
  omega
theorem hull_out {L H n : Int} (hp : ¬ (L ≤ n ∧ n ≤ H)) : hullS L H (n + 1) = hullS L H n := by
  unfold hullS
  by_cases h1 : L ≤ H ∧ L < n
  · rw [if_pos h1, if_pos ⟨h1.1, by omega⟩]
    rw [show min H (n + 1 - 1) = min H (n - 1) by omega]
  · rw [if_neg h1, if_neg (by omega)]
theorem hull_first {L H n : Int} (hp : L ≤ n ∧ n ≤ H) (hf : (hullS L H n).2 = false) : (hullS L H n).1 = (0, 0) ∧ hullS L H (n + 1) = ((n, n), true) := by
  unfold hullS at *
  by_cases h1 : L ≤ H ∧ L < n
  · rw [if_pos h1] at hf; cases hf
  · rw [if_neg h1, if_pos (by omega)]
    refine ⟨rfl, ?_⟩
    rw [show L = n by omega, show min H (n + 1 - 1) = n by omega]
theorem hull_more {L H n : Int} (hp : L ≤ n ∧ n ≤ H) (hf : (hullS L H n).2 = true) : hullS L H (n + 1) = (((hullS L H n).1.1, n), true) := by
  unfold hullS at *
  by_cases h1 : L ≤ H ∧ L < n
  · rw [if_pos h1, if_pos (by omega), show min H (n + 1 - 1) = n by omega]
  · rw [if_neg h1] at hf; cases hf
theorem hull_end {L H high : Int} (hb : L ≤ H → H ≤ high) : hullS L H (high + 1) = if L ≤ H then ((L, H), true) else ((0, 0), false) := by
  unfold hullS
  by_cases h1 : L ≤ H
  · have := hb h1
    rw [if_pos ⟨h1, by omega⟩, if_pos h1, show min H (high + 1 - 1) = H by omega]
  · rw [if_neg (by omega), if_neg h1]
/-- What ref.Parts returns. -/
def partsR (t : Tab) (l : List Int) (a b : Nat) (low high : Int) : (Int × Int) × Bool :=
  if (tightL (bnds t l a b) (low, high)).1 ≤ (tightL (bnds t l a b) (low, high)).2 then (tightL (bnds t l a b) (low, high), true) else ((0, 0), false)
theorem tight_in (t : Tab) (l : List Int) (a b : Nat) (low high : Int) : (tightL (bnds t l a b) (low, high)).1 ≤ (tightL (bnds t l a b) (low, high)).2 → low ≤ (tightL (bnds t l a b) (low, high)).1 ∧ (tightL (bnds t l a b) (low, high)).2 ≤ high := by
  intro h
  have h1 := (tight_expl t l a b (low, high) (tightL (bnds t l a b) (low, high)).1).1 ⟨by omega, h⟩
  have h2 := (tight_expl t l a b (low, high) (tightL (bnds t l a b) (low, high)).2).1 ⟨h, by omega⟩
  exact ⟨h1.1.1, h2.1.2⟩
theorem tight_at (t : Tab) (l : List Int) (a b : Nat) {low high n : Int} (hn : low ≤ n ∧ n ≤ high) : explB t l a b n = true ↔ ((tightL (bnds t l a b) (low, high)).1 ≤ n ∧ n ≤ (tightL (bnds t l a b) (low, high)).2) :=
  ⟨fun h => (tight_expl t l a b (low, high) n).2 ⟨hn, h⟩, fun h => ((tight_expl t l a b (low, high) n).1 h).2⟩

/-- One property tells: beyond pure alone. -/
theorem told_found {x y : Int × Int} {er n : Int} (hx : 0 ≤ x.1 ∧ x.1 ≤ x.2) (hy : 0 ≤ y.1 ∧ y.1 ≤ y.2) (he : 0 ≤ er) (hn : 1 ≤ n ∧ n ≤ 1000) :
    (1000 * (x.2 + er) < n * y.1 + (1000 - n) * x.1 - 1000 * er ∨ n * y.2 + (1000 - n) * x.2 + 1000 * er < 1000 * (x.1 - er)) ↔ foundV x y er ≤ n := by
  have h := com_found hx hy he hn
  unfold comB at h
  rw [decide_eq_decide] at h
  have h3 : n * y.1 ≤ n * y.2 := Int.mul_le_mul_of_nonneg_left hy.2 (by omega)
  have h4 : (1000 - n) * x.1 ≤ (1000 - n) * x.2 := Int.mul_le_mul_of_nonneg_left hx.2 (by omega)
  have h5 : foundV x y er ≤ n ↔ ¬ n < foundV x y er := by omega
  rw [h5, ← h]
  generalize n * y.1 = C at *
  generalize n * y.2 = D at *
  generalize (1000 - n) * x.1 = E at *
  generalize (1000 - n) * x.2 = F at *
  omega
/-- The least of the parts ahead of n that are told. -/
theorem least_step {ps : List Pr} {xa xb : List (Int × Int)} {k : Nat} {x y : Int × Int} {p : Pr} (h1 : xa[k]? = some x) (h2 : xb[k]? = some y) (h3 : ps[k]? = some p) (n : Int) : leastK ps xa xb (k + 1) ≤ n ↔ leastK ps xa xb k ≤ n ∨ foundV x y p.er ≤ n := by
  rw [leastK_succ]
  unfold foundAt
  rw [h1, h2, h3]
  dsimp only
  omega
theorem least_mono (ps : List Pr) (xa xb : List (Int × Int)) (k : Nat) : ∀ m, leastK ps xa xb (k + m) ≤ leastK ps xa xb k
  | 0 => Int.le_refl _
  | m + 1 => by
    have := least_mono ps xa xb k m
    rw [show k + (m + 1) = k + m + 1 by omega, leastK_succ]
    omega
end Go.Proofs.YthihpggjglghoaaGreatDoor

namespace Go.Proofs.YthihpggjglghoaaGreatDoor

theorem mem_inner {nk : Nat} {ok : Nat → Nat → Bool} {a : Fin nk} (x : Fin nk × Fin nk) : ∀ m, m ≤ nk → (x ∈ innerF nk ok a m ↔ x.1 = a ∧ x.2.1 < m ∧ a.1 ≤ x.2.1 ∧ ok a.1 x.2.1 = true)
  | 0, _ => by simp [innerF]
  | m + 1, h => by
    rw [innerF, List.mem_append, mem_inner x m (by omega), dif_pos (by omega)]
    have hone : (x ∈ (if a.1 ≤ m ∧ ok a.1 m = true then [(a, (⟨m, by omega⟩ : Fin nk))] else [])) ↔ x.1 = a ∧ x.2.1 = m ∧ a.1 ≤ m ∧ ok a.1 m = true := by
      obtain ⟨x1, x2⟩ := x
      split
      · next hc => simp [hc, Fin.ext_iff]
      · next hc =>
        constructor
        · intro h; cases h
        · rintro ⟨_, _, h1, h2⟩; exact absurd ⟨h1, h2⟩ hc
    rw [hone]
    constructor
    · rintro (⟨h1, h2, h3, h4⟩ | ⟨h1, h2, h3, h4⟩)
      · exact ⟨h1, by omega, h3, h4⟩
      · exact ⟨h1, by omega, by omega, by rw [h2]; exact h4⟩
    · rintro ⟨h1, h2, h3, h4⟩
      by_cases hm : x.2.1 = m
      · right; exact ⟨h1, hm, by omega, by rw [← hm]; exact h4⟩
      · left; exact ⟨h1, by omega, h3, h4⟩
theorem mem_outer {nk : Nat} {ok : Nat → Nat → Bool} (x : Fin nk × Fin nk) : ∀ k, k ≤ nk → (x ∈ outerF nk ok k ↔ x.1.1 < k ∧ x.1.1 ≤ x.2.1 ∧ ok x.1.1 x.2.1 = true)
  | 0, _ => by simp [outerF]
  | k + 1, h => by
    rw [outerF, List.mem_append, mem_outer x k (by omega), dif_pos (by omega), mem_inner x nk (by omega)]
    have hx2 := x.2.2
    constructor
    · rintro (⟨h1, h2, h3⟩ | ⟨h1, h2, h3, h4⟩)
      · exact ⟨by omega, h2, h3⟩
      · rw [h1]
        exact ⟨by simp, h3, h4⟩
    · rintro ⟨h1, h2, h3⟩
      by_cases hk : x.1.1 = k
      · right
        exact ⟨Fin.ext hk, hx2, by show k ≤ _; omega, by show ok k _ = true; rw [← hk]; exact h3⟩
      · left; exact ⟨by omega, h2, h3⟩

theorem pow_bit (k i : Nat) : (2 ^ k).testBit i = decide (k = i) := Nat.testBit_two_pow
theorem pairSet_alone {n : Nat} (x : Fin n × Fin n) (k : Nat) (h : pairSet x = 2 ^ k) : x.1.1 = k ∧ x.2.1 = k := by
  have h1 : ∀ i, (pairSet x).testBit i = decide (k = i) := fun i => by rw [h, pow_bit]
  have h2 : ∀ i, (decide (x.1.1 = i) || decide (x.2.1 = i)) = decide (k = i) := fun i => by
    rw [← h1 i, pairSet, Nat.testBit_or, pow_bit, pow_bit]
  have a := h2 x.1.1
  have b := h2 x.2.1
  simp at a b
  exact ⟨a.symm, b.symm⟩
theorem pairOk_expl (t : Tab) (l : List Int) (k : Nat) : pairOk t l k k = explB t l k k 1000 := by
  rw [Bool.eq_iff_iff]
  have h := fun n => tight_expl t l k k (1000, 1000) n
  unfold pairOk partsV
  rw [if_pos rfl]
  generalize tightL (bnds t l k k) (1000, 1000) = p at *
  constructor
  · intro h1
    have h2 : p.1 ≤ p.2 := by simp at h1; omega
    have h3 := (h p.1).1 ⟨by omega, h2⟩
    have h4 : p.1 = 1000 := by have := h3.1; dsimp only at this; omega
    rw [h4] at h3
    exact h3.2
  · intro h1
    have h3 := (h 1000).2 ⟨⟨by dsimp only; omega, by dsimp only; omega⟩, h1⟩
    simp; omega
theorem alone_set (t : Tab) (l : List Int) (k : Nat) (hk : k < t.ks.length) (h8 : t.ks.length ≤ 8) : decide (((2 ^ k : Nat) : Int) ∈ setsV t l) = explB t l k k 1000 := by
  rw [← pairOk_expl, Bool.eq_iff_iff, decide_eq_true_eq]
  have hlt : 2 ^ k < 256 := Nat.lt_of_le_of_lt (Nat.pow_le_pow_right (by omega) (show k ≤ 7 by omega)) (by decide)
  have h1 : ((2 ^ k : Nat) : Int) ∈ setsV t l ↔ 2 ^ k ∈ setList t l := by
    unfold setsV
    rw [List.mem_map]
    constructor
    · rintro ⟨s, hs, e⟩
      have e2 : s = 2 ^ k := by exact_mod_cast e
      rw [← e2]
      simpa using (List.mem_filter.1 hs).2
    · intro h
      exact ⟨2 ^ k, List.mem_filter.2 ⟨List.mem_range.2 hlt, by simpa using h⟩, rfl⟩
  rw [h1]
  unfold setList
  rw [List.mem_map]
  constructor
  · rintro ⟨x, hx, e⟩
    obtain ⟨e1, e2⟩ := pairSet_alone x k e
    have h := ((mem_outer x _ (Nat.le_refl _)).1 hx).2.2
    rwa [e1, e2] at h
  · intro h
    refine ⟨(⟨k, hk⟩, ⟨k, hk⟩), (mem_outer _ _ (Nat.le_refl _)).2 ⟨hk, Nat.le_refl _, h⟩, ?_⟩
    simp [pairSet]

/-- One reading beside a kind. -/
theorem alone_at {ps : List Pr} {xs : List (Int × Int)} {l : List Int} {i : Nat} {r : Int} {x : Int × Int} {p : Pr} (hr : l[i]? = some r) (hx : xs[i]? = some x) (hp : ps[i]? = some p) :
    explAt ps xs xs l 1000 i = decide (r = -1 ∨ (x.1 - p.er ≤ r ∧ r ≤ x.2 + p.er)) := by
  unfold explAt
  rw [hr, hx, hp]
  dsimp only
  rw [decide_eq_decide]
  omega
end Go.Proofs.YthihpggjglghoaaGreatDoor

namespace Go.Proofs.YthihpggjglghoaaGreatDoor

theorem explAt_sym (ps : List Pr) (xa xb : List (Int × Int)) (l : List Int) (n : Int) (i : Nat) : explAt ps xa xb l n i = explAt ps xb xa l (1000 - n) i := by
  unfold explAt
  cases l[i]? with
  | none => rfl
  | some r =>
    cases xa[i]? with
    | none => cases xb[i]? <;> rfl
    | some x =>
      cases xb[i]? with
      | none => rfl
      | some y =>
        cases ps[i]? with
        | none => rfl
        | some p =>
          dsimp only
          rw [show (1000 : Int) - (1000 - n) = n by omega, Int.add_comm (n * x.1), Int.add_comm (n * x.2)]
theorem explB_sym (t : Tab) (l : List Int) (a b : Nat) (n : Int) : explB t l a b n = explB t l b a (1000 - n) := by
  unfold explB
  congr 1
  funext i
  exact explAt_sym _ _ _ _ _ _

/-- The range of a pair's parts: those that explain. -/
theorem partsV_in (t : Tab) (l : List Int) (a b : Nat) (n : Int) : ((partsV t l a b).1 ≤ n ∧ n ≤ (partsV t l a b).2) ↔ ((if a = b then n = 1000 else 1 ≤ n ∧ n ≤ 999) ∧ explB t l a b n = true) := by
  unfold partsV
  rw [tight_expl]
  by_cases h : a = b
  · rw [if_pos h, if_pos h]
    constructor
    · rintro ⟨⟨h1, h2⟩, h3⟩; exact ⟨by dsimp only at h1 h2; omega, h3⟩
    · rintro ⟨h1, h3⟩; exact ⟨⟨by dsimp only; omega, by dsimp only; omega⟩, h3⟩
  · rw [if_neg h, if_neg h]
theorem pairOk_some {t : Tab} {l : List Int} {a b : Nat} (h : pairOk t l a b = true) : ∃ n : Int, (if a = b then n = 1000 else 1 ≤ n ∧ n ≤ 999) ∧ explB t l a b n = true := by
  unfold pairOk at h
  refine ⟨(partsV t l a b).1, (partsV_in t l a b _).1 ⟨Int.le_refl _, ?_⟩⟩
  simp at h
  exact h
theorem pairOk_of {t : Tab} {l : List Int} {a b : Nat} {n : Int} (hn : if a = b then n = 1000 else 1 ≤ n ∧ n ≤ 999) (h : explB t l a b n = true) : pairOk t l a b = true := by
  have h1 := (partsV_in t l a b n).2 ⟨hn, h⟩
  unfold pairOk
  simp
  omega
theorem partsR_true {t : Tab} {l : List Int} {a b : Nat} {low high n : Int} (hn : low ≤ n ∧ n ≤ high) (h : explB t l a b n = true) : (partsR t l a b low high).2 = true := by
  have h1 := (tight_at t l a b hn).1 h
  unfold partsR
  rw [if_pos (by omega)]

/-- An end is reached: with this kind in it, or without. -/
def endM (t : Tab) (l : List Int) (a : Nat) (e : Int) (j m : Nat) : Bool := (partsR t l j m 0 1000).2 && (decide (j ≠ a) && decide (m ≠ a)) && decide (e = 0)
def endA (t : Tab) (l : List Int) (a : Nat) (e : Int) (j : Nat) : Bool := decide (j ≠ a ∨ e = 1000) && explB t l a j e
def endT (t : Tab) (l : List Int) (a : Nat) (e : Int) (j : Nat) : Bool := endA t l a e j || (List.range t.ks.length).any (endM t l a e j)
def endK (t : Tab) (l : List Int) (a : Nat) (e : Int) (k : Nat) : Bool := (List.range k).any (endT t l a e)
/-- .. after the first m of the others. -/
def endI (t : Tab) (l : List Int) (a : Nat) (e : Int) (k m : Nat) : Bool := endK t l a e k || endA t l a e k || (List.range m).any (endM t l a e k)
theorem endI_zero (t : Tab) (l : List Int) (a : Nat) (e : Int) (k : Nat) : endI t l a e k 0 = (endK t l a e k || endA t l a e k) := by simp [endI]
theorem endI_succ (t : Tab) (l : List Int) (a : Nat) (e : Int) (k m : Nat) : endI t l a e k (m + 1) = (endI t l a e k m || endM t l a e k m) := by
  unfold endI
  rw [List.range_succ, List.any_append]
  simp [Bool.or_assoc]
theorem endI_end (t : Tab) (l : List Int) (a : Nat) (e : Int) (k : Nat) : endI t l a e k t.ks.length = endK t l a e (k + 1) := by
  unfold endI endK
  rw [List.range_succ, List.any_append]
  simp [endT, Bool.or_assoc]

/-- What a pair says of a kind. -/
def ofP (t : Tab) (l : List Int) (kind : Nat) (x : Fin t.ks.length × Fin t.ks.length) : Int × Int := if kind = x.1.1 then partsV t l x.1.1 x.2.1 else if kind = x.2.1 then partsV t l x.2.1 x.1.1 else (0, 0)
theorem ofStep_eq (t : Tab) (l : List Int) (kind : Nat) (all : Int × Int) (x : Fin t.ks.length × Fin t.ks.length) : ofStep t l kind all x = (min all.1 (ofP t l kind x).1, max all.2 (ofP t l kind x).2) := rfl
theorem fold_ends (t : Tab) (l : List Int) (kind : Nat) (xs : List (Fin t.ks.length × Fin t.ks.length)) : ∀ (acc : Int × Int),
    ((xs.foldl (ofStep t l kind) acc).1 = acc.1 ∨ ∃ x ∈ xs, (xs.foldl (ofStep t l kind) acc).1 = (ofP t l kind x).1) ∧ ((xs.foldl (ofStep t l kind) acc).2 = acc.2 ∨ ∃ x ∈ xs, (xs.foldl (ofStep t l kind) acc).2 = (ofP t l kind x).2) ∧
    ((xs.foldl (ofStep t l kind) acc).1 ≤ acc.1 ∧ acc.2 ≤ (xs.foldl (ofStep t l kind) acc).2) ∧ ∀ x ∈ xs, (xs.foldl (ofStep t l kind) acc).1 ≤ (ofP t l kind x).1 ∧ (ofP t l kind x).2 ≤ (xs.foldl (ofStep t l kind) acc).2 := by
  induction xs with
  | nil => intro acc; exact ⟨.inl rfl, .inl rfl, ⟨Int.le_refl _, Int.le_refl _⟩, fun x hx => by cases hx⟩
  | cons y ys ih =>
    intro acc
    rw [List.foldl_cons]
    have h := ih (ofStep t l kind acc y)
    have h1 : (ofStep t l kind acc y).1 = min acc.1 (ofP t l kind y).1 := rfl
    have h2 : (ofStep t l kind acc y).2 = max acc.2 (ofP t l kind y).2 := rfl
    generalize ofStep t l kind acc y = z at *
    generalize ys.foldl (ofStep t l kind) z = r at *
    obtain ⟨a1, a2, a3, a4⟩ := h
    replace a1 := Lib.hid a1
    replace a2 := Lib.hid a2
    refine ⟨?_, ?_, ⟨by omega, by omega⟩, ?_⟩
    · rcases a1.out with a1 | ⟨x, hx, e⟩
      · by_cases hc : acc.1 ≤ (ofP t l kind y).1
        · exact .inl (by omega)
        · exact .inr ⟨y, by simp, by omega⟩
      · exact .inr ⟨x, by simp [hx], e⟩
    · rcases a2.out with a2 | ⟨x, hx, e⟩
      · by_cases hc : (ofP t l kind y).2 ≤ acc.2
        · exact .inl (by omega)
        · exact .inr ⟨y, by simp, by omega⟩
      · exact .inr ⟨x, by simp [hx], e⟩
    · intro x hx
      rcases List.mem_cons.1 hx with rfl | hx
      · omega
      · exact a4 x hx
/-- A pair's range is not empty, and all of it is reached. -/
theorem ofP_mem {t : Tab} {l : List Int} {a : Nat} {x : Fin t.ks.length × Fin t.ks.length} (hx : x ∈ outerF t.ks.length (pairOk t l) t.ks.length) :
    0 ≤ (ofP t l a x).1 ∧ (ofP t l a x).1 ≤ (ofP t l a x).2 ∧ (ofP t l a x).2 ≤ 1000 ∧ ∀ e, (ofP t l a x).1 ≤ e → e ≤ (ofP t l a x).2 → endK t l a e t.ks.length = true := by
  have hok := ((mem_outer x _ (Nat.le_refl _)).1 hx).2.2
  obtain ⟨n, hn, he⟩ := pairOk_some hok
  have hk : ∀ (e : Int) (j : Fin t.ks.length), endT t l a e j.1 = true → endK t l a e t.ks.length = true := fun e j h => List.any_eq_true.2 ⟨j.1, List.mem_range.2 j.2, h⟩
  have key : ∀ (j : Fin t.ks.length) (m : Int), (if a = j.1 then m = 1000 else 1 ≤ m ∧ m ≤ 999) → explB t l a j.1 m = true →
      0 ≤ (partsV t l a j.1).1 ∧ (partsV t l a j.1).1 ≤ (partsV t l a j.1).2 ∧ (partsV t l a j.1).2 ≤ 1000 ∧ ∀ e, (partsV t l a j.1).1 ≤ e → e ≤ (partsV t l a j.1).2 → endK t l a e t.ks.length = true := by
    intro j m hm hE
    have h1 := (partsV_in t l a j.1 m).2 ⟨hm, hE⟩
    have h2 := (partsV_in t l a j.1 (partsV t l a j.1).1).1 ⟨Int.le_refl _, by omega⟩
    have h3 := (partsV_in t l a j.1 (partsV t l a j.1).2).1 ⟨by omega, Int.le_refl _⟩
    refine ⟨?_, by omega, ?_, fun e e1 e2 => ?_⟩
    · have := h2.1
      split at this <;> omega
    · have := h3.1
      split at this <;> omega
    · have h4 := (partsV_in t l a j.1 e).1 ⟨e1, e2⟩
      refine hk e j ?_
      unfold endT endA
      rw [h4.2, Bool.and_true, Bool.or_eq_true]
      left
      refine decide_eq_true ?_
      by_cases hj : a = j.1
      · rw [if_pos hj] at h4; exact .inr h4.1
      · exact .inl fun e => hj e.symm
  unfold ofP
  by_cases h1 : a = x.1.1
  · rw [if_pos h1]
    have h := key x.2 n (by rw [h1]; exact hn) (by rw [h1]; exact he)
    rw [← h1]
    exact h
  · rw [if_neg h1]
    by_cases h2 : a = x.2.1
    · rw [if_pos h2, ← h2]
      refine key x.1 (1000 - n) ?_ ?_
      · rw [if_neg h1]
        rw [if_neg (fun e => h1 (h2.trans e.symm))] at hn
        omega
      · rw [h2, ← explB_sym]; exact he
    · rw [if_neg h2]
      refine ⟨Int.le_refl _, Int.le_refl _, by decide, fun e e1 e2 => hk e x.1 ?_⟩
      have e0 : e = 0 := by dsimp only at e1 e2; omega
      unfold endT
      rw [Bool.or_eq_true]
      right
      refine List.any_eq_true.2 ⟨x.2.1, List.mem_range.2 x.2.2, ?_⟩
      unfold endM
      have q1 := partsR_true (t := t) (l := l) (a := x.1.1) (b := x.2.1) (low := 0) (high := 1000) (n := n) (by split at hn <;> omega) he
      have q2 : ¬ x.1.1 = a := fun e => h1 e.symm
      have q3 : ¬ x.2.1 = a := fun e => h2 e.symm
      rw [q1]
      simp [q2, q3, e0]
/-- **The ends of Sold are reached.** -/
theorem sold_ends {t : Tab} {l : List Int} {a : Nat} (h : ¬ (partsOfV t l a).2 < (partsOfV t l a).1) :
    0 ≤ (partsOfV t l a).1 ∧ (partsOfV t l a).1 ≤ (partsOfV t l a).2 ∧ (partsOfV t l a).2 ≤ 1000 ∧ endK t l a (partsOfV t l a).1 t.ks.length = true ∧ endK t l a (partsOfV t l a).2 t.ks.length = true := by
  have hf := fold_ends t l a (outerF t.ks.length (pairOk t l) t.ks.length) (1000, -1)
  have hm := fun x => ofP_mem (t := t) (l := l) (a := a) (x := x)
  unfold partsOfV at *
  generalize outerF t.ks.length (pairOk t l) t.ks.length = xs at *
  generalize hr : xs.foldl (ofStep t l a) (1000, -1) = r at *
  obtain ⟨a1, a2, a3, a4⟩ := hf
  dsimp only at a1 a2 a3
  replace a1 := Lib.hid a1
  replace a2 := Lib.hid a2
  cases xs with
  | nil =>
    subst hr
    exact absurd (show (-1 : Int) < 1000 by decide) h
  | cons y ys =>
    have b1 := hm y (by simp)
    have b2 := a4 y (by simp)
    obtain ⟨x, hx, ex⟩ : ∃ x ∈ y :: ys, r.1 = (ofP t l a x).1 := by
      rcases a1.out with a1 | a1
      · exact ⟨y, by simp, by omega⟩
      · exact a1
    obtain ⟨z, hz, ez⟩ : ∃ x ∈ y :: ys, r.2 = (ofP t l a x).2 := by
      rcases a2.out with a2 | a2
      · omega
      · exact a2
    have c1 := hm x hx
    have c2 := hm z hz
    exact ⟨by omega, by omega, by omega, c1.2.2.2 _ (by omega) (by omega), c2.2.2.2 _ (by omega) (by omega)⟩
/-- **All between the ends of Mixed are reached.** -/
theorem mixed_ends {t : Tab} {l : List Int} {a b : Nat} (h0 : lookErr t l = 0) (ha : a < t.ks.length) (hb : b < t.ks.length) (hab : a ≠ b) :
    mixedV t l a b = ((0, 0), 9) ∨ ((mixedV t l a b).2 = 0 ∧ 0 ≤ (mixedV t l a b).1.1 ∧ (mixedV t l a b).1.1 ≤ (mixedV t l a b).1.2 ∧ (mixedV t l a b).1.2 ≤ 1000 ∧ ∀ n, (mixedV t l a b).1.1 ≤ n → n ≤ (mixedV t l a b).1.2 → explB t l a b n = true) := by
  have hd : differV t.ks.length a b = 0 := by
    unfold differV
    rw [if_pos ⟨⟨by omega, by omega⟩, ⟨by omega, by omega⟩⟩, if_neg (by omega)]
  have hm : mixedV t l a b = if (tightL (bnds t l a b) (0, 1000)).2 < (tightL (bnds t l a b) (0, 1000)).1 then ((0, 0), 9) else (tightL (bnds t l a b) (0, 1000), 0) := by
    unfold mixedV
    rw [if_neg (by simpa using h0), if_neg (by simpa using hd)]
    rfl
  have ht := tight_in t l a b 0 1000
  have hn := fun n => tight_expl t l a b (0, 1000) n
  generalize tightL (bnds t l a b) (0, 1000) = p at *
  by_cases hc : p.2 < p.1
  · rw [if_pos hc] at hm
    exact .inl hm
  · rw [if_neg hc] at hm
    rw [hm]
    have h1 := ht (by omega)
    exact .inr ⟨rfl, h1.1, by show p.1 ≤ p.2; omega, h1.2, fun n n1 n2 => ((hn n).1 ⟨n1, n2⟩).2⟩
end Go.Proofs.YthihpggjglghoaaGreatDoor

namespace Go.Proofs.YthihpggjglghoaaGreatDoor

/-- A mixture, and readings that it explains. -/
structure Melted (t : Tab) (l : List Int) (a b : Nat) (n : Int) : Prop where
  la : a < t.ks.length
  lb : b < t.ks.length
  ln : 1 ≤ n ∧ n ≤ 1000
  one : a = b → n = 1000
  look : lookErr t l = 0
  ex : explB t l a b n = true

theorem look_zero {t : Tab} {l : List Int} (h : (checkT t).2.2 = 0) (hl : l.length = t.ps.length) (hr : ∀ r ∈ l, r = -1 ∨ 0 ≤ r ∧ r ≤ 100000) : lookErr t l = 0 := by
  unfold lookErr readsErr
  rw [if_neg (by simpa using h), if_neg (by simp [hl]), if_neg]
  intro h
  obtain ⟨r, hm, hd⟩ := List.any_eq_true.1 h
  have hd := of_decide_eq_true hd
  rcases hr r hm with h3 | h3
  · exact hd.1 h3
  · exact hd.2 h3
/-- With 1000 parts of a nothing else counts. -/
theorem expl_all {t : Tab} {l : List Int} {a b : Nat} (hV : Valid t) (hl : l.length = t.ps.length) (ha : a < t.ks.length) (hb : b < t.ks.length) (h : explB t l a b 1000 = true) : explB t l a a 1000 = true := by
  obtain ⟨xa, hxa⟩ : ∃ x, t.ks[a]? = some x := ⟨t.ks[a], List.getElem?_eq_getElem ha⟩
  obtain ⟨xb, hxb⟩ : ∃ x, t.ks[b]? = some x := ⟨t.ks[b], List.getElem?_eq_getElem hb⟩
  have l1 := hV.rl xa (List.mem_of_getElem? hxa)
  have l2 := hV.rl xb (List.mem_of_getElem? hxb)
  unfold explB at *
  rw [hxa, hxb] at h
  rw [hxa]
  rw [List.all_eq_true] at *
  intro i hi
  have hi2 := List.mem_range.1 hi
  have h1 := h i hi
  obtain ⟨r, hr⟩ : ∃ x, l[i]? = some x := ⟨l[i], List.getElem?_eq_getElem hi2⟩
  obtain ⟨x, hx⟩ : ∃ x, xa.rs[i]? = some x := ⟨xa.rs[i]'(by omega), List.getElem?_eq_getElem _⟩
  obtain ⟨y, hy⟩ : ∃ x, xb.rs[i]? = some x := ⟨xb.rs[i]'(by omega), List.getElem?_eq_getElem _⟩
  obtain ⟨p, hp⟩ : ∃ x, t.ps[i]? = some x := ⟨t.ps[i]'(by omega), List.getElem?_eq_getElem _⟩
  simp only [Option.map_some, Option.getD_some] at h1 ⊢
  unfold explAt at *
  rw [hr, hx, hy, hp] at h1
  rw [hr, hx, hp]
  simp only [decide_eq_true_eq] at h1 ⊢
  omega
/-- The pair that it is. -/
theorem melt_pair {t : Tab} {l : List Int} {a b : Nat} {n : Int} (h : Melted t l a b n) :
    ∃ x ∈ outerF t.ks.length (pairOk t l) t.ks.length, (n < 1000 ∧ a ≠ b ∧ (x.1.1 = a ∧ x.2.1 = b ∨ x.1.1 = b ∧ x.2.1 = a)) ∨ (n = 1000 ∧ x.1.1 = a ∧ x.2.1 = a) := by
  have hV := valid_of (lookErr_ok h.look).1
  have hl := reads_len (lookErr_ok h.look).2
  have hn := h.ln
  by_cases h1 : n = 1000
  · subst h1
    have he := expl_all hV (by omega) h.la h.lb h.ex
    exact ⟨(⟨a, h.la⟩, ⟨a, h.la⟩), (mem_outer _ _ (Nat.le_refl _)).2 ⟨h.la, Nat.le_refl _, pairOk_of (n := 1000) (by rw [if_pos rfl]) he⟩, .inr ⟨rfl, rfl, rfl⟩⟩
  · have hab : a ≠ b := fun e => h1 (h.one e)
    by_cases hlt : a ≤ b
    · exact ⟨(⟨a, h.la⟩, ⟨b, h.lb⟩), (mem_outer _ _ (Nat.le_refl _)).2 ⟨h.la, hlt, pairOk_of (n := n) (by rw [if_neg hab]; omega) h.ex⟩, .inl ⟨by omega, hab, .inl ⟨rfl, rfl⟩⟩⟩
    · exact ⟨(⟨b, h.lb⟩, ⟨a, h.la⟩), (mem_outer _ _ (Nat.le_refl _)).2 ⟨h.lb, by show b ≤ a; omega, pairOk_of (n := 1000 - n) (by rw [if_neg (fun e => hab e.symm)]; omega) (by rw [← explB_sym]; exact h.ex)⟩, .inl ⟨by omega, hab, .inr ⟨rfl, rfl⟩⟩⟩
theorem or_add : ∀ a b : Fin 8, a ≠ b → 2 ^ a.1 ||| 2 ^ b.1 = 2 ^ a.1 + 2 ^ b.1 := by decide +kernel
theorem mem_setsV {t : Tab} {l : List Int} {s : Nat} (hs : s < 256) : ((s : Nat) : Int) ∈ setsV t l ↔ s ∈ setList t l := by
  unfold setsV
  rw [List.mem_map]
  constructor
  · rintro ⟨s', hs', e⟩
    have e2 : s' = s := by exact_mod_cast e
    rw [← e2]
    simpa using (List.mem_filter.1 hs').2
  · intro h
    exact ⟨s, List.mem_filter.2 ⟨List.mem_range.2 hs, by simpa using h⟩, rfl⟩
/-- Its set, as a number. -/
def meltSet (a b : Nat) (n : Int) : Nat := if n < 1000 then 2 ^ a + 2 ^ b else 2 ^ a
theorem pow_add_lt {a b : Nat} (ha : a < 8) (hb : b < 8) (h : a ≠ b) : 2 ^ a + 2 ^ b < 256 := by
  rw [← or_add ⟨a, ha⟩ ⟨b, hb⟩ (fun e => h (by simpa using e))]
  exact Nat.or_lt_two_pow (n := 8) (Nat.pow_lt_pow_right (by omega) ha) (Nat.pow_lt_pow_right (by omega) hb)
theorem melt_set {t : Tab} {l : List Int} {a b : Nat} {n : Int} (h : Melted t l a b n) : ((meltSet a b n : Nat) : Int) ∈ setsV t l := by
  have hV := valid_of (lookErr_ok h.look).1
  have h8 := hV.nk.2
  have ha := h.la
  have hb := h.lb
  obtain ⟨x, hx, hc⟩ := melt_pair h
  have hps : pairSet x = meltSet a b n := by
    unfold pairSet meltSet
    rcases hc with ⟨h1, hab, ⟨e1, e2⟩ | ⟨e1, e2⟩⟩ | ⟨h1, e1, e2⟩
    · rw [if_pos h1, e1, e2]
      exact or_add ⟨a, by omega⟩ ⟨b, by omega⟩ (fun e => hab (by simpa using e))
    · rw [if_pos h1, e1, e2, Nat.or_comm]
      exact or_add ⟨a, by omega⟩ ⟨b, by omega⟩ (fun e => hab (by simpa using e))
    · rw [if_neg (by omega), e1, e2, Nat.or_self]
  have hlt : meltSet a b n < 256 := by
    rw [← hps]
    exact pairSet_lt x h8
  rw [mem_setsV hlt, ← hps]
  exact List.mem_map.2 ⟨x, hx, rfl⟩
theorem melt_mixed {t : Tab} {l : List Int} {a b : Nat} {n : Int} (h : Melted t l a b n) (hab : a ≠ b) : (mixedV t l a b).2 = 0 ∧ (mixedV t l a b).1.1 ≤ n ∧ n ≤ (mixedV t l a b).1.2 := by
  have ha := h.la
  have hb := h.lb
  have hd : differV t.ks.length a b = 0 := by
    unfold differV
    rw [if_pos ⟨⟨by omega, by omega⟩, ⟨by omega, by omega⟩⟩, if_neg (by omega)]
  have hm : mixedV t l a b = if (tightL (bnds t l a b) (0, 1000)).2 < (tightL (bnds t l a b) (0, 1000)).1 then ((0, 0), 9) else (tightL (bnds t l a b) (0, 1000), 0) := by
    unfold mixedV
    rw [if_neg (by simpa using h.look), if_neg (by simpa using hd)]
    rfl
  have hn := (tight_expl t l a b (0, 1000) n).2 ⟨⟨by have := h.ln; dsimp only; omega, h.ln.2⟩, h.ex⟩
  rw [hm, if_neg (by omega)]
  exact ⟨rfl, hn.1, hn.2⟩
/-- How many parts of kind k it has. -/
def meltHas (a b : Nat) (n : Int) (k : Nat) : Int := if k = a then n else if k = b then 1000 - n else 0
theorem melt_sold {t : Tab} {l : List Int} {a b : Nat} {n : Int} (h : Melted t l a b n) (k : Nat) : (partsOfV t l k).1 ≤ meltHas a b n k ∧ meltHas a b n k ≤ (partsOfV t l k).2 := by
  obtain ⟨x, hx, hc⟩ := melt_pair h
  have hf := (fold_ends t l k (outerF t.ks.length (pairOk t l) t.ks.length) (1000, -1)).2.2.2 x hx
  have hn := h.ln
  have key : (ofP t l k x).1 ≤ meltHas a b n k ∧ meltHas a b n k ≤ (ofP t l k x).2 := by
    unfold ofP meltHas
    rcases hc with ⟨h1, hab, ⟨e1, e2⟩ | ⟨e1, e2⟩⟩ | ⟨h1, e1, e2⟩
    · rw [e1, e2]
      by_cases hk : k = a
      · rw [if_pos hk, if_pos hk]
        exact (partsV_in t l a b n).2 ⟨by rw [if_neg hab]; omega, h.ex⟩
      · rw [if_neg hk, if_neg hk]
        by_cases hk2 : k = b
        · rw [if_pos hk2, if_pos hk2]
          exact (partsV_in t l b a (1000 - n)).2 ⟨by rw [if_neg (fun e => hab e.symm)]; omega, by rw [← explB_sym]; exact h.ex⟩
        · rw [if_neg hk2, if_neg hk2]; exact ⟨Int.le_refl _, Int.le_refl _⟩
    · rw [e1, e2]
      by_cases hk : k = a
      · rw [if_neg (fun e => hab (hk.symm.trans e)), if_pos hk, if_pos hk]
        exact (partsV_in t l a b n).2 ⟨by rw [if_neg hab]; omega, h.ex⟩
      · by_cases hk2 : k = b
        · rw [if_pos hk2, if_neg hk, if_pos hk2]
          exact (partsV_in t l b a (1000 - n)).2 ⟨by rw [if_neg (fun e => hab e.symm)]; omega, by rw [← explB_sym]; exact h.ex⟩
        · rw [if_neg hk2, if_neg hk, if_neg hk, if_neg hk2]; exact ⟨Int.le_refl _, Int.le_refl _⟩
    · rw [e1, e2]
      have hV := valid_of (lookErr_ok h.look).1
      have hl := reads_len (lookErr_ok h.look).2
      by_cases hk : k = a
      · rw [if_pos hk, if_pos hk]
        refine (partsV_in t l a a n).2 ⟨by rw [if_pos rfl]; exact h1, ?_⟩
        have he := h.ex
        rw [h1] at he ⊢
        exact expl_all hV (by omega) h.la h.lb he
      · rw [if_neg hk, if_neg hk, if_neg hk]
        split
        · subst h1; exact ⟨by decide, by decide⟩
        · exact ⟨Int.le_refl _, Int.le_refl _⟩
  unfold partsOfV
  omega
/-- What Sold says of kind k: its range, and its judgement, are true. -/
theorem melt_judge {t : Tab} {l : List Int} {a b : Nat} {n : Int} (h : Melted t l a b n) (k : Nat) (hk : k < t.ks.length) :
    (soldV t l k).2.2 = 0 ∧ (soldV t l k).1.1 ≤ meltHas a b n k ∧ meltHas a b n k ≤ (soldV t l k).1.2 ∧ ¬ (meltHas a b n k < t.pu ∧ (soldV t l k).2.1 = 1) ∧ ¬ (t.pu ≤ meltHas a b n k ∧ (soldV t l k).2.1 = 0) := by
  have hs := melt_sold h k
  have he : soldV t l k = (partsOfV t l k, judgeV (partsOfV t l k).1 (partsOfV t l k).2 t.pu, 0) := by
    unfold soldV
    rw [if_neg (by simpa using h.look), if_neg (by omega), Int.toNat_natCast, if_neg (by omega)]
  rw [he]
  refine ⟨rfl, hs.1, hs.2, ?_, ?_⟩
  · rintro ⟨h1, h2⟩
    dsimp only at h2
    unfold judgeV at h2
    by_cases c1 : t.pu ≤ (partsOfV t l k).1
    · omega
    · rw [if_neg c1] at h2
      split at h2 <;> omega
  · rintro ⟨h1, h2⟩
    dsimp only at h2
    unfold judgeV at h2
    by_cases c1 : t.pu ≤ (partsOfV t l k).1
    · rw [if_pos c1] at h2; omega
    · rw [if_neg c1] at h2
      by_cases c2 : (partsOfV t l k).2 < t.pu
      · omega
      · rw [if_neg c2] at h2; omega
theorem mem_kinF (m : Nat) (z : Int) : ∀ k, z ∈ kinF m k ↔ ∃ j : Nat, j < k ∧ z = j ∧ m.testBit j = true
  | 0 => by simp [kinF]
  | k + 1 => by
    rw [kinF, List.mem_append, mem_kinF m z k]
    constructor
    · rintro (⟨j, h1, h2, h3⟩ | h)
      · exact ⟨j, by omega, h2, h3⟩
      · split at h
        · next hc => exact ⟨k, by omega, by simpa using h, hc⟩
        · cases h
    · rintro ⟨j, h1, h2, h3⟩
      by_cases hj : j = k
      · right; subst hj; rw [if_pos h3]; simpa using h2
      · left; exact ⟨j, by omega, h2, h3⟩
/-- What Within says is true. -/
theorem melt_within {t : Tab} {l : List Int} {a b : Nat} {n : Int} (h : Melted t l a b n) :
    (withinV t l).2 = 0 ∧ (a : Int) ∈ (withinV t l).1.2 ∧ (n < 1000 → (b : Int) ∈ (withinV t l).1.2) ∧ ∀ z ∈ (withinV t l).1.1, (z = a ∨ (z = b ∧ n < 1000)) ∧ z ∈ (withinV t l).1.2 := by
  have hV := valid_of (lookErr_ok h.look).1
  have h8 := hV.nk.2
  have ha := h.la
  have hb := h.lb
  obtain ⟨x, hx, hc⟩ := melt_pair h
  have hxs : pairSet x ∈ setList t l := List.mem_map.2 ⟨x, hx, rfl⟩
  have hw : withinV t l = ((kinV (andV t.ks.length (setList t l)), kinV (orV (setList t l))), 0) := by
    unfold withinV
    rw [if_neg (by simpa using h.look), if_neg (fun e => by rw [e] at hxs; cases hxs)]
  have hbit : ∀ i, (pairSet x).testBit i = true ↔ (i = a ∨ (i = b ∧ n < 1000)) := by
    intro i
    unfold pairSet
    rw [Nat.testBit_or, pow_bit, pow_bit, Bool.or_eq_true, decide_eq_true_eq, decide_eq_true_eq]
    rcases hc with ⟨h1, hab, ⟨e1, e2⟩ | ⟨e1, e2⟩⟩ | ⟨h1, e1, e2⟩ <;> rw [e1, e2] <;> omega
  have hor : ∀ i : Nat, i < 8 → (pairSet x).testBit i = true → (i : Int) ∈ kinV (orV (setList t l)) := fun i hi hb => (mem_kinF _ _ 8).2 ⟨i, hi, rfl, (orV_bit _ _).2 ⟨_, hxs, hb⟩⟩
  rw [hw]
  refine ⟨rfl, hor a (by omega) ((hbit a).2 (.inl rfl)), fun h1 => hor b (by omega) ((hbit b).2 (.inr ⟨rfl, h1⟩)), ?_⟩
  intro z hz
  obtain ⟨j, hj, rfl, hj2⟩ := (mem_kinF _ _ 8).1 (show z ∈ kinF _ 8 from hz)
  have hj3 := ((andV_bit _ _ _).1 hj2).2 _ hxs
  refine ⟨?_, hor j hj hj3⟩
  rcases (hbit j).1 hj3 with e | ⟨e, h1⟩
  · exact .inl (by rw [e])
  · exact .inr ⟨by rw [e], h1⟩
end Go.Proofs.YthihpggjglghoaaGreatDoor

namespace Go.Proofs.YthihpggjglghoaaGreatDoor

theorem first_ne {f : Nat → Int} {n : Nat} {x : Nat × Int} (h : firstAt f n = some x) : x.2 ≠ 0 := by
  unfold firstAt at h
  obtain ⟨i, hi, rfl⟩ := Option.map_eq_some_iff.1 h
  have := List.find?_some hi
  simpa using this
theorem firstAt_all {f : Nat → Int} {n : Nat} (h : firstAt f n = none) : ∀ i, i < n → f i = 0 := by
  unfold firstAt at h
  rw [Option.map_eq_none_iff, List.find?_eq_none] at h
  intro i hi
  simpa using h i (List.mem_range.2 hi)
theorem check_zero {t : Tab} : (checkT t).2.2 = 0 ↔ countsErr t = 0 ∧ (∀ i, i < t.ps.length → propErr t.ps i = 0) ∧ ∀ i, i < t.ks.length → kindErr t.ks t.ps.length i = 0 := by
  rw [checkT_eq]
  constructor
  · intro h
    by_cases h1 : countsErr t = 0
    · rw [h1] at h
      cases hp : firstAt (propErr t.ps) t.ps.length with
      | some x => rw [hp, checkOf_2] at h; exact absurd h (first_ne hp)
      | none =>
        cases hk : firstAt (kindErr t.ks t.ps.length) t.ks.length with
        | some x => rw [hp, hk, checkOf_3] at h; exact absurd h (first_ne hk)
        | none => exact ⟨h1, firstAt_all hp, firstAt_all hk⟩
    · rw [checkOf_1 _ _ _ h1] at h; exact absurd h h1
  · rintro ⟨h1, h2, h3⟩
    rw [h1, firstAt_none h2, firstAt_none h3, checkOf_4]
theorem propErr_zero {l : List Pr} {i : Nat} {p : Pr} (hp : l[i]? = some p) : propErr l i = 0 ↔ nameErr ((l.map Pr.nm).take i) p.nm = 0 ∧ 0 ≤ p.er ∧ p.er ≤ 10000 := by
  unfold propErr
  rw [hp, ← List.map_take]
  dsimp only
  by_cases h1 : nameErr ((l.take i).map Pr.nm) p.nm = 0
  · rw [if_neg (by simpa using h1)]
    by_cases h2 : 0 ≤ p.er ∧ p.er ≤ 10000
    · rw [if_pos h2]; exact ⟨fun _ => ⟨h1, h2⟩, fun _ => rfl⟩
    · rw [if_neg h2]; exact ⟨fun h => (by cases h), fun h => absurd h.2 h2⟩
  · rw [if_pos h1]; exact ⟨fun h => absurd h h1, fun h => absurd h.1 h1⟩
theorem ranges_zero {rs : List (Int × Int)} {np : Int} : rangesErr rs np = 0 ↔ (rs.length : Int) = np ∧ ∀ r ∈ rs, 0 ≤ r.1 ∧ r.1 ≤ r.2 ∧ r.2 ≤ 100000 := by
  unfold rangesErr
  by_cases h1 : (rs.length : Int) = np
  · rw [if_neg (by simpa using h1)]
    by_cases h2 : rs.any beyondB = true
    · rw [if_pos h2]
      refine ⟨fun h => (by cases h), fun h => ?_⟩
      obtain ⟨r, hr, hb⟩ := List.any_eq_true.1 h2
      have := h.2 r hr
      simp [beyondB] at hb
      omega
    · rw [if_neg h2]
      by_cases h3 : rs.any emptyB = true
      · rw [if_pos h3]
        refine ⟨fun h => (by cases h), fun h => ?_⟩
        obtain ⟨r, hr, hb⟩ := List.any_eq_true.1 h3
        have := h.2 r hr
        simp [emptyB] at hb
        omega
      · rw [if_neg h3]
        refine ⟨fun _ => ⟨h1, fun r hr => ?_⟩, fun _ => rfl⟩
        have a := fun e => h2 (List.any_eq_true.2 ⟨r, hr, e⟩)
        have b := fun e => h3 (List.any_eq_true.2 ⟨r, hr, e⟩)
        simp [beyondB] at a
        simp [emptyB] at b
        omega
  · rw [if_pos h1]; exact ⟨fun h => (by cases h), fun h => absurd h.1 h1⟩
theorem kindErr_zero {l : List Kd} {np : Int} {i : Nat} {k : Kd} (hk : l[i]? = some k) : kindErr l np i = 0 ↔ nameErr ((l.map Kd.nm).take i) k.nm = 0 ∧ rangesErr k.rs np = 0 := by
  unfold kindErr
  rw [hk, ← List.map_take]
  dsimp only
  by_cases h1 : nameErr ((l.take i).map Kd.nm) k.nm = 0
  · rw [if_neg (by simpa using h1)]; exact ⟨fun h => ⟨h1, h⟩, fun h => h.2⟩
  · rw [if_pos h1]; exact ⟨fun h => absurd h h1, fun h => absurd h.1 h1⟩

/-- A table with the same names, smaller Errors, and narrower ranges. -/
structure Finer (s t : Tab) : Prop where
  np : s.ps.length = t.ps.length
  nk : s.ks.length = t.ks.length
  pu : s.pu = t.pu
  er : ∀ (i : Nat) (p q : Pr), t.ps[i]? = some p → s.ps[i]? = some q → q.nm = p.nm ∧ 0 ≤ q.er ∧ q.er ≤ p.er
  kn : ∀ (i : Nat) (x y : Kd), t.ks[i]? = some x → s.ks[i]? = some y → y.nm = x.nm ∧ y.rs.length = x.rs.length
  rs : ∀ (i : Nat) (x y : Kd), t.ks[i]? = some x → s.ks[i]? = some y → ∀ (j : Nat) (r q : Int × Int), x.rs[j]? = some r → y.rs[j]? = some q → r.1 ≤ q.1 ∧ q.1 ≤ q.2 ∧ q.2 ≤ r.2
theorem names_same {α β : Type} {f : α → β} {l m : List α} (h : l.length = m.length) (e : ∀ (i : Nat) (p q : α), m[i]? = some p → l[i]? = some q → f q = f p) : l.map f = m.map f := by
  apply List.ext_getElem?
  intro i
  rw [List.getElem?_map, List.getElem?_map]
  by_cases hi : i < l.length
  · rw [List.getElem?_eq_getElem hi, List.getElem?_eq_getElem (show i < m.length by omega)]
    exact congrArg some (e i _ _ (List.getElem?_eq_getElem (show i < m.length by omega)) (List.getElem?_eq_getElem hi))
  · rw [List.getElem?_eq_none (by omega), List.getElem?_eq_none (by omega)]
theorem Finer.check {s t : Tab} (h : Finer s t) (hc : (checkT t).2.2 = 0) : (checkT s).2.2 = 0 := by
  obtain ⟨c1, c2, c3⟩ := check_zero.1 hc
  refine check_zero.2 ⟨?_, fun i hi => ?_, fun i hi => ?_⟩
  · unfold countsErr at *
    rw [h.np, h.nk, h.pu]
    exact c1
  · have hq : s.ps[i]? = some s.ps[i] := List.getElem?_eq_getElem hi
    have hp : t.ps[i]? = some (t.ps[i]'(by rw [← h.np]; exact hi)) := List.getElem?_eq_getElem _
    have h1 := (propErr_zero hp).1 (c2 i (by rw [← h.np]; exact hi))
    have h2 := h.er i _ _ hp hq
    rw [propErr_zero hq, names_same h.np (fun i p q a b => (h.er i p q a b).1), h2.1]
    exact ⟨h1.1, h2.2.1, by omega⟩
  · have hq : s.ks[i]? = some s.ks[i] := List.getElem?_eq_getElem hi
    have hp : t.ks[i]? = some (t.ks[i]'(by rw [← h.nk]; exact hi)) := List.getElem?_eq_getElem _
    have h1 := (kindErr_zero hp).1 (c3 i (by rw [← h.nk]; exact hi))
    have h2 := h.kn i _ _ hp hq
    rw [kindErr_zero hq, names_same h.nk (fun i p q a b => (h.kn i p q a b).1), h2.1, h.np]
    refine ⟨h1.1, ?_⟩
    obtain ⟨h3, h4⟩ := ranges_zero.1 h1.2
    refine ranges_zero.2 ⟨by rw [h2.2]; exact h3, fun r hr => ?_⟩
    obtain ⟨j, hj, rfl⟩ := List.mem_iff_getElem.1 hr
    have h5 := h.rs i _ _ hp hq j _ _ (List.getElem?_eq_getElem (show j < (t.ks[i]'(by rw [← h.nk]; exact hi)).rs.length by rw [← h2.2]; exact hj)) (List.getElem?_eq_getElem hj)
    have h6 := h4 _ (List.getElem_mem (show j < (t.ks[i]'(by rw [← h.nk]; exact hi)).rs.length by rw [← h2.2]; exact hj))
    omega

/-- Readings of which none is another one, but where nothing was read. -/
structure Further (m l : List Int) : Prop where
  len : m.length = l.length
  at_ : ∀ (i : Nat) (r q : Int), l[i]? = some r → m[i]? = some q → r = -1 ∨ q = r
/-- What explains more explains less. -/
theorem fine_expl {s t : Tab} {m l : List Int} (hf : Finer s t) (hm : Further m l) (hV : Valid t) (hl : l.length = t.ps.length) {a b : Nat} (ha : a < t.ks.length) (hb : b < t.ks.length) {n : Int} (hn : 0 ≤ n ∧ n ≤ 1000) (h : explB s m a b n = true) : explB t l a b n = true := by
  have hxa : t.ks[a]? = some t.ks[a] := List.getElem?_eq_getElem ha
  have hxb : t.ks[b]? = some t.ks[b] := List.getElem?_eq_getElem hb
  have hya : s.ks[a]? = some (s.ks[a]'(by rw [hf.nk]; exact ha)) := List.getElem?_eq_getElem _
  have hyb : s.ks[b]? = some (s.ks[b]'(by rw [hf.nk]; exact hb)) := List.getElem?_eq_getElem _
  have ra := hf.rs a _ _ hxa hya
  have rb := hf.rs b _ _ hxb hyb
  have la := (hf.kn a _ _ hxa hya).2
  have lb := (hf.kn b _ _ hxb hyb).2
  have lt := hV.rl _ (List.mem_of_getElem? hxa)
  have lu := hV.rl _ (List.mem_of_getElem? hxb)
  unfold explB at *
  rw [hya, hyb] at h
  rw [hxa, hxb]
  generalize t.ks[a] = xa at *
  generalize t.ks[b] = xb at *
  generalize s.ks[a]'(by rw [hf.nk]; exact ha) = ya at *
  generalize s.ks[b]'(by rw [hf.nk]; exact hb) = yb at *
  rw [List.all_eq_true] at *
  intro i hi
  have hi2 := List.mem_range.1 hi
  have h1 := h i (List.mem_range.2 (by rw [hm.len]; exact hi2))
  have e1 : l[i]? = some l[i] := List.getElem?_eq_getElem hi2
  have e2 : m[i]? = some (m[i]'(by rw [hm.len]; exact hi2)) := List.getElem?_eq_getElem _
  have e3 : xa.rs[i]? = some (xa.rs[i]'(by omega)) := List.getElem?_eq_getElem _
  have e4 : xb.rs[i]? = some (xb.rs[i]'(by omega)) := List.getElem?_eq_getElem _
  have e5 : ya.rs[i]? = some (ya.rs[i]'(by omega)) := List.getElem?_eq_getElem _
  have e6 : yb.rs[i]? = some (yb.rs[i]'(by omega)) := List.getElem?_eq_getElem _
  have e7 : t.ps[i]? = some (t.ps[i]'(by omega)) := List.getElem?_eq_getElem _
  have e8 : s.ps[i]? = some (s.ps[i]'(by rw [hf.np]; omega)) := List.getElem?_eq_getElem _
  have f1 := hm.at_ i _ _ e1 e2
  have f2 := ra i _ _ e3 e5
  have f3 := rb i _ _ e4 e6
  have f4 := hf.er i _ _ e7 e8
  simp only [Option.map_some, Option.getD_some] at h1 ⊢
  unfold explAt at *
  rw [e2, e5, e6, e8] at h1
  rw [e1, e3, e4, e7]
  simp only [decide_eq_true_eq] at h1 ⊢
  rcases f1 with f1 | f1
  · exact .inl f1
  · rw [f1] at h1
    rcases h1 with h1 | ⟨h1, h2⟩
    · exact .inl h1
    · have g1 := Int.mul_le_mul_of_nonneg_left f2.1 hn.1
      have g2 := Int.mul_le_mul_of_nonneg_left f2.2.2 hn.1
      have g3 := Int.mul_le_mul_of_nonneg_left f3.1 (show 0 ≤ 1000 - n by omega)
      have g4 := Int.mul_le_mul_of_nonneg_left f3.2.2 (show 0 ≤ 1000 - n by omega)
      exact .inr ⟨by omega, by omega⟩
theorem fine_ok {s t : Tab} {m l : List Int} (hf : Finer s t) (hm : Further m l) (hV : Valid t) (hl : l.length = t.ps.length) {a b : Nat} (ha : a < t.ks.length) (hb : b < t.ks.length) (h : pairOk s m a b = true) : pairOk t l a b = true := by
  obtain ⟨n, hn, he⟩ := pairOk_some h
  exact pairOk_of hn (fine_expl hf hm hV hl ha hb (by split at hn <;> omega) he)
/-- No set is added. -/
theorem fine_sets {s t : Tab} {m l : List Int} (hf : Finer s t) (hm : Further m l) (hV : Valid t) (hl : l.length = t.ps.length) {z : Int} (h : z ∈ setsV s m) : z ∈ setsV t l := by
  unfold setsV at h
  obtain ⟨k, hk, rfl⟩ := List.mem_map.1 h
  obtain ⟨hk1, hk2⟩ := List.mem_filter.1 hk
  rw [mem_setsV (List.mem_range.1 hk1)]
  obtain ⟨x, hx, rfl⟩ := List.mem_map.1 (of_decide_eq_true hk2)
  obtain ⟨_, h2, h3⟩ := (mem_outer x _ (Nat.le_refl _)).1 hx
  have x1 := x.1.2
  have x2 := x.2.2
  have b1 : x.1.1 < t.ks.length := by rw [← hf.nk]; exact x1
  have b2 : x.2.1 < t.ks.length := by rw [← hf.nk]; exact x2
  exact List.mem_map.2 ⟨(⟨x.1.1, b1⟩, ⟨x.2.1, b2⟩), (mem_outer _ _ (Nat.le_refl _)).2 ⟨b1, h2, fine_ok hf hm hV hl b1 b2 h3⟩, rfl⟩
/-- No range is wider. -/
theorem fine_sold {s t : Tab} {m l : List Int} (hf : Finer s t) (hm : Further m l) (hV : Valid t) (hl : l.length = t.ps.length) (k : Nat) (h : ¬ (partsOfV s m k).2 < (partsOfV s m k).1) :
    (partsOfV t l k).1 ≤ (partsOfV s m k).1 ∧ (partsOfV s m k).2 ≤ (partsOfV t l k).2 := by
  have hA := fold_ends s m k (outerF s.ks.length (pairOk s m) s.ks.length) (1000, -1)
  have hB := (fold_ends t l k (outerF t.ks.length (pairOk t l) t.ks.length) (1000, -1)).2.2
  have key : ∀ x ∈ outerF s.ks.length (pairOk s m) s.ks.length, ∃ y ∈ outerF t.ks.length (pairOk t l) t.ks.length, (ofP t l k y).1 ≤ (ofP s m k x).1 ∧ (ofP s m k x).2 ≤ (ofP t l k y).2 := by
    intro x hx
    obtain ⟨_, h2, h3⟩ := (mem_outer x _ (Nat.le_refl _)).1 hx
    have b1 : x.1.1 < t.ks.length := by rw [← hf.nk]; exact x.1.2
    have b2 : x.2.1 < t.ks.length := by rw [← hf.nk]; exact x.2.2
    refine ⟨(⟨x.1.1, b1⟩, ⟨x.2.1, b2⟩), (mem_outer _ _ (Nat.le_refl _)).2 ⟨b1, h2, fine_ok hf hm hV hl b1 b2 h3⟩, ?_⟩
    have hp := (ofP_mem (a := k) hx).2.1
    have part : ∀ a b : Nat, a < t.ks.length → b < t.ks.length → (partsV s m a b).1 ≤ (partsV s m a b).2 → (partsV t l a b).1 ≤ (partsV s m a b).1 ∧ (partsV s m a b).2 ≤ (partsV t l a b).2 := by
      intro a b ha hb hp
      have h4 := (partsV_in s m a b _).1 ⟨Int.le_refl _, hp⟩
      have h5 := (partsV_in s m a b _).1 ⟨hp, Int.le_refl _⟩
      exact ⟨((partsV_in t l a b _).2 ⟨h4.1, fine_expl hf hm hV hl ha hb (by have := h4.1; split at this <;> omega) h4.2⟩).1, ((partsV_in t l a b _).2 ⟨h5.1, fine_expl hf hm hV hl ha hb (by have := h5.1; split at this <;> omega) h5.2⟩).2⟩
    unfold ofP at *
    dsimp only
    by_cases c1 : k = x.1.1
    · rw [if_pos c1] at hp ⊢
      rw [if_pos c1]
      exact part _ _ b1 b2 hp
    · rw [if_neg c1] at hp ⊢
      rw [if_neg c1]
      by_cases c2 : k = x.2.1
      · rw [if_pos c2] at hp ⊢
        rw [if_pos c2]
        exact part _ _ b2 b1 hp
      · rw [if_neg c2, if_neg c2]; exact ⟨Int.le_refl _, Int.le_refl _⟩
  unfold partsOfV at *
  generalize hr : List.foldl (ofStep s m k) (1000, -1) (outerF s.ks.length (pairOk s m) s.ks.length) = r at *
  generalize List.foldl (ofStep t l k) (1000, -1) (outerF t.ks.length (pairOk t l) t.ks.length) = q at *
  obtain ⟨a1, a2, a3, a4⟩ := hA
  obtain ⟨q1, q2⟩ := hB
  dsimp only at a1 a2 a3 q1
  replace a1 := Lib.hid a1
  replace a2 := Lib.hid a2
  generalize hxs : outerF s.ks.length (pairOk s m) s.ks.length = xs at *
  cases xs with
  | nil => subst hr; exact absurd (show (-1 : Int) < 1000 by decide) h
  | cons y ys =>
    obtain ⟨y', hy', g1, g2⟩ := key y (by simp)
    have w := q2 y' hy'
    have v := a4 y (by simp)
    refine ⟨?_, ?_⟩
    · rcases a1.out with a1 | ⟨x, hx, e⟩
      · omega
      · obtain ⟨z, hz, e1, e2⟩ := key x hx
        have := q2 z hz
        omega
    · rcases a2.out with a2 | ⟨x, hx, e⟩
      · have hp := (ofP_mem (t := s) (l := m) (a := k) (x := y) (by rw [hxs]; simp)).2.1
        have hp0 := (ofP_mem (t := s) (l := m) (a := k) (x := y) (by rw [hxs]; simp)).1
        omega
      · obtain ⟨z, hz, e1, e2⟩ := key x hx
        have := q2 z hz
        omega
end Go.Proofs.YthihpggjglghoaaGreatDoor

namespace Go.Proofs.YthihpggjglghoaaGreatDoor
open Go.ChangeShapes Go.WideShapes Go.RowKit Go.Deep Go.Joins

theorem plain_of {w : World} {a : Addr} {v : Value} (h : w.cell? a = some v) : a = ⟨a.block, a.off, none⟩ := by
  obtain ⟨b, o, s⟩ := a
  have hs : s = none := by simpa using World.cell?_spot h
  subst hs
  rfl
section
variable {H : Type} {enc : TypeId × Value → H} {W W' : World}

theorem open_rows {α : Type} [Inhabited α] {t e : TypeId} {sz fuel : Nat} {c0 : Value} {x : DataW H × List MemPlace} {en : α → Nat → Value} {Q : α → Prop} (ht : Tryz.prog.underlying t = some (.slice e)) (hsz : Tryz.prog.cellsOf e = sz) (hpos : 0 < sz)
    (h : DataW.trod enc Tryz.prog W 0 (fun _ => true) true fuel t [c0] = some x)
    (hel : ∀ (n : Nat) (cs : List Value) (y : DataW H × List MemPlace), cs.length = sz → DataW.trod enc Tryz.prog W 0 (fun _ => true) true n e cs = some y → ∃ z : α, (∀ j, j < sz → cs[j]? = some (en z j)) ∧ Q z) :
    ∃ (A : Option Addr) (l : List α) (c : Nat), c0 = .slice A l.length c ∧ RowAt sz en W W.heap.size A l ∧ l.length ≤ c ∧ l.length ≤ maxLen ∧ ∀ z ∈ l, Q z := by
  rcases open_slice ht h with ⟨hcs, _⟩ | ⟨a, len, cap, m, n, D, Pl, hcs, _, hl, hm, hmm, _, hx⟩
  · simp only [List.cons.injEq, and_true] at hcs
    subst hcs
    exact ⟨none, [], 0, rfl, RowAt.nil, by simp, by simp, fun z hz => by simp at hz⟩
  · simp only [List.cons.injEq, and_true] at hcs
    subst hcs
    have hmc : m = cap := by rw [hmm]; simp
    obtain ⟨f, hf⟩ := choose_lt (α := α) (n := len) (p := fun i z => (∀ j, j < sz → W.cell? (a.add (i * sz + j)) = some (en z j)) ∧ Q z) (fun i hi => by
      obtain ⟨cs, h1, h2⟩ := hx i (by omega)
      rw [hsz] at h1
      obtain ⟨_, hlen, hc⟩ := World.cells?_some h1
      obtain ⟨z, hz, hq⟩ := hel n cs _ hlen h2
      refine ⟨z, fun j hj => ?_, hq⟩
      have h3 := hc j hj
      rw [add_add] at h3
      rw [h3]
      exact hz j hj)
    refine ⟨some a, (List.range len).map f, cap, by simp, fun hp => ?_, by simpa using hl, by simp; omega, fun z hz => ?_⟩
    · have hlen0 : 0 < len := by simpa using hp
      have hc0 := (hf 0 hlen0).1 0 hpos
      have hpl : a = ⟨a.block, a.off, none⟩ := by
        have h0 : W.cell? a = some (en (f 0) 0) := by simpa [Addr.add] using hc0
        exact plain_of h0
      refine ⟨a.block, a.off, by rw [← hpl], ?_, fun i z hi j hj => ?_⟩
      · rcases Nat.lt_or_ge a.block W.heap.size with h' | h'
        · exact h'
        · rw [hpl] at hc0
          simp only [Nat.zero_mul, Nat.add_zero, Addr.add, World.cell?] at hc0
          rw [Array.getElem?_eq_none (by simpa using h')] at hc0
          cases hc0
      · rw [List.getElem?_map] at hi
        obtain ⟨i', hi', rfl⟩ := Option.map_eq_some_iff.1 hi
        obtain ⟨hlt, hii⟩ := List.getElem?_eq_some_iff.1 hi'
        simp at hlt hii
        subst hii
        have h3 := (hf i hlt).1 j hj
        rw [hpl, add_plain] at h3
        rw [Nat.add_assoc]
        exact h3
    · obtain ⟨i, hi, rfl⟩ := List.mem_map.1 hz
      exact (hf i (by simpa using hi)).2

instance : Inhabited Pr := ⟨⟨⟨#[]⟩, 0⟩⟩
instance : Inhabited Kd := ⟨⟨⟨#[]⟩, none, 0, []⟩⟩
theorem el_int (n : Nat) (cs : List Value) (y : DataW H × List MemPlace) (_ : cs.length = 1) (h : DataW.trod enc Tryz.prog W 0 (fun _ => true) true n 3 cs = some y) : ∃ z : Int, (∀ j, j < 1 → cs[j]? = some (encI z j)) ∧ (Lit.int .i64 z).wf = true := by
  obtain ⟨z, rfl, _, hw⟩ := DataW.trod_int Tryz.underlying3 h
  exact ⟨z, fun j hj => by obtain rfl : j = 0 := by omega
                           rfl, hw⟩
set_option maxRecDepth 100000 in
theorem el_span (n : Nat) (cs : List Value) (y : DataW H × List MemPlace) (hl : cs.length = 2) (h : DataW.trod enc Tryz.prog W 0 (fun _ => true) true n 43 cs = some y) : ∃ z : Int × Int, (∀ j, j < 2 → cs[j]? = some (encS z j)) ∧ True := by
  obtain ⟨y0, y1, m, _, _, h0, h1⟩ := trod_struct2 Tryz.underlying43 h
  match cs, hl with
  | [u0, u1], _ =>
    obtain ⟨a, ea, _⟩ := DataW.trod_int Tryz.underlying3 (show DataW.trod enc Tryz.prog W 0 (fun _ => true) true m 3 [u0] = some y0 from h0)
    obtain ⟨b, eb, _⟩ := DataW.trod_int Tryz.underlying3 (show DataW.trod enc Tryz.prog W 0 (fun _ => true) true m 3 [u1] = some y1 from h1)
    simp only [List.cons.injEq, and_true] at ea eb
    subst ea; subst eb
    exact ⟨(a, b), fun j hj => by match j, hj with
      | 0, _ => rfl
      | 1, _ => rfl, trivial⟩
set_option maxRecDepth 100000 in
theorem el_prop (n : Nat) (cs : List Value) (y : DataW H × List MemPlace) (hl : cs.length = 2) (h : DataW.trod enc Tryz.prog W 0 (fun _ => true) true n 47 cs = some y) : ∃ z : Pr, (∀ j, j < 2 → cs[j]? = some (encP z j)) ∧ z.nm.size ≤ maxLen := by
  obtain ⟨y0, y1, m, _, _, h0, h1⟩ := trod_struct2 Tryz.underlying47 h
  match cs, hl with
  | [u0, u1], _ =>
    obtain ⟨a, ea, _, hs⟩ := DataW.trod_string Tryz.underlying9 (show DataW.trod enc Tryz.prog W 0 (fun _ => true) true m 9 [u0] = some y0 from h0)
    obtain ⟨b, eb, _⟩ := DataW.trod_int Tryz.underlying3 (show DataW.trod enc Tryz.prog W 0 (fun _ => true) true m 3 [u1] = some y1 from h1)
    simp only [List.cons.injEq, and_true] at ea eb
    subst ea; subst eb
    exact ⟨⟨a, b⟩, fun j hj => by match j, hj with
      | 0, _ => rfl
      | 1, _ => rfl, hs⟩
theorem c_int : Tryz.prog.cellsOf 3 = 1 := by kernel_rfl
theorem c_span : Tryz.prog.cellsOf 43 = 2 := by kernel_rfl
theorem c_prop : Tryz.prog.cellsOf 47 = 2 := by kernel_rfl
theorem c_kind : Tryz.prog.cellsOf 51 = 2 := by kernel_rfl
theorem c_tab : Tryz.prog.cellsOf 25 = 3 := by kernel_rfl
set_option maxRecDepth 100000 in
theorem el_kind (n : Nat) (cs : List Value) (y : DataW H × List MemPlace) (hl : cs.length = 2) (h : DataW.trod enc Tryz.prog W 0 (fun _ => true) true n 51 cs = some y) : ∃ z : Kd, (∀ j, j < 2 → cs[j]? = some (encK z j)) ∧ (z.nm.size ≤ maxLen ∧ SpansAt W W.heap.size z.ad z.rs ∧ z.rs.length ≤ maxLen ∧ z.rs.length ≤ z.cp) := by
  obtain ⟨y0, y1, m, _, _, h0, h1⟩ := trod_struct2 Tryz.underlying51 h
  match cs, hl with
  | [u0, u1], _ =>
    obtain ⟨a, ea, _, hs⟩ := DataW.trod_string Tryz.underlying9 (show DataW.trod enc Tryz.prog W 0 (fun _ => true) true m 9 [u0] = some y0 from h0)
    obtain ⟨A, l, c, eb, hr, hc, hm, _⟩ := open_rows (α := Int × Int) (en := encS) Tryz.underlying49 c_span (by omega) (show DataW.trod enc Tryz.prog W 0 (fun _ => true) true m 49 [u1] = some y1 from h1) el_span
    simp only [List.cons.injEq, and_true] at ea
    subst ea; subst eb
    exact ⟨⟨a, A, c, l⟩, fun j hj => by match j, hj with
      | 0, _ => rfl
      | 1, _ => rfl, hs, hr, hm, hc⟩
set_option maxRecDepth 100000 in
/-- A list of ints that came in. -/
theorem open_ints_in {v : Value} {d : DataW H} {p : List MemPlace} (h : DataW.Trod enc Tryz.prog W 0 (fun _ => true) true 34 v d p) (hv : ∃ A l c, v = .slice A l c) : ∃ A l c, v = .slice A l.length c ∧ IntsIn W A l ∧ ∀ z ∈ l, (Lit.int .i64 z).wf = true := by
  obtain ⟨A0, l0, c0, rfl⟩ := hv
  obtain ⟨fuel, hf⟩ := h
  obtain ⟨A, l, c, e, hr, hc, hm, hq⟩ := open_rows (α := Int) (en := encI) Tryz.underlying34 c_int (by omega) (show DataW.trod enc Tryz.prog W 0 (fun _ => true) true fuel 34 [.slice A0 l0 c0] = some (d, p) by simpa [Value.cells] using hf) el_int
  exact ⟨A, l, c, e, ⟨hr, by unfold maxLen at hm; omega⟩, hq⟩
set_option maxRecDepth 100000 in
/-- A table that came in. -/
theorem open_table {v : Value} {d : DataW H} {p : List MemPlace} {b0 : Nat} (hv : Value.okWide Tryz.prog W .any b0 25 v) (h : DataW.Trod enc Tryz.prog W 0 (fun _ => true) true 25 v d p) :
    ∃ pa pc ka kc t, v = .agg #[.slice pa t.ps.length pc, .slice ka t.ks.length kc, .int .i64 t.pu] ∧ TabIn W pa ka pc kc t := by
  obtain ⟨v0, v1, v2, y0, y1, y2, n, rfl, _, _, h0, h1, h2⟩ := open_agg3 Tryz.underlying25 (by kernel_rfl) c_tab hv h
  obtain ⟨pa, ps, pc, rfl, hp, hpc, hpm, hpq⟩ := open_rows (α := Pr) (en := encP) Tryz.underlying22 c_prop (by omega) h0 el_prop
  obtain ⟨ka, ks, kc, rfl, hk, hkc, hkm, hkq⟩ := open_rows (α := Kd) (en := encK) Tryz.underlying23 c_kind (by omega) h1 el_kind
  obtain ⟨z, ez, _⟩ := DataW.trod_int Tryz.underlying3 h2
  simp only [List.cons.injEq, and_true] at ez
  subst ez
  unfold maxLen at hpm hkm hpq hkq
  refine ⟨pa, pc, ka, kc, ⟨ps, ks, z⟩, rfl, ⟨hp, ⟨hk, fun k hkk => ⟨(hkq k hkk).2.1, by have := (hkq k hkk).2.2.1; omega⟩⟩, by show ps.length ≤ _; omega, by show ks.length ≤ _; omega⟩, hpc, hkc, fun p hpp => by have := hpq p hpp; omega, fun k hkk => by have := (hkq k hkk).1; omega⟩
set_option maxRecDepth 100000 in
theorem laidOut : laidOutB Tryz.prog = true := by kernel_rfl
/-- The arguments read on as they did. -/
theorem trodAll_below {P : Program} (hl : laidOutB P = true) (hb : Below W.heap.size W W') (ts : List TypeId) : ∀ (vs : List Value) (ds : List (DataW H)) (ps : List MemPlace), (ts.all fun t => P.readableRec t && decide (t < P.types.size)) = true →
    DataW.TrodAll enc P W 0 (fun _ => true) true ts vs ds ps → (∀ x ∈ ps, x.block < W.heap.size) → DataW.TrodAll enc P W' 0 (fun b => decide (b < W.heap.size)) true ts vs ds ps := by
  induction ts with
  | nil =>
    intro vs ds ps _ h _
    obtain ⟨rfl, rfl, rfl⟩ := trodAll_nil h
    exact trodAll_mk0
  | cons t ts ih =>
    intro vs ds ps ht h hlt
    obtain ⟨v, vs', d, ds', p, q, rfl, rfl, rfl, h1, h2⟩ := trodAll_cons h
    simp only [List.all_cons, Bool.and_eq_true, decide_eq_true_eq] at ht
    exact trodAll_cons_mk (Below.trod hl ht.1.1 ht.1.2 h1 hb (fun x hx => hlt x (by simp [hx]))) (ih vs' ds' q ht.2 h2 (fun x hx => hlt x (by simp [hx])))
end
end Go.Proofs.YthihpggjglghoaaGreatDoor

namespace Go.Proofs.YthihpggjglghoaaGreatDoor
open Go.ChangeShapes Go.WideShapes Go.RowKit Go.Deep Go.Joins

theorem array6 {α : Type} {cs : Array α} (h : cs.size = 6) : ∃ c0 c1 c2 c3 c4 c5, cs = #[c0, c1, c2, c3, c4, c5] := by
  obtain ⟨l⟩ := cs
  match l, h with
  | [c0, c1, c2, c3, c4, c5], _ => exact ⟨c0, c1, c2, c3, c4, c5, rfl⟩
section
variable {H : Type} {enc : TypeId × Value → H} {P : Program} {w : World} {base : Nat} {spare : Nat → Bool} {held : Bool}
theorem trod_struct6 {t : TypeId} {f0 f1 f2 f3 f4 f5 : Field} {fuel : Nat} {cs : List Value} {x : DataW H × List MemPlace} (ht : P.underlying t = some (.struct #[f0, f1, f2, f3, f4, f5])) (h : DataW.trod enc P w base spare held fuel t cs = some x) :
    ∃ y0 y1 y2 y3 y4 y5 n, DataW.trod enc P w base spare held n f0.type ((cs.drop f0.offset).take (P.cellsOf f0.type)) = some y0 ∧
      DataW.trod enc P w base spare held n f1.type ((cs.drop f1.offset).take (P.cellsOf f1.type)) = some y1 ∧ DataW.trod enc P w base spare held n f2.type ((cs.drop f2.offset).take (P.cellsOf f2.type)) = some y2 ∧
      DataW.trod enc P w base spare held n f3.type ((cs.drop f3.offset).take (P.cellsOf f3.type)) = some y3 ∧ DataW.trod enc P w base spare held n f4.type ((cs.drop f4.offset).take (P.cellsOf f4.type)) = some y4 ∧
      DataW.trod enc P w base spare held n f5.type ((cs.drop f5.offset).take (P.cellsOf f5.type)) = some y5 := by
  obtain ⟨xs, n, _, rfl, hl, hlen, hf⟩ := DataW.trod_struct ht h
  match xs, hlen with
  | [y0, y1, y2, y3, y4, y5], _ => exact ⟨y0, y1, y2, y3, y4, y5, n, by simpa using hf 0 f0 rfl, by simpa using hf 1 f1 rfl, by simpa using hf 2 f2 rfl, by simpa using hf 3 f3 rfl, by simpa using hf 4 f4 rfl, by simpa using hf 5 f5 rfl⟩
theorem open_agg6 {r : Reach} {b0 : Nat} {t : TypeId} {f0 f1 f2 f3 f4 f5 : Field} {v : Value} {d : DataW H} {p : List MemPlace} (hs : P.underlying t = some (.struct #[f0, f1, f2, f3, f4, f5])) (hone : oneCellFields P #[f0, f1, f2, f3, f4, f5] = true) (hC : P.cellsOf t = 6)
    (hv : Value.okWide P w r b0 t v) (h : DataW.Trod enc P w base spare held t v d p) :
    ∃ (v0 v1 v2 v3 v4 v5 : Value) (y0 y1 y2 y3 y4 y5 : DataW H × List MemPlace) (n : Nat), v = .agg #[v0, v1, v2, v3, v4, v5] ∧
      DataW.trod enc P w base spare held n f0.type [v0] = some y0 ∧ DataW.trod enc P w base spare held n f1.type [v1] = some y1 ∧ DataW.trod enc P w base spare held n f2.type [v2] = some y2 ∧
      DataW.trod enc P w base spare held n f3.type [v3] = some y3 ∧ DataW.trod enc P w base spare held n f4.type [v4] = some y4 ∧ DataW.trod enc P w base spare held n f5.type [v5] = some y5 := by
  obtain ⟨cs, rfl, hsz⟩ := okWide_struct hs hv
  obtain ⟨c0, c1, c2, c3, c4, c5, rfl⟩ := array6 (hsz.trans hC)
  obtain ⟨fuel, hf⟩ := h
  obtain ⟨y0, y1, y2, y3, y4, y5, n, h0, h1, h2, h3, h4, h5⟩ := trod_struct6 hs hf
  obtain ⟨o0, k0⟩ := hone_of hone 0 f0 rfl
  obtain ⟨o1, k1⟩ := hone_of hone 1 f1 rfl
  obtain ⟨o2, k2⟩ := hone_of hone 2 f2 rfl
  obtain ⟨o3, k3⟩ := hone_of hone 3 f3 rfl
  obtain ⟨o4, k4⟩ := hone_of hone 4 f4 rfl
  obtain ⟨o5, k5⟩ := hone_of hone 5 f5 rfl
  exact ⟨c0, c1, c2, c3, c4, c5, y0, y1, y2, y3, y4, y5, n, rfl, by simpa [Value.cells, o0, k0] using h0, by simpa [Value.cells, o1, k1] using h1, by simpa [Value.cells, o2, k2] using h2, by simpa [Value.cells, o3, k3] using h3, by simpa [Value.cells, o4, k4] using h4, by simpa [Value.cells, o5, k5] using h5⟩
end
variable {H : Type} {enc : TypeId × Value → H} {W : World}
end Go.Proofs.YthihpggjglghoaaGreatDoor

namespace Go.Proofs.YthihpggjglghoaaGreatDoor
open Go.ChangeShapes Go.WideShapes Go.RowKit Go.Deep Go.Joins

theorem array2 {α : Type} {cs : Array α} (h : cs.size = 2) : ∃ c0 c1, cs = #[c0, c1] := by
  obtain ⟨l⟩ := cs
  match l, h with
  | [c0, c1], _ => exact ⟨c0, c1, rfl⟩
theorem array3 {α : Type} {cs : Array α} (h : cs.size = 3) : ∃ c0 c1 c2, cs = #[c0, c1, c2] := by
  obtain ⟨l⟩ := cs
  match l, h with
  | [c0, c1, c2], _ => exact ⟨c0, c1, c2, rfl⟩
section
variable {H : Type} {enc : TypeId × Value → H} {P : Program} {w : World} {base : Nat} {spare : Nat → Bool} {held : Bool}
theorem okWide_arr {t e : TypeId} {n : Nat} {r : Reach} {b0 : Nat} {v : Value} (ht : P.underlying t = some (.array n e)) (h : Value.okWide P w r b0 t v) : ∃ cs, v = .agg cs ∧ cs.size = P.cellsOf t := by
  simp only [Value.okWide, ht] at h
  obtain ⟨cs, h1, h2, _⟩ := h
  exact ⟨cs, h1, h2⟩
theorem open_arr2 {t e : TypeId} {r : Reach} {b0 : Nat} {v : Value} {d : DataW H} {p : List MemPlace} (ht : P.underlying t = some (.array 2 e)) (he : P.cellsOf e = 1) (hC : P.cellsOf t = 2)
    (hv : Value.okWide P w r b0 t v) (h : DataW.Trod enc P w base spare held t v d p) :
    ∃ (v0 v1 : Value) (y0 y1 : DataW H × List MemPlace) (n : Nat), v = .agg #[v0, v1] ∧ DataW.trod enc P w base spare held n e [v0] = some y0 ∧ DataW.trod enc P w base spare held n e [v1] = some y1 := by
  obtain ⟨cs, rfl, hsz⟩ := okWide_arr ht hv
  obtain ⟨c0, c1, rfl⟩ := array2 (hsz.trans hC)
  obtain ⟨fuel, hf⟩ := h
  obtain ⟨xs, m, _, _, _, hlen, hx⟩ := DataW.trod_array ht hf
  have h0 := hx 0 (by omega)
  have h1 := hx 1 (by omega)
  match xs, hlen with
  | [y0, y1], _ => exact ⟨c0, c1, y0, y1, m, rfl, by simpa [Value.cells, he] using h0, by simpa [Value.cells, he] using h1⟩
theorem open_arr3 {t e : TypeId} {r : Reach} {b0 : Nat} {v : Value} {d : DataW H} {p : List MemPlace} (ht : P.underlying t = some (.array 3 e)) (he : P.cellsOf e = 1) (hC : P.cellsOf t = 3)
    (hv : Value.okWide P w r b0 t v) (h : DataW.Trod enc P w base spare held t v d p) :
    ∃ (v0 v1 v2 : Value) (y0 y1 y2 : DataW H × List MemPlace) (n : Nat), v = .agg #[v0, v1, v2] ∧ DataW.trod enc P w base spare held n e [v0] = some y0 ∧ DataW.trod enc P w base spare held n e [v1] = some y1 ∧ DataW.trod enc P w base spare held n e [v2] = some y2 := by
  obtain ⟨cs, rfl, hsz⟩ := okWide_arr ht hv
  obtain ⟨c0, c1, c2, rfl⟩ := array3 (hsz.trans hC)
  obtain ⟨fuel, hf⟩ := h
  obtain ⟨xs, m, _, _, _, hlen, hx⟩ := DataW.trod_array ht hf
  have h0 := hx 0 (by omega)
  have h1 := hx 1 (by omega)
  have h2 := hx 2 (by omega)
  match xs, hlen with
  | [y0, y1, y2], _ => exact ⟨c0, c1, c2, y0, y1, y2, m, rfl, by simpa [Value.cells, he] using h0, by simpa [Value.cells, he] using h1, by simpa [Value.cells, he] using h2⟩
end
variable {H : Type} {enc : TypeId × Value → H} {W : World}
/-- A table, and another argument, in boxes of the call's own. -/
structure Two (w : World) (T : TypeId) (tc xc : Array Value) (W : World) : Prop where
  tb : Blk W w.heap.size 25 tc
  xb : Blk W (w.heap.size + 1) T xc
  b : Below w.heap.size w W
theorem Two.on {w W W' : World} {T : TypeId} {tc xc : Array Value} (h : Two w T tc xc W) (hb : Below W.heap.size W W') : Two w T tc xc W' := ⟨h.tb.on hb, h.xb.on hb, h.b.trans (hb.mono h.b.size)⟩
theorem Two.new (w : World) (T : TypeId) (tc xc : Array Value) : Two w T tc xc ((w.alloc (.cells tc 25)).alloc (.cells xc T)) :=
  ⟨(Blk.new w _ _).alloc _, Blk.new1 w _ _ _, ((Below.refl _ w).alloc (Nat.le_refl _) _).alloc (by simp) _⟩
/-- .. and a range in a box that came later. -/
structure TwoS (w : World) (T : TypeId) (tc xc : Array Value) (X : Nat) (s : Int × Int) (W : World) : Prop where
  tb : Blk W w.heap.size 25 tc
  xb : Blk W (w.heap.size + 1) T xc
  sb : Blk W X 43 #[.int .i64 s.1, .int .i64 s.2]
  b : Below w.heap.size w W
theorem TwoS.on {w W W' : World} {T : TypeId} {tc xc : Array Value} {X : Nat} {s : Int × Int} (h : TwoS w T tc xc X s W) (hb : Below W.heap.size W W') : TwoS w T tc xc X s W' := ⟨h.tb.on hb, h.xb.on hb, h.sb.on hb, h.b.trans (hb.mono h.b.size)⟩
theorem TwoS.alloc {w W : World} {T : TypeId} {tc xc : Array Value} {X : Nat} {s : Int × Int} (h : TwoS w T tc xc X s W) (o : Obj) : TwoS w T tc xc X s (W.alloc o) := h.on ((Below.refl _ W).alloc (Nat.le_refl _) _)
theorem TwoS.drew {w W : World} {T : TypeId} {tc xc : Array Value} {X : Nat} {s : Int × Int} (h : TwoS w T tc xc X s W) : TwoS w T tc xc X s W.drew := h.on (Below.refl _ W).drew
end Go.Proofs.YthihpggjglghoaaGreatDoor

namespace Go.Proofs.YthihpggjglghoaaGreatDoor
open Go.ChangeShapes Go.WideShapes Go.RowKit Go.Deep Go.Joins

def encU16 (x : Int) (_ : Nat) : Value := .int .u16 x
/-- A row of uint16 that comes in. -/
structure U16In (w : World) (A : Option Addr) (l : List Int) : Prop where
  at_ : RowAt 1 encU16 w w.heap.size A l
  len : l.length ≤ 9223372036854775807
  rng : ∀ z ∈ l, 0 ≤ z ∧ z ≤ 65535
theorem U16In.on {w w' : World} {A : Option Addr} {l : List Int} (h : U16In w A l) (hb : Below w.heap.size w w') : U16In w' A l := ⟨(RowAt.below h.at_ hb (Nat.le_refl _)).mono hb.size, h.len, h.rng⟩
section
variable {H : Type} {enc : TypeId × Value → H} {W : World}
theorem el_u16 (n : Nat) (cs : List Value) (y : DataW H × List MemPlace) (_ : cs.length = 1) (h : DataW.trod enc Tryz.prog W 0 (fun _ => true) true n 92 cs = some y) : ∃ z : Int, (∀ j, j < 1 → cs[j]? = some (encU16 z j)) ∧ (0 ≤ z ∧ z ≤ 65535) := by
  obtain ⟨z, rfl, _, hw⟩ := DataW.trod_int Tryz.underlying92 h
  exact ⟨z, fun j hj => by obtain rfl : j = 0 := by omega
                           rfl, bounds_u16 hw⟩
theorem c_u16 : Tryz.prog.cellsOf 92 = 1 := by kernel_rfl
theorem open_u16s {fuel : Nat} {v : Value} {y : DataW H × List MemPlace} (h : DataW.trod enc Tryz.prog W 0 (fun _ => true) true fuel 36 [v] = some y) : ∃ A l c, v = .slice A l.length c ∧ U16In W A l := by
  obtain ⟨A, l, c, rfl, hr, hc, hm, hq⟩ := open_rows (α := Int) (en := encU16) Tryz.underlying36 c_u16 (by omega) h el_u16
  exact ⟨A, l, c, rfl, hr, by unfold maxLen at hm; omega, hq⟩
end

set_option maxHeartbeats 1000000 in
theorem among_any (lo hi n : Int) (h1 : 0 ≤ lo) (h2 : lo ≤ hi) (h3 : hi ≤ 100000) (hn : 0 ≤ n ∧ n ≤ 65535) (w : World) :
    Calls Tryz.prog 15 #[.agg #[.int .i64 lo, .int .i64 hi], .int .i64 n] w fun e w' => e = .returned (.int .i64 (lo + n.tmod (hi - lo + 1))) ∧ Below w.heap.size w w' := by
  have hA := (Below.refl _ w).alloc (Nat.le_refl _) (.cells #[.int .i64 lo, .int .i64 hi] 43)
  have z1 : (hi - lo + 1 == 0) = false := by
    have h : ¬ (hi - lo + 1 = 0) := by omega
    simpa using h
  have z2 : ¬ (hi - lo + 1 = 0) := by omega
  have k0 : IntKind.i64.wrap (hi - lo) = hi - lo := IntWalk.i64_in _ (by omega)
  have k1 : IntKind.i64.wrap (hi - lo + 1) = hi - lo + 1 := IntWalk.i64_in _ (by omega)
  have hm0 := Int.tmod_nonneg (hi - lo + 1) hn.1
  have hm1 := Int.tmod_lt_of_pos n (show 0 < hi - lo + 1 by omega)
  obtain ⟨q, hq⟩ : ∃ q, n.tmod (hi - lo + 1) = q := ⟨_, rfl⟩
  rw [hq] at hm0 hm1 ⊢
  have k3 : IntKind.i64.wrap (lo + q) = lo + q := IntWalk.i64_in _ (by omega)
  go_enter Tryz.func15, Tryz.ntmps15
  go_wp2_with fail
  go_quiet (fail)
  go_wp2_with fail
  go_ret
  exact ⟨by first | rfl | simp [*], by repeat (first | exact hA | apply below_drewN' | apply Below.drew)⟩

set_option maxHeartbeats 1000000 in
theorem turn_any {w : World} {A : Option Addr} {c : Nat} {l : List Int} (n : Int) (hn : 0 ≤ n) (h : U16In w A l) :
    Calls Tryz.prog 14 #[.slice A l.length c, .int .i64 n] w fun e w' => (∃ z, e = .returned (.int .i64 z) ∧ (0 ≤ z ∧ z ≤ 65535)) ∧ w' = w := by
  have hl := h.len
  by_cases h0 : l.length = 0
  · go_enter Tryz.func14, Tryz.ntmps14
    go_wp2_with fail
    go_ret
    exact ⟨⟨0, rfl, by decide, by decide⟩, rfl⟩
  · obtain ⟨k, hk, hkl⟩ : ∃ k : Nat, n.tmod (l.length : Int) = k ∧ k < l.length := by
      have h1 := Int.tmod_nonneg (l.length : Int) hn
      have h2 := Int.tmod_lt_of_pos n (show (0 : Int) < l.length by omega)
      exact ⟨(n.tmod (l.length : Int)).toNat, by omega, by omega⟩
    obtain ⟨x, hx⟩ : ∃ x, l[k]? = some x := ⟨l[k], List.getElem?_eq_getElem hkl⟩
    obtain ⟨b, o, rfl, hb, hc⟩ := h.at_.one hx
    have hr := h.rng x (List.mem_of_getElem? hx)
    have hc1 : w.cell? ⟨b, o + k, none⟩ = some (.int .u16 x) := hc
    have z1 : ((l.length : Int) == 0) = false := by simpa using h0
    have z2 : ¬ ((l.length : Int) = 0) := by omega
    clear hc hx h
    go_enter Tryz.func14, Tryz.ntmps14
    go_wp2_with fail
    go_ret
    exact ⟨⟨x, rfl, hr⟩, rfl⟩
theorem among_some {lo hi n : Int} (h1 : 0 ≤ lo) (h2 : lo ≤ hi) (h3 : hi ≤ 100000) (hn : 0 ≤ n ∧ n ≤ 65535) (w : World) :
    Calls Tryz.prog 15 #[.agg #[.int .i64 lo, .int .i64 hi], .int .i64 n] w fun e w' => ∃ z, e = .returned (.int .i64 z) ∧ (lo ≤ z ∧ z ≤ hi) ∧ Below w.heap.size w w' :=
  (among_any lo hi n h1 h2 h3 hn w).mono fun e w' ⟨he, hb⟩ => ⟨_, he, by
    have h4 := Int.tmod_nonneg (hi - lo + 1) hn.1
    have h5 := Int.tmod_lt_of_pos n (show 0 < hi - lo + 1 by omega)
    omega, hb⟩
end Go.Proofs.YthihpggjglghoaaGreatDoor

namespace Go.Proofs.YthihpggjglghoaaGreatDoor
open Go.ChangeShapes Go.WideShapes Go.RowKit Go.Deep Go.Joins

theorem array4 {α : Type} {cs : Array α} (h : cs.size = 4) : ∃ c0 c1 c2 c3, cs = #[c0, c1, c2, c3] := by
  obtain ⟨l⟩ := cs
  match l, h with
  | [c0, c1, c2, c3], _ => exact ⟨c0, c1, c2, c3, rfl⟩
section
variable {H : Type} {enc : TypeId × Value → H} {P : Program} {w : World} {base : Nat} {spare : Nat → Bool} {held : Bool}
theorem open_agg4 {r : Reach} {b0 : Nat} {t : TypeId} {f0 f1 f2 f3 : Field} {v : Value} {d : DataW H} {p : List MemPlace} (hs : P.underlying t = some (.struct #[f0, f1, f2, f3])) (hone : oneCellFields P #[f0, f1, f2, f3] = true) (hC : P.cellsOf t = 4)
    (hv : Value.okWide P w r b0 t v) (h : DataW.Trod enc P w base spare held t v d p) :
    ∃ (v0 v1 v2 v3 : Value) (y0 y1 y2 y3 : DataW H × List MemPlace) (n : Nat), v = .agg #[v0, v1, v2, v3] ∧
      DataW.trod enc P w base spare held n f0.type [v0] = some y0 ∧ DataW.trod enc P w base spare held n f1.type [v1] = some y1 ∧ DataW.trod enc P w base spare held n f2.type [v2] = some y2 ∧ DataW.trod enc P w base spare held n f3.type [v3] = some y3 := by
  obtain ⟨cs, rfl, hsz⟩ := okWide_struct hs hv
  obtain ⟨c0, c1, c2, c3, rfl⟩ := array4 (hsz.trans hC)
  obtain ⟨fuel, hf⟩ := h
  obtain ⟨xs, n, _, _, hl, hlen, hx⟩ := DataW.trod_struct hs hf
  obtain ⟨o0, k0⟩ := hone_of hone 0 f0 rfl
  obtain ⟨o1, k1⟩ := hone_of hone 1 f1 rfl
  obtain ⟨o2, k2⟩ := hone_of hone 2 f2 rfl
  obtain ⟨o3, k3⟩ := hone_of hone 3 f3 rfl
  match xs, hlen with
  | [y0, y1, y2, y3], _ =>
    have h0 : DataW.trod enc P w base spare held n f0.type (((Value.agg #[c0, c1, c2, c3]).cells.toList.drop f0.offset).take (P.cellsOf f0.type)) = some y0 := by simpa using hx 0 f0 rfl
    have h1 : DataW.trod enc P w base spare held n f1.type (((Value.agg #[c0, c1, c2, c3]).cells.toList.drop f1.offset).take (P.cellsOf f1.type)) = some y1 := by simpa using hx 1 f1 rfl
    have h2 : DataW.trod enc P w base spare held n f2.type (((Value.agg #[c0, c1, c2, c3]).cells.toList.drop f2.offset).take (P.cellsOf f2.type)) = some y2 := by simpa using hx 2 f2 rfl
    have h3 : DataW.trod enc P w base spare held n f3.type (((Value.agg #[c0, c1, c2, c3]).cells.toList.drop f3.offset).take (P.cellsOf f3.type)) = some y3 := by simpa using hx 3 f3 rfl
    exact ⟨c0, c1, c2, c3, y0, y1, y2, y3, n, rfl, by simpa [Value.cells, o0, k0] using h0, by simpa [Value.cells, o1, k1] using h1, by simpa [Value.cells, o2, k2] using h2, by simpa [Value.cells, o3, k3] using h3⟩
end
variable {H : Type} {enc : TypeId × Value → H} {W : World}
set_option maxRecDepth 100000 in
theorem open_more {v : Value} {d : DataW H} {p : List MemPlace} {b0 : Nat} (hv : Value.okWide Tryz.prog W .any b0 38 v) (h : DataW.Trod enc Tryz.prog W 0 (fun _ => true) true 38 v d p) :
    ∃ (a q n : Int) (A : Option Addr) (l : List Int) (c : Nat), v = .agg #[.int .u8 a, .int .u8 q, .int .u32 n, .slice A l.length c] ∧ (0 ≤ a ∧ a ≤ 255) ∧ (0 ≤ q ∧ q ≤ 255) ∧ (0 ≤ n ∧ n ≤ 4294967295) ∧ U16In W A l := by
  obtain ⟨v0, v1, v2, v3, y0, y1, y2, y3, m, rfl, h0, h1, h2, h3⟩ := open_agg4 Tryz.underlying38 (by kernel_rfl) (by kernel_rfl) hv h
  obtain ⟨a, ea, _, wa⟩ := DataW.trod_int Tryz.underlying5 h0
  obtain ⟨q, eq, _, wq⟩ := DataW.trod_int Tryz.underlying5 h1
  obtain ⟨n, en, _, wn⟩ := DataW.trod_int Tryz.underlying35 h2
  obtain ⟨A, l, c, rfl, hN⟩ := open_u16s h3
  simp only [List.cons.injEq, and_true] at ea eq en
  subst ea eq en
  exact ⟨a, q, n, A, l, c, rfl, bounds_u8 wa, bounds_u8 wq, bounds_u32 wn, hN⟩
end Go.Proofs.YthihpggjglghoaaGreatDoor

namespace Go.Proofs.YthihpggjglghoaaGreatDoor
open Go.RowKit

/-- These cells hold these values. -/
structure Held (cs : List (Nat × Nat × Value)) (W : World) : Prop where
  at_ : ∀ c ∈ cs, c.1 < W.heap.size ∧ W.cell? ⟨c.1, c.2.1, none⟩ = some c.2.2
theorem Held.on {cs : List (Nat × Nat × Value)} {W W' : World} (h : Held cs W) (hb : Below W.heap.size W W') : Held cs W' :=
  ⟨fun c hc => ⟨Nat.lt_of_lt_of_le (h.at_ c hc).1 hb.size, (hb.cell (p := ⟨c.1, c.2.1, none⟩) (h.at_ c hc).1).trans (h.at_ c hc).2⟩⟩
theorem Held.alloc {cs : List (Nat × Nat × Value)} {W : World} (h : Held cs W) (o : Obj) : Held cs (W.alloc o) := h.on ((Below.refl _ W).alloc (Nat.le_refl _) _)
theorem Held.drew {cs : List (Nat × Nat × Value)} {W : World} (h : Held cs W) : Held cs W.drew := h.on (Below.refl _ W).drew
theorem Held.drewN {cs : List (Nat × Nat × Value)} {W : World} (h : Held cs W) (n : Nat) : Held cs (W.drewN n) := h.on (below_drewN' (Below.refl _ W) n)
theorem Held.nil (W : World) : Held [] W := ⟨fun _ h => by cases h⟩
theorem Held.cons {cs : List (Nat × Nat × Value)} {W : World} {b o : Nat} {v : Value} (hb : b < W.heap.size) (hc : W.cell? ⟨b, o, none⟩ = some v) (h : Held cs W) : Held ((b, o, v) :: cs) W :=
  ⟨fun c hm => by
    rcases List.mem_cons.1 hm with rfl | hm
    · exact ⟨hb, hc⟩
    · exact h.at_ c hm⟩
/-- The cells, one by one, and all of them again. -/
def heldP (W : World) (P : Prop) : List (Nat × Nat × Value) → Prop
  | [] => P
  | c :: cs => W.cell? ⟨c.1, c.2.1, none⟩ = some c.2.2 ∧ heldP W P cs
theorem heldP_of {W : World} {P : Prop} (hP : P) : ∀ (cs : List (Nat × Nat × Value)), (∀ c ∈ cs, W.cell? ⟨c.1, c.2.1, none⟩ = some c.2.2) → heldP W P cs
  | [], _ => hP
  | c :: cs, h => ⟨h c (by simp), heldP_of hP cs fun d hd => h d (by simp [hd])⟩
theorem Held.all {cs : List (Nat × Nat × Value)} {W : World} (h : Held cs W) : heldP W (Held cs W) cs := heldP_of h cs fun c hc => (h.at_ c hc).2

/-- .. behind what was there at the start. -/
structure HeldB (w : World) (cs : List (Nat × Nat × Value)) (W : World) : Prop where
  held : Held cs W
  b : Below w.heap.size w W
theorem HeldB.on {w W W' : World} {cs : List (Nat × Nat × Value)} (h : HeldB w cs W) (hb : Below W.heap.size W W') : HeldB w cs W' := ⟨h.held.on hb, h.b.trans (hb.mono h.b.size)⟩
theorem HeldB.alloc {w W : World} {cs : List (Nat × Nat × Value)} (h : HeldB w cs W) (o : Obj) : HeldB w cs (W.alloc o) := h.on ((Below.refl _ W).alloc (Nat.le_refl _) _)
theorem HeldB.drew {w W : World} {cs : List (Nat × Nat × Value)} (h : HeldB w cs W) : HeldB w cs W.drew := h.on (Below.refl _ W).drew
theorem HeldB.all {w W : World} {cs : List (Nat × Nat × Value)} (h : HeldB w cs W) : heldP W (HeldB w cs W) cs := heldP_of h cs fun c hc => (h.held.at_ c hc).2

theorem HeldB.all8 {w W : World} {b0 o0 b1 o1 b2 o2 b3 o3 b4 o4 b5 o5 b6 o6 b7 o7 : Nat} {v0 v1 v2 v3 v4 v5 v6 v7 : Value} (h : HeldB w [(b0, o0, v0), (b1, o1, v1), (b2, o2, v2), (b3, o3, v3), (b4, o4, v4), (b5, o5, v5), (b6, o6, v6), (b7, o7, v7)] W) : W.cell? ⟨b0, o0, none⟩ = some v0 ∧ W.cell? ⟨b1, o1, none⟩ = some v1 ∧ W.cell? ⟨b2, o2, none⟩ = some v2 ∧ W.cell? ⟨b3, o3, none⟩ = some v3 ∧ W.cell? ⟨b4, o4, none⟩ = some v4 ∧ W.cell? ⟨b5, o5, none⟩ = some v5 ∧ W.cell? ⟨b6, o6, none⟩ = some v6 ∧ W.cell? ⟨b7, o7, none⟩ = some v7 ∧ HeldB w [(b0, o0, v0), (b1, o1, v1), (b2, o2, v2), (b3, o3, v3), (b4, o4, v4), (b5, o5, v5), (b6, o6, v6), (b7, o7, v7)] W :=
  ⟨(h.held.at_ (b0, o0, v0) (by simp)).2, (h.held.at_ (b1, o1, v1) (by simp)).2, (h.held.at_ (b2, o2, v2) (by simp)).2, (h.held.at_ (b3, o3, v3) (by simp)).2, (h.held.at_ (b4, o4, v4) (by simp)).2, (h.held.at_ (b5, o5, v5) (by simp)).2, (h.held.at_ (b6, o6, v6) (by simp)).2, (h.held.at_ (b7, o7, v7) (by simp)).2, h⟩

theorem Two.grown {w W W' : World} {T : TypeId} {tc xc : Array Value} {row : Option Nat} (h : Two w T tc xc W) (hg : W.grownBy W' row) (hr : ∀ r, row = some r → w.heap.size + 2 ≤ r) : Two w T tc xc W' :=
  ⟨h.tb.grown hg hr (by omega), h.xb.grown hg hr (by omega), h.b.grown hg h.b.size fun r e => by have := hr r e; omega⟩
end Go.Proofs.YthihpggjglghoaaGreatDoor

namespace Go.Proofs.YthihpggjglghoaaGreatDoor
open Go.ChangeShapes Go.RowKit Go.Shelf

/-- Each of the second list, as far as it goes, stands so to its like in the first one. -/
structure Each {α β : Type} (R : α → β → Prop) (l : List α) (m : List β) : Prop where
  len : m.length ≤ l.length
  at_ : ∀ (i : Nat) (x : α) (y : β), l[i]? = some x → m[i]? = some y → R x y
theorem Each.nil {α β : Type} (R : α → β → Prop) (l : List α) : Each R l [] := ⟨by simp, fun i x y _ h => by simp at h⟩
theorem Each.more {α β : Type} {R : α → β → Prop} {l : List α} {m : List β} (h : Each R l m) {x : α} {y : β} (hx : l[m.length]? = some x) (hy : R x y) : Each R l (m ++ [y]) := by
  have hlt := (List.getElem?_eq_some_iff.1 hx).1
  refine ⟨by simp; omega, fun i a b ha hb => ?_⟩
  rcases Nat.lt_trichotomy i m.length with h1 | h1 | h1
  · rw [List.getElem?_append_left h1] at hb
    exact h.at_ i a b ha hb
  · subst h1
    rw [hx] at ha
    rw [List.getElem?_append_right (Nat.le_refl _)] at hb
    simp at ha hb
    subst ha; subst hb
    exact hy
  · rw [List.getElem?_eq_none (by simp; omega)] at hb
    cases hb
def FinP (p q : Pr) : Prop := q.nm = p.nm ∧ 0 ≤ q.er ∧ q.er ≤ p.er
def FinR (r q : Int × Int) : Prop := r.1 ≤ q.1 ∧ q.1 ≤ q.2 ∧ q.2 ≤ r.2
def FinK (x y : Kd) : Prop := y.nm = x.nm ∧ y.rs.length = x.rs.length ∧ Each FinR x.rs y.rs
theorem finer_of {t : Tab} {ps : List Pr} {ks : List Kd} (hp : Each FinP t.ps ps) (hpl : ps.length = t.ps.length) (hk : Each FinK t.ks ks) (hkl : ks.length = t.ks.length) : Finer ⟨ps, ks, t.pu⟩ t :=
  ⟨hpl, hkl, rfl, fun i p q h1 h2 => hp.at_ i p q h1 h2, fun i x y h1 h2 => ⟨(hk.at_ i x y h1 h2).1, (hk.at_ i x y h1 h2).2.1⟩, fun i x y h1 h2 j r q h3 h4 => (hk.at_ i x y h1 h2).2.2.at_ j r q h3 h4⟩
theorem finer_self {t : Tab} (hV : Valid t) : Finer t t :=
  ⟨rfl, rfl, rfl, fun i p q h1 h2 => by rw [h1] at h2; cases h2; exact ⟨rfl, (hV.er p (List.mem_of_getElem? h1)).1, Int.le_refl _⟩,
    fun i x y h1 h2 => by rw [h1] at h2; cases h2; exact ⟨rfl, rfl⟩,
    fun i x y h1 h2 j r q h3 h4 => by
      rw [h1] at h2; cases h2
      rw [h3] at h4; cases h4
      have := hV.rs x (List.mem_of_getElem? h1) r (List.mem_of_getElem? h3)
      omega⟩
theorem further_self (l : List Int) : Further l l := ⟨rfl, fun i r q h1 h2 => by rw [h1] at h2; cases h2; exact .inr rfl⟩
theorem further_set {l : List Int} {p : Nat} (v : Int) (hp : l[p]? = some (-1)) : Further (l.set p v) l :=
  ⟨by simp, fun i r q h1 h2 => by
    by_cases hi : p = i
    · subst hi
      rw [hp] at h1
      cases h1
      exact .inl rfl
    · rw [List.getElem?_set_ne hi, h1] at h2
      cases h2
      exact .inr rfl⟩
theorem reads_set {l : List Int} (p : Nat) {v : Int} (hv : 0 ≤ v ∧ v ≤ 100000) (h : ∀ r ∈ l, r = -1 ∨ 0 ≤ r ∧ r ≤ 100000) : ∀ r ∈ l.set p v, r = -1 ∨ 0 ≤ r ∧ r ≤ 100000 := by
  intro r hr
  rcases List.mem_or_eq_of_mem_set hr with h1 | h1
  · exact h r h1
  · subst h1; exact .inr hv
theorem sold_is {t : Tab} {l : List Int} (h0 : lookErr t l = 0) {k : Nat} (hk : k < t.ks.length) :
    ((partsOfV t l k).2 < (partsOfV t l k).1 ∧ soldV t l k = ((0, 0), 0, 9)) ∨ (¬ (partsOfV t l k).2 < (partsOfV t l k).1 ∧ soldV t l k = (partsOfV t l k, judgeV (partsOfV t l k).1 (partsOfV t l k).2 t.pu, 0)) := by
  unfold soldV
  rw [if_neg (by simpa using h0), if_neg (by omega), Int.toNat_natCast]
  by_cases h : (partsOfV t l k).2 < (partsOfV t l k).1
  · exact .inl ⟨h, if_pos h⟩
  · exact .inr ⟨h, if_neg h⟩
/-- No range is wider, in the layer's own answers. -/
theorem fine_soldV {s t : Tab} {m l : List Int} (hf : Finer s t) (hm : Further m l) (hV : Valid t) (hl : l.length = t.ps.length) (h0 : lookErr t l = 0) (h1 : lookErr s m = 0) {k : Nat} (hk : k < t.ks.length) :
    ((soldV t l k).2.2 = 0 ∨ (soldV t l k).2.2 = 9) ∧ (((soldV s m k).2.2 = 0 ∧ (soldV t l k).2.2 = 0 ∧ (soldV t l k).1.1 ≤ (soldV s m k).1.1 ∧ (soldV s m k).1.2 ≤ (soldV t l k).1.2) ∨ (soldV s m k).2.2 = 9) := by
  have ht := sold_is h0 hk
  have hs := sold_is h1 (k := k) (by rw [hf.nk]; exact hk)
  refine ⟨?_, ?_⟩
  · rcases ht with ⟨_, e⟩ | ⟨_, e⟩
    · rw [e]; exact .inr rfl
    · rw [e]; exact .inl rfl
  · rcases hs with ⟨_, e⟩ | ⟨hn, e⟩
    · rw [e]; exact .inr rfl
    · have hh := fine_sold hf hm hV hl k hn
      rcases ht with ⟨h2, _⟩ | ⟨_, e2⟩
      · exact absurd h2 (by omega)
      · rw [e, e2]
        exact .inl ⟨rfl, rfl, hh.1, hh.2⟩

theorem PropsOut.on {B : Nat} {w w' : World} {v : Value} {l : List Pr} (h : PropsOut B w v l) (hb : Below w.heap.size w w') : PropsOut B w' v l := own_below h hb
theorem SpansOut.on {B : Nat} {w w' : World} {v : Value} {l : List (Int × Int)} (h : SpansOut B w v l) (hb : Below w.heap.size w w') : SpansOut B w' v l := own_below h hb
theorem KindsOut.on {B : Nat} {w w' : World} {v : Value} {l : List Kd} (h : KindsOut B w v l) (hb : Below w.heap.size w w') : KindsOut B w' v l := ⟨own_below h.row hb, fun k hk => ⟨own_below (h.inn k hk).1 hb, (h.inn k hk).2⟩⟩
theorem below_grown {w w' : World} (h : Below w.heap.size w w') (row : Option Nat) : w.grownBy w' row := ⟨h.os, h.tape, h.output, h.size, fun k hk _ => h.block k hk⟩

/-- The finer table, with its properties as far as they go. -/
structure FiP (WX : World) (X : Nat) (pu : Int) (v : Value) (ps : List Pr) (W : World) : Prop where
  hx : WX.heap.size = X
  b : Below X WX W
  ob : Blk W X 25 #[v, .slice none 0 0, .int .i64 pu]
  row : PropsOut (X + 1) W v ps
theorem FiP.bb {WX W : World} {X : Nat} {pu : Int} {v : Value} {ps : List Pr} (h : FiP WX X pu v ps W) : Below WX.heap.size WX W := by rw [h.hx]; exact h.b
theorem FiP.on {WX W W' : World} {X : Nat} {pu : Int} {v : Value} {ps : List Pr} (h : FiP WX X pu v ps W) (hb : Below W.heap.size W W') : FiP WX X pu v ps W' := ⟨h.hx, h.b.trans (hb.mono (Nat.le_of_lt h.ob.lt)), h.ob.on hb, h.row.on hb⟩
theorem FiP.new (WX : World) (pu : Int) : FiP WX WX.heap.size pu (.slice none 0 0) [] (WX.alloc (.cells #[.slice none 0 0, .slice none 0 0, .int .i64 pu] 25)) :=
  ⟨rfl, (Below.refl _ WX).alloc (Nat.le_refl _) _, Blk.new _ _ _, World.ownsRow_nil _ _ _ _⟩
theorem FiP.more {WX wr wa w7 : World} {X : Nat} {pu : Int} {n vc gg cap : Nat} {ps : List Pr} {va : Option Addr} (h : FiP WX X pu (.slice va n vc) ps wr) (hn : n = ps.length) {p : Pr}
    (hown : w7.ownsRow (X + 1) 47 2 (.slice (some ⟨gg, 0, none⟩) (n + 1) cap) (n + 1) (propCells ps ++ [.string p.nm, .int .i64 p.er])) (hwa : Below wr.heap.size wr wa) (hgrow : wa.grownBy w7 (Value.ownBlock (.slice va n vc))) :
    FiP WX X pu (.slice (some ⟨gg, 0, none⟩) (n + 1) cap) (ps ++ [p]) (w7.setCell ⟨X, 0, none⟩ (.slice (some ⟨gg, 0, none⟩) (n + 1) cap)) := by
  subst hn
  have hr : ∀ r, Value.ownBlock (.slice va ps.length vc) = some r → X + 1 ≤ r := fun r e => (World.ownsRow.lt h.row r e).1
  have ha := h.on hwa
  have hs := ha.ob.lt
  have ho := ha.ob.grown hgrow hr (by omega)
  have gs := grown_set w7 X 0 (.slice (some ⟨gg, 0, none⟩) (ps.length + 1) cap)
  have hg := (World.ownsRow.lt hown gg rfl).1
  refine ⟨h.hx, (ha.b.grown hgrow (by omega) (fun r e => by have := hr r e; omega)).setCell (Nat.le_refl _) _, ?_, ?_⟩
  · have b := ho.set_ 0 (.slice (some ⟨gg, 0, none⟩) (ps.length + 1) cap)
    simpa using b
  · have h7 := World.ownsRow.kept hown gs (by
      right
      intro e
      have e2 : gg = X := by simpa [Value.ownBlock] using e
      omega)
    simpa [PropsOut, propCells] using h7

/-- A kind of the finer table, with its ranges as far as they go. -/
structure FiY (WY : World) (Y : Nat) (nm : ByteArray) (v : Value) (rs : List (Int × Int)) (W : World) : Prop where
  hx : WY.heap.size = Y
  b : Below Y WY W
  ob : Blk W Y 51 #[.string nm, v]
  row : SpansOut (Y + 1) W v rs
theorem FiY.bb {WY W : World} {Y : Nat} {nm : ByteArray} {v : Value} {rs : List (Int × Int)} (h : FiY WY Y nm v rs W) : Below WY.heap.size WY W := by rw [h.hx]; exact h.b
theorem FiY.on {WY W W' : World} {Y : Nat} {nm : ByteArray} {v : Value} {rs : List (Int × Int)} (h : FiY WY Y nm v rs W) (hb : Below W.heap.size W W') : FiY WY Y nm v rs W' := ⟨h.hx, h.b.trans (hb.mono (Nat.le_of_lt h.ob.lt)), h.ob.on hb, h.row.on hb⟩
theorem FiY.new (WY : World) (nm : ByteArray) : FiY WY WY.heap.size nm (.slice none 0 0) [] (WY.alloc (.cells #[.string nm, .slice none 0 0] 51)) :=
  ⟨rfl, (Below.refl _ WY).alloc (Nat.le_refl _) _, Blk.new _ _ _, World.ownsRow_nil _ _ _ _⟩
theorem FiY.more {WY wr wa w7 : World} {Y : Nat} {nm : ByteArray} {n vc gg cap : Nat} {rs : List (Int × Int)} {va : Option Addr} (h : FiY WY Y nm (.slice va n vc) rs wr) (hn : n = rs.length) {p : Int × Int}
    (hown : w7.ownsRow (Y + 1) 43 2 (.slice (some ⟨gg, 0, none⟩) (n + 1) cap) (n + 1) (spanCells rs ++ [.int .i64 p.1, .int .i64 p.2])) (hwa : Below wr.heap.size wr wa) (hgrow : wa.grownBy w7 (Value.ownBlock (.slice va n vc))) :
    FiY WY Y nm (.slice (some ⟨gg, 0, none⟩) (n + 1) cap) (rs ++ [p]) (w7.setCell ⟨Y, 1, none⟩ (.slice (some ⟨gg, 0, none⟩) (n + 1) cap)) := by
  subst hn
  have hr : ∀ r, Value.ownBlock (.slice va rs.length vc) = some r → Y + 1 ≤ r := fun r e => (World.ownsRow.lt h.row r e).1
  have ha := h.on hwa
  have hs := ha.ob.lt
  have ho := ha.ob.grown hgrow hr (by omega)
  have gs := grown_set w7 Y 1 (.slice (some ⟨gg, 0, none⟩) (rs.length + 1) cap)
  have hg := (World.ownsRow.lt hown gg rfl).1
  refine ⟨h.hx, (ha.b.grown hgrow (by omega) (fun r e => by have := hr r e; omega)).setCell (Nat.le_refl _) _, ?_, ?_⟩
  · have b := ho.set_ 1 (.slice (some ⟨gg, 0, none⟩) (rs.length + 1) cap)
    simpa using b
  · have h7 := World.ownsRow.kept hown gs (by
      right
      intro e
      have e2 : gg = Y := by simpa [Value.ownBlock] using e
      omega)
    simpa [SpansOut, spanCells] using h7

/-- The finer table, with its kinds as far as they go. -/
structure FiK (WX : World) (X : Nat) (pu : Int) (pv : Value) (ps : List Pr) (KB : Nat) (v : Value) (ks : List Kd) (W : World) : Prop where
  hx : WX.heap.size = X
  b : Below X WX W
  ob : Blk W X 25 #[pv, v, .int .i64 pu]
  pr : PropsOut (X + 1) W pv ps
  plt : ∀ g, pv.ownBlock = some g → g < KB
  kr : KindsOut KB W v ks
  le : X + 1 ≤ KB
  sz : KB ≤ W.heap.size
theorem FiK.bb {WX W : World} {X : Nat} {pu : Int} {pv v : Value} {ps : List Pr} {KB : Nat} {ks : List Kd} (h : FiK WX X pu pv ps KB v ks W) : Below WX.heap.size WX W := by rw [h.hx]; exact h.b
theorem FiK.on {WX W W' : World} {X : Nat} {pu : Int} {pv v : Value} {ps : List Pr} {KB : Nat} {ks : List Kd} (h : FiK WX X pu pv ps KB v ks W) (hb : Below W.heap.size W W') : FiK WX X pu pv ps KB v ks W' :=
  ⟨h.hx, h.b.trans (hb.mono (Nat.le_of_lt h.ob.lt)), h.ob.on hb, h.pr.on hb, h.plt, h.kr.on hb, h.le, Nat.le_trans h.sz hb.size⟩
theorem FiP.kinds {WX W : World} {X : Nat} {pu : Int} {v : Value} {ps : List Pr} (h : FiP WX X pu v ps W) : FiK WX X pu v ps W.heap.size (.slice none 0 0) [] W :=
  ⟨h.hx, h.b, h.ob, h.row, fun g e => (World.ownsRow.lt h.row g e).2, KindsOut.nil _ _, h.ob.lt, Nat.le_refl _⟩
theorem FiK.more {WX wr w4 w7 : World} {X Y : Nat} {pu : Int} {pv : Value} {ps : List Pr} {KB n vc gg cap : Nat} {ks : List Kd} {va : Option Addr} (h : FiK WX X pu pv ps KB (.slice va n vc) ks wr) (hn : n = ks.length)
    {nm : ByteArray} {ad : Option Addr} {cp : Nat} {rs : List (Int × Int)} (hY : FiY wr Y nm (.slice ad rs.length cp) rs w4)
    (hown : w7.ownsRow KB 51 2 (.slice (some ⟨gg, 0, none⟩) (n + 1) cap) (n + 1) (kdCells ks ++ [.string nm, .slice ad rs.length cp]))
    (hgrow : (w4.alloc (.cells #[.string nm, .slice ad rs.length cp] 51)).grownBy w7 (Value.ownBlock (.slice va n vc))) (hat : Value.ownBlock (.slice va n vc) = some gg ∨ gg = w4.heap.size + 1) :
    FiK WX X pu pv ps KB (.slice (some ⟨gg, 0, none⟩) (n + 1) cap) (ks ++ [⟨nm, ad, cp, rs⟩]) (w7.setCell ⟨X, 1, none⟩ (.slice (some ⟨gg, 0, none⟩) (n + 1) cap)) := by
  subst hn
  have hle := h.le
  have hsz := h.sz
  have hyb := hY.bb
  have hr : ∀ r, Value.ownBlock (.slice va ks.length vc) = some r → KB ≤ r := fun r e => (World.ownsRow.lt h.kr.row r e).1
  have ha := (h.on hyb).on ((Below.refl _ w4).alloc (Nat.le_refl _) (.cells #[.string nm, .slice ad rs.length cp] 51))
  have hs := ha.ob.lt
  have h4 := hyb.size
  have hg7 := hgrow.size
  rw [World.size_alloc] at hg7
  have ho := ha.ob.grown hgrow hr (by omega)
  have gs := grown_set w7 X 1 (.slice (some ⟨gg, 0, none⟩) (ks.length + 1) cap)
  have hm := (h.kr.more (below_grown hyb (some 0)) (by omega) hsz (hY.row.base (by have := hY.hx; omega)) hown hgrow hat).far gs (fun j e => by cases e; omega)
  refine ⟨h.hx, (ha.b.grown hgrow (by omega) (fun r e => by have := hr r e; omega)).setCell (Nat.le_refl _) _, ?_, ?_, h.plt, hm, hle, by simp; omega⟩
  · have b := ho.set_ 1 (.slice (some ⟨gg, 0, none⟩) (ks.length + 1) cap)
    simpa using b
  · have h7 : PropsOut (X + 1) w7 pv ps := World.ownsRow.kept ha.pr hgrow (by
      cases hv : Value.ownBlock pv with
      | none => exact .inl rfl
      | some g => right; intro e; have := h.plt g hv; have := hr g e.symm; omega)
    exact World.ownsRow.kept h7 gs (by
      cases hv : Value.ownBlock pv with
      | none => exact .inl rfl
      | some g => right; intro e; have := (World.ownsRow.lt h7 g hv).1; cases e; omega)
theorem FiK.tab {WX W : World} {X : Nat} {pu : Int} {pa ka : Option Addr} {n m pc kc : Nat} {ps : List Pr} {KB : Nat} {ks : List Kd} (h : FiK WX X pu (.slice pa n pc) ps KB (.slice ka m kc) ks W) (hF : NamesFit ⟨ps, ks, pu⟩) : n = ps.length ∧ m = ks.length ∧ TabIn W pa ka pc kc ⟨ps, ks, pu⟩ :=
  tab_of_outs (t := ⟨ps, ks, pu⟩) h.pr h.kr hF
theorem fits_finer {s t : Tab} (h : Finer s t) (hF : NamesFit t) : NamesFit s := by
  refine ⟨fun p hp => ?_, fun k hk => ?_⟩
  · obtain ⟨i, hi⟩ := List.mem_iff_getElem?.1 hp
    have hlt := (List.getElem?_eq_some_iff.1 hi).1
    have ht : t.ps[i]? = some (t.ps[i]'(by rw [← h.np]; exact hlt)) := List.getElem?_eq_getElem _
    rw [(h.er i _ _ ht hi).1]
    exact hF.1 _ (List.mem_of_getElem? ht)
  · obtain ⟨i, hi⟩ := List.mem_iff_getElem?.1 hk
    have hlt := (List.getElem?_eq_some_iff.1 hi).1
    have ht : t.ks[i]? = some (t.ks[i]'(by rw [← h.nk]; exact hlt)) := List.getElem?_eq_getElem _
    rw [(h.kn i _ _ ht hi).1]
    exact hF.2 _ (List.mem_of_getElem? ht)

/-- Two tables in a row. -/
structure TwoT (TB : Nat) (i : Nat) (pa ka : Option Addr) (pn kn pc kc : Nat) (pu : Int) (W : World) : Prop where
  c0 : W.cell? ⟨TB, i * 3, none⟩ = some (.slice pa pn pc)
  c1 : W.cell? ⟨TB, i * 3 + 1, none⟩ = some (.slice ka kn kc)
  c2 : W.cell? ⟨TB, i * 3 + 2, none⟩ = some (.int .i64 pu)
  lt : TB < W.heap.size
theorem TwoT.on {TB i : Nat} {pa ka : Option Addr} {pn kn pc kc : Nat} {pu : Int} {W W' : World} (h : TwoT TB i pa ka pn kn pc kc pu W) (hb : Below W.heap.size W W') : TwoT TB i pa ka pn kn pc kc pu W' :=
  ⟨kept_of hb _ _ h.c0, kept_of hb _ _ h.c1, kept_of hb _ _ h.c2, Nat.lt_of_lt_of_le h.lt hb.size⟩
end Go.Proofs.YthihpggjglghoaaGreatDoor

namespace Go.Proofs.YthihpggjglghoaaGreatDoor

/-- The sets below k. -/
def allV (t : Tab) (l : List Int) (k : Nat) : List Int := ((List.range k).filter fun s => decide (s ∈ setList t l)).map fun s : Nat => (s : Int)
theorem allV_succ (t : Tab) (l : List Int) (k : Nat) : allV t l (k + 1) = allV t l k ++ (if k ∈ setList t l then [(k : Int)] else []) := by
  unfold allV
  rw [List.range_succ, List.filter_append, List.map_append]
  by_cases h : k ∈ setList t l <;> simp [h]
theorem allV_len (t : Tab) (l : List Int) (k : Nat) : (allV t l k).length ≤ k := by
  unfold allV
  rw [List.length_map]
  exact Nat.le_trans (List.length_filter_le _ _) (by simp)
theorem setList_lt {t : Tab} {l : List Int} {s : Nat} (h : s ∈ setList t l) : 1 ≤ s ∧ s < 2 ^ t.ks.length := by
  obtain ⟨x, _, rfl⟩ := List.mem_map.1 h
  refine ⟨?_, Nat.or_lt_two_pow (Nat.pow_lt_pow_right (by omega) x.1.2) (Nat.pow_lt_pow_right (by omega) x.2.2)⟩
  exact Nat.le_trans Nat.one_le_two_pow (Nat.left_le_or)
theorem allV_more (t : Tab) (l : List Int) : ∀ m, allV t l (2 ^ t.ks.length + m) = allV t l (2 ^ t.ks.length)
  | 0 => rfl
  | m + 1 => by
    rw [← Nat.add_assoc, allV_succ, if_neg (fun h => by have := (setList_lt h).2; omega), List.append_nil, allV_more t l m]
theorem allV_end {t : Tab} (l : List Int) (h8 : t.ks.length ≤ 8) : allV t l (2 ^ t.ks.length) = setsV t l := by
  have h1 : 2 ^ t.ks.length ≤ 2 ^ 8 := Nat.pow_le_pow_right (by omega) h8
  have h2 := allV_more t l (256 - 2 ^ t.ks.length)
  rw [show 2 ^ t.ks.length + (256 - 2 ^ t.ks.length) = 256 by omega] at h2
  exact h2.symm
theorem allV_one (t : Tab) (l : List Int) : allV t l 1 = [] := by
  rw [allV_succ, if_neg (fun h => by have := (setList_lt h).1; omega)]
  rfl
/-- A pair is this set. -/
def okR (t : Tab) (l : List Int) (s a b : Nat) : Bool := (partsR t l a b 1 999).2 && decide (s = 2 ^ a + 2 ^ b)
/-- A kind alone is. -/
def okA (t : Tab) (l : List Int) (s a : Nat) : Bool := decide (s = 2 ^ a) && explB t l a a 1000
def hitA (t : Tab) (l : List Int) (s a : Nat) : Bool := (List.range a).any fun a' => (List.range a').any (okR t l s a') || okA t l s a'
def hitI (t : Tab) (l : List Int) (s a b : Nat) : Bool := hitA t l s a || (List.range b).any (okR t l s a)
theorem hitI_zero (t : Tab) (l : List Int) (s a : Nat) : hitI t l s a 0 = hitA t l s a := by simp [hitI]
theorem hitI_succ (t : Tab) (l : List Int) (s a b : Nat) : hitI t l s a (b + 1) = (hitI t l s a b || okR t l s a b) := by
  unfold hitI
  rw [List.range_succ, List.any_append]
  simp [Bool.or_assoc]
theorem hitA_succ (t : Tab) (l : List Int) (s a : Nat) : hitA t l s (a + 1) = (hitI t l s a a || okA t l s a) := by
  unfold hitI hitA
  rw [List.range_succ, List.any_append]
  simp [Bool.or_assoc]
theorem two_pow_ne {a b : Nat} (h : b < a) : 2 ^ b < 2 ^ a := Nat.pow_lt_pow_right (by omega) h
/-- The greater of two different bits is the first one. -/
theorem two_bits {a b c d : Nat} (h : b < a) (k : d < c) (e : 2 ^ a + 2 ^ b = 2 ^ c + 2 ^ d) : a = c ∧ b = d := by
  have h1 := two_pow_ne h
  have h2 := two_pow_ne k
  have p1 := Nat.two_pow_pos b
  have p2 := Nat.two_pow_pos d
  have hac : a = c := by
    rcases Nat.lt_trichotomy a c with h3 | h3 | h3
    · have := Nat.pow_le_pow_right (n := 2) (by omega) (show a + 1 ≤ c by omega)
      rw [Nat.pow_succ] at this
      omega
    · exact h3
    · have := Nat.pow_le_pow_right (n := 2) (by omega) (show c + 1 ≤ a by omega)
      rw [Nat.pow_succ] at this
      omega
  subst hac
  refine ⟨rfl, ?_⟩
  rcases Nat.lt_trichotomy b d with h3 | h3 | h3
  · have := two_pow_ne h3; omega
  · exact h3
  · have := two_pow_ne h3; omega
theorem one_bit {a c d : Nat} (k : d < c) (e : 2 ^ a = 2 ^ c + 2 ^ d) : False := by
  have h2 := two_pow_ne k
  have h0 : 0 < 2 ^ d := Nat.two_pow_pos d
  rcases Nat.lt_or_ge c a with h3 | h3
  · have := Nat.pow_le_pow_right (n := 2) (by omega) (show c + 1 ≤ a by omega)
    rw [Nat.pow_succ] at this
    omega
  · have := Nat.pow_le_pow_right (n := 2) (by omega) h3
    omega
theorem pow_inj {a c : Nat} (e : 2 ^ a = 2 ^ c) : a = c := by
  rcases Nat.lt_trichotomy a c with h | h | h
  · have := two_pow_ne h; omega
  · exact h
  · have := two_pow_ne h; omega
/-- What is met ahead, if it is this set. -/
theorem hitA_at {t : Tab} {l : List Int} {s a : Nat} (h : hitA t l s a = true) : ∃ a', a' < a ∧ ((∃ b', b' < a' ∧ s = 2 ^ a' + 2 ^ b') ∨ s = 2 ^ a') := by
  obtain ⟨a', h1, h2⟩ := List.any_eq_true.1 h
  rcases Bool.or_eq_true_iff.1 h2 with h3 | h3
  · obtain ⟨b', h4, h5⟩ := List.any_eq_true.1 h3
    exact ⟨a', List.mem_range.1 h1, .inl ⟨b', List.mem_range.1 h4, of_decide_eq_true (Bool.and_eq_true_iff.1 h5).2⟩⟩
  · exact ⟨a', List.mem_range.1 h1, .inr (of_decide_eq_true (Bool.and_eq_true_iff.1 h3).1)⟩
theorem hitI_first {t : Tab} {l : List Int} {s a b : Nat} (hb : b < a) (h : okR t l s a b = true) : hitI t l s a b = false := by
  have hs : s = 2 ^ a + 2 ^ b := of_decide_eq_true (Bool.and_eq_true_iff.1 h).2
  rw [Bool.eq_false_iff]
  intro hh
  rcases Bool.or_eq_true_iff.1 hh with h1 | h1
  · obtain ⟨a', h2, ⟨b', h3, h4⟩ | h4⟩ := hitA_at h1
    · have := two_bits hb h3 (hs.symm.trans h4); omega
    · exact one_bit hb (h4.symm.trans hs)
  · obtain ⟨b', h2, h3⟩ := List.any_eq_true.1 h1
    have h2 := List.mem_range.1 h2
    have := two_bits hb (show b' < a by omega) (hs.symm.trans (of_decide_eq_true (Bool.and_eq_true_iff.1 h3).2)); omega
theorem hitI_alone {t : Tab} {l : List Int} {s a : Nat} (h : okA t l s a = true) : hitI t l s a a = false := by
  have hs : s = 2 ^ a := of_decide_eq_true (Bool.and_eq_true_iff.1 h).1
  rw [Bool.eq_false_iff]
  intro hh
  rcases Bool.or_eq_true_iff.1 hh with h1 | h1
  · obtain ⟨a', h2, ⟨b', h3, h4⟩ | h4⟩ := hitA_at h1
    · exact one_bit h3 (hs.symm.trans h4)
    · have := pow_inj (hs.symm.trans h4); omega
  · obtain ⟨b', h2, h3⟩ := List.any_eq_true.1 h1
    exact one_bit (List.mem_range.1 h2) (hs.symm.trans (of_decide_eq_true (Bool.and_eq_true_iff.1 h3).2))
theorem partsR_some {t : Tab} {l : List Int} {a b : Nat} {low high : Int} (h : (partsR t l a b low high).2 = true) :
    ((partsR t l a b low high).1.1 ≤ (partsR t l a b low high).1.2 ∧ low ≤ (partsR t l a b low high).1.1 ∧ (partsR t l a b low high).1.2 ≤ high) ∧ ∀ n, (partsR t l a b low high).1.1 ≤ n ∧ n ≤ (partsR t l a b low high).1.2 ↔ (low ≤ n ∧ n ≤ high) ∧ explB t l a b n = true := by
  have h1 := tight_in t l a b low high
  have h2 := fun n => tight_expl t l a b (low, high) n
  unfold partsR at *
  by_cases hc : (tightL (bnds t l a b) (low, high)).1 ≤ (tightL (bnds t l a b) (low, high)).2
  · rw [if_pos hc]
    exact ⟨⟨hc, (h1 hc).1, (h1 hc).2⟩, h2⟩
  · rw [if_neg hc] at h; cases h
theorem hitA_end {t : Tab} {l : List Int} (h8 : t.ks.length ≤ 8) (s : Nat) : hitA t l s t.ks.length = decide (s ∈ setList t l) := by
  rw [Bool.eq_iff_iff, decide_eq_true_eq]
  constructor
  · intro h
    obtain ⟨a, h1, h2⟩ := List.any_eq_true.1 h
    have ha := List.mem_range.1 h1
    rcases Bool.or_eq_true_iff.1 h2 with h3 | h3
    · obtain ⟨b, h4, h5⟩ := List.any_eq_true.1 h3
      have hb := List.mem_range.1 h4
      obtain ⟨h6, h7⟩ := Bool.and_eq_true_iff.1 h5
      have h7 := of_decide_eq_true h7
      have hp := partsR_some h6
      have he := (hp.2 _).1 ⟨Int.le_refl _, hp.1.1⟩
      refine List.mem_map.2 ⟨(⟨b, by omega⟩, ⟨a, ha⟩), (mem_outer _ _ (Nat.le_refl _)).2 ⟨by show b < _; omega, by show b ≤ a; omega, pairOk_of (n := 1000 - (partsR t l a b 1 999).1.1) (by rw [if_neg (by show ¬ b = a; omega)]; omega) (by rw [← explB_sym]; exact he.2)⟩, ?_⟩
      unfold pairSet
      rw [h7, Nat.or_comm]
      exact or_add ⟨a, by omega⟩ ⟨b, by omega⟩ (fun e => (show ¬ a = b by omega) (by simpa using e))
    · obtain ⟨h6, h7⟩ := Bool.and_eq_true_iff.1 h3
      have h6 := of_decide_eq_true h6
      refine List.mem_map.2 ⟨(⟨a, ha⟩, ⟨a, ha⟩), (mem_outer _ _ (Nat.le_refl _)).2 ⟨ha, Nat.le_refl _, by rw [pairOk_expl]; exact h7⟩, ?_⟩
      unfold pairSet
      rw [h6, Nat.or_self]
  · intro h
    obtain ⟨x, hx, rfl⟩ := List.mem_map.1 h
    obtain ⟨_, h1, h2⟩ := (mem_outer x _ (Nat.le_refl _)).1 hx
    have hx2 := x.2.2
    refine List.any_eq_true.2 ⟨x.2.1, List.mem_range.2 hx2, ?_⟩
    rw [Bool.or_eq_true]
    by_cases hc : x.1.1 = x.2.1
    · right
      rw [hc, pairOk_expl] at h2
      unfold okA pairSet
      rw [h2, hc, Nat.or_self]
      simp
    · left
      obtain ⟨n, hn, he⟩ := pairOk_some h2
      rw [if_neg hc] at hn
      refine List.any_eq_true.2 ⟨x.1.1, List.mem_range.2 (by omega), ?_⟩
      unfold okR
      rw [partsR_true (n := 1000 - n) (by omega) (by rw [explB_sym, show (1000 : Int) - (1000 - n) = n by omega]; exact he), Bool.true_and]
      refine decide_eq_true ?_
      unfold pairSet
      rw [Nat.or_comm]
      exact or_add ⟨x.2.1, by omega⟩ ⟨x.1.1, by omega⟩ (fun e => hc (show x.2.1 = x.1.1 by simpa using e).symm)
/-- What has been met, a set after another. -/
def allI (t : Tab) (l : List Int) (s a b : Nat) : List Int := allV t l s ++ (if hitI t l s a b then [(s : Int)] else [])
theorem allI_start (t : Tab) (l : List Int) (s : Nat) : allI t l s 0 0 = allV t l s := by simp [allI, hitI, hitA]
theorem allI_no {t : Tab} {l : List Int} {s a b : Nat} (h : okR t l s a b = false) : allI t l s a (b + 1) = allI t l s a b := by
  unfold allI
  rw [hitI_succ, h, Bool.or_false]
theorem allI_yes {t : Tab} {l : List Int} {s a b : Nat} (hb : b < a) (h : okR t l s a b = true) : allI t l s a (b + 1) = allI t l s a b ++ [(s : Int)] := by
  unfold allI
  rw [hitI_succ, h, hitI_first hb h]
  simp
theorem allA_no {t : Tab} {l : List Int} {s a : Nat} (h : okA t l s a = false) : allI t l s (a + 1) 0 = allI t l s a a := by
  unfold allI
  rw [hitI_zero, hitA_succ, h, Bool.or_false]
theorem allA_yes {t : Tab} {l : List Int} {s a : Nat} (h : okA t l s a = true) : allI t l s (a + 1) 0 = allI t l s a a ++ [(s : Int)] := by
  unfold allI
  rw [hitI_zero, hitA_succ, h, hitI_alone h]
  simp
theorem allI_end {t : Tab} {l : List Int} (h8 : t.ks.length ≤ 8) (s : Nat) : allI t l s t.ks.length 0 = allV t l (s + 1) := by
  unfold allI
  rw [hitI_zero, hitA_end h8, allV_succ]
  simp
theorem allI_len (t : Tab) (l : List Int) (s a b : Nat) : (allI t l s a b).length ≤ s + 1 := by
  have := allV_len t l s
  unfold allI
  rw [List.length_append]
  split <;> simp <;> omega

/-! ### hulls -/
def hullF (rs : List (Int × Int)) (acc : Int × Int) : Int × Int := rs.foldl (fun a r => (min a.1 r.1, max a.2 r.2)) acc
theorem hull_all (rs : List (Int × Int)) : ∀ (acc : Int × Int),
    ((hullF rs acc).1 = acc.1 ∨ ∃ x ∈ rs, (hullF rs acc).1 = x.1) ∧ ((hullF rs acc).2 = acc.2 ∨ ∃ x ∈ rs, (hullF rs acc).2 = x.2) ∧ ((hullF rs acc).1 ≤ acc.1 ∧ acc.2 ≤ (hullF rs acc).2) ∧ ∀ x ∈ rs, (hullF rs acc).1 ≤ x.1 ∧ x.2 ≤ (hullF rs acc).2 := by
  induction rs with
  | nil => intro acc; exact ⟨.inl rfl, .inl rfl, ⟨Int.le_refl _, Int.le_refl _⟩, fun x hx => by cases hx⟩
  | cons y ys ih =>
    intro acc
    have h := ih (min acc.1 y.1, max acc.2 y.2)
    have he : hullF (y :: ys) acc = hullF ys (min acc.1 y.1, max acc.2 y.2) := rfl
    rw [he]
    generalize hullF ys (min acc.1 y.1, max acc.2 y.2) = r at *
    obtain ⟨a1, a2, a3, a4⟩ := h
    dsimp only at a1 a2 a3
    replace a1 := Lib.hid a1
    replace a2 := Lib.hid a2
    refine ⟨?_, ?_, ⟨by omega, by omega⟩, ?_⟩
    · rcases a1.out with a1 | ⟨x, hx, e⟩
      · by_cases hc : acc.1 ≤ y.1
        · exact .inl (by omega)
        · exact .inr ⟨y, by simp, by omega⟩
      · exact .inr ⟨x, by simp [hx], e⟩
    · rcases a2.out with a2 | ⟨x, hx, e⟩
      · by_cases hc : y.2 ≤ acc.2
        · exact .inl (by omega)
        · exact .inr ⟨y, by simp, by omega⟩
      · exact .inr ⟨x, by simp [hx], e⟩
    · intro x hx
      rcases List.mem_cons.1 hx with rfl | hx
      · omega
      · exact a4 x hx
/-- Two hulls are one, if each range of the one is within some of the other, end by end. -/
theorem hull_same {A B : List (Int × Int)} {u v : Int × Int} (hA : A ≠ []) (ha : ∀ r ∈ A, r.1 ≤ u.1 ∧ u.2 ≤ r.2) (hb : ∀ r ∈ B, r.1 ≤ v.1 ∧ v.2 ≤ r.2)
    (h1 : ∀ r ∈ A, (∃ s ∈ B, s.1 ≤ r.1) ∧ ∃ s ∈ B, r.2 ≤ s.2) (h2 : ∀ s ∈ B, (∃ r ∈ A, r.1 ≤ s.1) ∧ ∃ r ∈ A, s.2 ≤ r.2) : hullF A u = hullF B v := by
  have p := (hull_all A u).2.2
  have q := (hull_all B v).2.2
  have top : ∀ (C : List (Int × Int)) (c : Int × Int), C ≠ [] → (∀ r ∈ C, r.1 ≤ c.1 ∧ c.2 ≤ r.2) → (∃ x ∈ C, (hullF C c).1 = x.1) ∧ ∃ x ∈ C, (hullF C c).2 = x.2 := by
    intro C c hC hc
    obtain ⟨a1, a2, a3, a4⟩ := hull_all C c
    replace a1 := Lib.hid a1
    replace a2 := Lib.hid a2
    obtain ⟨y, hy⟩ := List.exists_mem_of_ne_nil C hC
    have b1 := hc y hy
    have b2 := a4 y hy
    refine ⟨?_, ?_⟩
    · rcases a1.out with a1 | a1
      · exact ⟨y, hy, by omega⟩
      · exact a1
    · rcases a2.out with a2 | a2
      · exact ⟨y, hy, by omega⟩
      · exact a2
  have hB : B ≠ [] := by
    obtain ⟨y, hy⟩ := List.exists_mem_of_ne_nil A hA
    obtain ⟨⟨s, hs, _⟩, _⟩ := h1 y hy
    exact List.ne_nil_of_mem hs
  obtain ⟨⟨x1, hx1, e1⟩, ⟨x2, hx2, e2⟩⟩ := top A u hA ha
  obtain ⟨⟨y1, hy1, f1⟩, ⟨y2, hy2, f2⟩⟩ := top B v hB hb
  obtain ⟨s1, hs1, g1⟩ := (h1 x1 hx1).1
  obtain ⟨s2, hs2, g2⟩ := (h1 x2 hx2).2
  obtain ⟨r1, hr1, k1⟩ := (h2 y1 hy1).1
  obtain ⟨r2, hr2, k2⟩ := (h2 y2 hy2).2
  have m1 := (q.2 s1 hs1).1
  have m2 := (q.2 s2 hs2).2
  have n1 := (p.2 r1 hr1).1
  have n2 := (p.2 r2 hr2).2
  exact Prod.ext (by omega) (by omega)
end Go.Proofs.YthihpggjglghoaaGreatDoor

namespace Go.Proofs.YthihpggjglghoaaGreatDoor
open Go.RowKit Go.Shelf

theorem mul_in {n z : Int} (hn : 0 ≤ n ∧ n ≤ 1000) (hz : 0 ≤ z ∧ z ≤ 100000) : 0 ≤ n * z ∧ n * z ≤ 100000000 := by
  refine ⟨Int.mul_nonneg hn.1 hz.1, ?_⟩
  have h := Int.mul_le_mul hn.2 hz.2 hz.1 (by omega)
  omega

end Go.Proofs.YthihpggjglghoaaGreatDoor

namespace Go.Proofs.YthihpggjglghoaaGreatDoor
open Go.RowKit Go.Shelf

/-- What holds through the rounds. -/
structure ExI (w : World) (tc : Array Value) (W : World) : Prop where
  tb : Blk W w.heap.size 25 tc
  b : Below w.heap.size w W
theorem ExI.on {w W W' : World} {tc : Array Value} (h : ExI w tc W) (hb : Below W.heap.size W W') : ExI w tc W' := ⟨h.tb.on hb, h.b.trans (hb.mono h.b.size)⟩

/-- The readings ahead of i. -/
def explV (t : Tab) (l : List Int) (xa xb : List (Int × Int)) (n : Int) (i : Nat) : Bool := (List.range i).all (explAt t.ps xa xb l n)
theorem explV_succ {t : Tab} {l : List Int} {xa xb : List (Int × Int)} {n : Int} {i : Nat} {r : Int} {x y : Int × Int} {p : Pr} (hr : l[i]? = some r) (hx : xa[i]? = some x) (hy : xb[i]? = some y) (hp : t.ps[i]? = some p) :
    explV t l xa xb n (i + 1) = (explV t l xa xb n i && decide (r = -1 ∨ (n * x.1 + (1000 - n) * y.1 ≤ 1000 * (r + p.er) ∧ 1000 * (r - p.er) ≤ n * x.2 + (1000 - n) * y.2))) := by
  unfold explV
  rw [List.range_succ, List.all_append]
  simp [explAt, hr, hx, hy, hp]
theorem explV_all {t : Tab} {l : List Int} {xa xb : List (Int × Int)} {n : Int} {i : Nat} (hi : i < l.length) (h : explV t l xa xb n (i + 1) = false) : explV t l xa xb n l.length = false := by
  unfold explV at *
  rw [List.all_eq_false] at *
  obtain ⟨x, hx, h2⟩ := h
  exact ⟨x, List.mem_range.2 (by have := List.mem_range.1 hx; omega), h2⟩

end Go.Proofs.YthihpggjglghoaaGreatDoor

namespace Go.Proofs.YthihpggjglghoaaGreatDoor
open Go.RowKit Go.Shelf

/-- What holds through the rounds. -/
structure PaI (w : World) (tc : Array Value) (S : Int × Int) (W : World) : Prop where
  tb : Blk W w.heap.size 25 tc
  rb : Blk W (w.heap.size + 1) 43 #[.int .i64 0, .int .i64 0]
  ob : Blk W (w.heap.size + 1 + 1) 43 #[.int .i64 S.1, .int .i64 S.2]
  b : Below w.heap.size w W
theorem PaI.on {w W W' : World} {tc : Array Value} {S : Int × Int} (h : PaI w tc S W) (hb : Below W.heap.size W W') : PaI w tc S W' := ⟨h.tb.on hb, h.rb.on hb, h.ob.on hb, h.b.trans (hb.mono h.b.size)⟩
theorem PaI.hi {w W : World} {tc : Array Value} {S : Int × Int} (h : PaI w tc S W) (n : Int) : PaI w tc (S.1, n) (W.setCell ⟨w.heap.size + 1 + 1, 1, none⟩ (.int .i64 n)) :=
  ⟨h.tb.far (by show _ ≠ _; simp; omega) _, h.rb.far (by show _ ≠ _; simp) _, h.ob.set_ 1 _, h.b.setCell (by simp; omega) _⟩
theorem PaI.lo {w W : World} {tc : Array Value} {S : Int × Int} (h : PaI w tc S W) (n : Int) : PaI w tc (n, S.2) (W.setCell ⟨w.heap.size + 1 + 1, 0, none⟩ (.int .i64 n)) :=
  ⟨h.tb.far (by show _ ≠ _; simp; omega) _, h.rb.far (by show _ ≠ _; simp) _, h.ob.set_ 0 _, h.b.setCell (by simp; omega) _⟩

end Go.Proofs.YthihpggjglghoaaGreatDoor

namespace Go.Proofs.YthihpggjglghoaaGreatDoor
open Go.RowKit Go.Shelf

def inB (n lo hi : Int) : Bool := decide (lo ≤ n) && decide (n ≤ hi)
theorem inB_t {n lo hi : Int} (h1 : lo ≤ n) (h2 : n ≤ hi) : inB n lo hi = true := by simp [inB, h1, h2]
theorem inB_f {n lo hi : Int} (h : ¬ (lo ≤ n ∧ n ≤ hi)) : inB n lo hi = false := by
  unfold inB
  rw [Bool.and_eq_false_iff, decide_eq_false_iff_not, decide_eq_false_iff_not]
  omega
theorem inB_iff {n lo hi : Int} : inB n lo hi = true ↔ (lo ≤ n ∧ n ≤ hi) := by
  unfold inB
  rw [Bool.and_eq_true, decide_eq_true_eq, decide_eq_true_eq]
theorem rin_any (n lo hi : Int) (w : World) :
    Calls Tryz.prog 34 #[.int .i64 n, .int .i64 lo, .int .i64 hi] w fun e w' => e = .returned (.bool (inB n lo hi)) ∧ w' = w := by
  by_cases h1 : lo ≤ n
  · by_cases h2 : n ≤ hi
    · have H := Lib.hid (inB_t h1 h2)
      go_enter Tryz.func34, Tryz.ntmps34
      go_wp2
      go_ret
      exact ⟨ret_bool H.out.symm, rfl⟩
    · have H := Lib.hid (inB_f (n := n) (lo := lo) (hi := hi) (by omega))
      go_enter Tryz.func34, Tryz.ntmps34
      go_wp2
      go_ret
      exact ⟨ret_bool H.out.symm, rfl⟩
  · have H := Lib.hid (inB_f (n := n) (lo := lo) (hi := hi) (by omega))
    go_enter Tryz.func34, Tryz.ntmps34
    go_wp2
    go_ret
    exact ⟨ret_bool H.out.symm, rfl⟩

theorem nameRest_last : ∀ (l : List UInt8) (b : Nat), nameRest b l = true → ∀ x, l.getLast? = some x → x.toNat ≠ 45
  | [], _, _, x, hx => by simp at hx
  | [c], b, h, x, hx => by
    simp at hx
    subst hx
    intro e
    simp [nameRest, e] at h
  | c :: d :: l, b, h, x, hx => by
    rw [List.getLast?_cons_cons] at hx
    unfold nameRest at h
    split at h
    · exact nameRest_last (d :: l) _ h x hx
    · split at h
      · exact nameRest_last (d :: l) _ h x hx
      · cases h
/-- The byte before place k; a hyphen before the first one. -/
def befAt (s : ByteArray) (k : Nat) : Nat := if k = 0 then 45 else ((s.data.toList[k - 1]?).map UInt8.toNat).getD 45
theorem rest_step {s : ByteArray} {k : Nat} (h : k < s.size) : nameRest (befAt s k) (s.data.toList.drop k) = (if 97 ≤ (s[k]'h).toNat ∧ (s[k]'h).toNat ≤ 122 then nameRest (befAt s (k + 1)) (s.data.toList.drop (k + 1)) else if (s[k]'h).toNat = 45 ∧ befAt s k ≠ 45 then nameRest (befAt s (k + 1)) (s.data.toList.drop (k + 1)) else false) := by
  have hb : befAt s (k + 1) = (s[k]'h).toNat := by
    unfold befAt
    rw [if_neg (by omega), Nat.add_sub_cancel, List.getElem?_eq_getElem (by simpa using h)]
    rfl
  rw [drop_cons s k h, nameRest, hb]
  split
  · rfl
  · split
    · rename_i h2; rw [h2.1]
    · rfl
theorem bef_succ {s : ByteArray} {k : Nat} (h : k < s.size) : befAt s (k + 1) = (s[k]'h).toNat := by
  unfold befAt
  rw [if_neg (by omega), Nat.add_sub_cancel, List.getElem?_eq_getElem (by simpa using h)]
  rfl
theorem rest_end {s : ByteArray} (h : 0 < s.size) (hl : (s[s.size - 1]'(by omega)).toNat ≠ 45) : nameRest (befAt s s.size) (s.data.toList.drop s.size) = true := by
  have h1 := bef_succ (s := s) (k := s.size - 1) (by omega)
  rw [show s.size - 1 + 1 = s.size by omega] at h1
  rw [List.drop_of_length_le (by simp), nameRest, h1]
  simpa using hl
theorem nameB_len {s : ByteArray} (h : ¬ (1 ≤ s.size ∧ s.size ≤ 20)) : nameB s = false := by
  unfold nameB
  by_cases h2 : s.size ≤ 20
  · have h0 : s.data.toList = [] := by
      apply List.eq_nil_of_length_eq_zero
      have : s.data.toList.length = s.size := by simp
      omega
    rw [h0]
    simp [nameRest]
  · simp [h2]
theorem nameB_first {s : ByteArray} (h : 0 < s.size) (h0 : (s[0]'h).toNat = 45) : nameB s = false := by
  unfold nameB
  have hd := drop_cons s 0 h
  rw [List.drop_zero] at hd
  rw [hd, nameRest, if_neg (by omega), if_neg (by simp)]
  simp
theorem nameB_last {s : ByteArray} (h : 0 < s.size) (h0 : (s[s.size - 1]'(by omega)).toNat = 45) : nameB s = false := by
  unfold nameB
  rw [Bool.and_eq_false_iff]
  right
  cases hn : nameRest 45 s.data.toList with
  | false => rfl
  | true =>
    refine absurd h0 (nameRest_last _ _ hn _ ?_)
    rw [List.getLast?_eq_getElem?, List.getElem?_eq_getElem (by simp; omega)]
    simp
    rfl
theorem nameB_rest {s : ByteArray} (h2 : s.size ≤ 20) : nameB s = nameRest (befAt s 0) (s.data.toList.drop 0) := by
  unfold nameB
  rw [List.drop_zero]
  simp [h2, befAt]
end Go.Proofs.YthihpggjglghoaaGreatDoor

namespace Go.Proofs.YthihpggjglghoaaGreatDoor
open Go.RowKit Go.Shelf

set_option maxRecDepth 100000 in
set_option maxHeartbeats 2000000 in
theorem rname_any (s : ByteArray) (w : World) (hmax : s.size ≤ 9223372036854775807) :
    Calls Tryz.prog 74 #[.string s] w fun e w' => e = .returned (.bool (nameB s)) ∧ w' = w := by
  by_cases hl : 1 ≤ s.size ∧ s.size ≤ 20
  · obtain ⟨hl1, hl2⟩ := hl
    have hin : inB (s.size : Int) 1 20 = true := inB_t (by omega) (by omega)
    by_cases h0 : (s[0]'hl1).toNat = 45
    · have H := Lib.hid (nameB_first hl1 h0)
      have hq : (((s[0]'hl1).toNat : Int) == 45) = true := by simp; omega
      clear h0
      go_enter Tryz.func74, Tryz.ntmps74
      go_wp2_with (go_at_call 34; refine (rin_any _ _ _ _).mono ?_; rintro e w' ⟨rfl, rfl⟩)
      go_ret
      exact ⟨ret_bool H.out.symm, rfl⟩
    · have hq : (((s[0]'hl1).toNat : Int) == 45) = false := by simp; omega
      by_cases h1 : (s[s.size - 1]'(by omega)).toNat = 45
      · have H := Lib.hid (nameB_last hl1 h1)
        have hq1 : (((s[s.size - 1]'(by omega)).toNat : Int) == 45) = true := by simp; omega
        clear h0 h1
        go_enter Tryz.func74, Tryz.ntmps74
        go_wp2_with (go_at_call 34; refine (rin_any _ _ _ _).mono ?_; rintro e w' ⟨rfl, rfl⟩)
        go_ret
        exact ⟨ret_bool H.out.symm, rfl⟩
      · have hq1 : (((s[s.size - 1]'(by omega)).toNat : Int) == 45) = false := by simp; omega
        have HE := Lib.hid (rest_end hl1 h1)
        have H0 := Lib.hid (nameB_rest hl2)
        have HF := Lib.hid h0
        clear h0 h1
        go_enter Tryz.func74, Tryz.ntmps74
        go_wp2_with (go_at_call 34; refine (rin_any _ _ _ _).mono ?_; rintro e w' ⟨rfl, rfl⟩)
        go_loop [3] (fun i => ∃ k : Nat, k ≤ s.size ∧ i = .int .i64 k ∧ Hid (nameRest (befAt s k) (s.data.toList.drop k) = nameB s)) (fun i => s.size - (intOf i).toNat)
        case atStart => exact ⟨0, by omega, rfl, H0.out.symm⟩
        case round =>
          obtain ⟨k, hk, rfl, HR⟩ := hrel
          by_cases hlt : k < s.size
          · have HS := Lib.hid (rest_step hlt)
            have bd1 : ((s[k]'hlt).toNat : Int) ≤ 255 := by have := (s[k]'hlt).toNat_lt; omega
            have bd0 : (0 : Int) ≤ ((s[k]'hlt).toNat : Int) := by omega
            by_cases hlet : 97 ≤ (s[k]'hlt).toNat ∧ (s[k]'hlt).toNat ≤ 122
            · have HN : Hid (nameRest (befAt s (k + 1)) (s.data.toList.drop (k + 1)) = nameB s) := by
                show _ = _
                rw [← HR.out, HS.out, if_pos hlet]
              have f1 : (((s[k]'hlt).toNat : Int) != 45) = true := by simp; omega
              have f2 : (((s[k]'hlt).toNat : Int) == 45) = false := by simp; omega
              have f3 : inB ((s[k]'hlt).toNat : Int) 97 122 = true := inB_t (by omega) (by omega)
              clear hlet HS HR
              by_cases hk0 : 0 < k
              all_goals
                go_wp2_with (go_at_call 34; refine (rin_any _ _ _ _).mono ?_; rintro e w' ⟨rfl, rfl⟩)
                go_round
                case rel => exact ⟨k + 1, by omega, by go_num, HN⟩
                case measure => simp [intOf]; omega
            · by_cases hc : (s[k]'hlt).toNat = 45
              · have hk0 : 0 < k := by
                  rcases Nat.eq_zero_or_pos k with h | h
                  · subst h; exact absurd hc HF.out
                  · exact h
                have hbf := bef_succ (s := s) (k := k - 1) (by omega)
                rw [show k - 1 + 1 = k by omega] at hbf
                have f1 : (((s[k]'hlt).toNat : Int) != 45) = false := by simp; omega
                have f2 : (((s[k]'hlt).toNat : Int) == 45) = true := by simp; omega
                by_cases hp : (s[k - 1]'(by omega)).toNat = 45
                · have f3 : (((s[k - 1]'(by omega)).toNat : Int) == 45) = true := by simp; omega
                  have HN := Lib.hid (show nameB s = false by rw [← HR.out, HS.out, if_neg hlet, if_neg (by rw [hbf]; omega)])
                  clear hlet HS HR hc hp hbf
                  go_wp2_with (go_at_call 34; refine (rin_any _ _ _ _).mono ?_; rintro e w' ⟨rfl, rfl⟩)
                  go_ret
                  exact ⟨ret_bool HN.out.symm, rfl⟩
                · have f3 : (((s[k - 1]'(by omega)).toNat : Int) == 45) = false := by simp; omega
                  have HN : Hid (nameRest (befAt s (k + 1)) (s.data.toList.drop (k + 1)) = nameB s) := by
                    show _ = _
                    rw [← HR.out, HS.out, if_neg hlet, if_pos ⟨hc, by rw [hbf]; exact hp⟩]
                  clear hlet HS HR hc hp hbf
                  go_wp2_with (go_at_call 34; refine (rin_any _ _ _ _).mono ?_; rintro e w' ⟨rfl, rfl⟩)
                  go_round
                  case rel => exact ⟨k + 1, by omega, by go_num, HN⟩
                  case measure => simp [intOf]; omega
              · have HN := Lib.hid (show nameB s = false by rw [← HR.out, HS.out, if_neg hlet, if_neg (fun h => hc h.1)])
                have f1 : (((s[k]'hlt).toNat : Int) != 45) = true := by simp; omega
                have f3 : inB ((s[k]'hlt).toNat : Int) 97 122 = false := inB_f (by omega)
                clear hlet HS HR hc
                go_wp2_with (go_at_call 34; refine (rin_any _ _ _ _).mono ?_; rintro e w' ⟨rfl, rfl⟩)
                go_ret
                exact ⟨ret_bool HN.out.symm, rfl⟩
          · have hke : k = s.size := by omega
            have HN := Lib.hid (show nameB s = true by rw [← HR.out, hke]; exact HE.out)
            clear hke HR
            go_wp2_with (go_at_call 34; refine (rin_any _ _ _ _).mono ?_; rintro e w' ⟨rfl, rfl⟩)
            go_ret
            exact ⟨ret_bool HN.out.symm, rfl⟩
  · have hin : inB (s.size : Int) 1 20 = false := inB_f (by omega)
    have H := Lib.hid (nameB_len hl)
    clear hl
    go_enter Tryz.func74, Tryz.ntmps74
    go_wp2_with (go_at_call 34; refine (rin_any _ _ _ _).mono ?_; rintro e w' ⟨rfl, rfl⟩)
    go_ret
    exact ⟨ret_bool H.out.symm, rfl⟩
end Go.Proofs.YthihpggjglghoaaGreatDoor

namespace Go.Proofs.YthihpggjglghoaaGreatDoor
open Go.RowKit Go.Shelf

theorem any_take_all {α : Type} (p : α → Bool) (l : List α) (k : Nat) (hk : k = l.length) (h : (l.take k).any p = false) : l.any p = false := by
  rw [hk, List.take_length] at h; exact h
theorem any_take_step {α : Type} (p : α → Bool) (l : List α) (k : Nat) (x : α) (hx : l[k]? = some x) : (l.take (k + 1)).any p = ((l.take k).any p || p x) := by
  rw [List.take_add_one, hx]; simp
set_option maxRecDepth 100000 in
set_option maxHeartbeats 2000000 in
theorem rnamed_any {w : World} {A : Option Addr} {c : Nat} {bef : List ByteArray} (s : ByteArray) (hmax : s.size ≤ 9223372036854775807) (hb : StrsAt w w.heap.size A bef) (hl : bef.length ≤ 9223372036854775807) :
    Calls Tryz.prog 45 #[.string s, .slice A bef.length c] w fun e w' => e = .returned (.int .i64 (nameErr bef s)) ∧ w' = w := by
  cases hn : nameB s with
  | false =>
    have H := Lib.hid (show nameErr bef s = 6 by simp [nameErr, hn])
    have HC := Lib.hid (rname_any s w hmax)
    have HN := Lib.hid hn
    clear hn
    go_enter Tryz.func45, Tryz.ntmps45
    go_wp2_with fail
    refine HC.out.mono ?_
    rintro e w' ⟨rfl, rfl⟩
    rw [HN.out]
    go_wp2_with fail
    go_ret
    exact ⟨ret_i64 H.out.symm, rfl⟩
  | true =>
    have HC := Lib.hid (rname_any s w hmax)
    have HN := Lib.hid hn
    clear hn
    go_enter Tryz.func45, Tryz.ntmps45
    go_wp2_with fail
    refine HC.out.mono ?_
    rintro e w' ⟨rfl, rfl⟩
    rw [HN.out]
    go_wp2_with fail
    go_loop [5] (fun i => ∃ k : Nat, k ≤ bef.length ∧ i = .int .i64 k ∧ Hid ((bef.take k).any (fun y => y.toList == s.toList) = false)) (fun i => bef.length - (intOf i).toNat)
    case atStart => exact ⟨0, by omega, rfl, by show _ = _; simp⟩
    case round =>
      obtain ⟨k, hk, rfl, HR⟩ := hrel
      by_cases hlt : k < bef.length
      · obtain ⟨y, hy⟩ : ∃ y, bef[k]? = some y := ⟨bef[k], List.getElem?_eq_getElem hlt⟩
        obtain ⟨b, o, rfl, _, hcell⟩ := strs_at hb hy
        cases heq : (y.toList == s.toList) with
        | true =>
          have H := Lib.hid (show nameErr bef s = 5 by
            have h1 : bef.any (fun y => y.toList == s.toList) = true := List.any_eq_true.2 ⟨y, List.mem_of_getElem? hy, heq⟩
            simp [nameErr, HN.out, h1])
          clear hy
          go_wp2_with fail
          go_ret
          exact ⟨ret_i64 H.out.symm, rfl⟩
        | false =>
          have HR' : Hid ((bef.take (k + 1)).any (fun y => y.toList == s.toList) = false) := by
            show _ = _
            rw [any_take_step _ _ _ _ hy, HR.out, heq]; rfl
          clear hy HR
          go_wp2_with fail
          go_round
          case rel => exact ⟨k + 1, by omega, by go_num, HR'⟩
          case measure => simp [intOf]; omega
      · have H := Lib.hid (show nameErr bef s = 0 by
          have h1 := any_take_all _ _ k (by omega) HR.out
          simp [nameErr, HN.out, h1])
        clear HR
        go_wp2_with fail
        go_ret
        exact ⟨ret_i64 H.out.symm, rfl⟩

/-- The error of a range. -/
def spanErr (x : Int × Int) (a b : Int) : Int := if inB x.1 a b = false ∨ inB x.2 a b = false then 7 else if x.2 < x.1 then 2 else 0
theorem rspan_any (x : Int × Int) (a b : Int) (w : World) :
    Calls Tryz.prog 75 #[.agg #[.int .i64 x.1, .int .i64 x.2], .int .i64 a, .int .i64 b] w fun e w' => e = .returned (.int .i64 (spanErr x a b)) ∧ Below w.heap.size w w' := by
  obtain ⟨lo, hi⟩ := x
  have hb : Below w.heap.size w (w.alloc (.cells #[.int .i64 lo, .int .i64 hi] 43)) := (Below.refl _ w).alloc (Nat.le_refl _) _
  cases h1 : inB lo a b with
  | false =>
    have H := Lib.hid (show spanErr (lo, hi) a b = 7 by simp [spanErr, h1])
    go_enter Tryz.func75, Tryz.ntmps75
    go_wp2_with (go_at_call 34; refine (rin_any _ _ _ _).mono ?_; rintro e w' ⟨rfl, rfl⟩)
    go_ret
    exact ⟨ret_i64 H.out.symm, hb⟩
  | true =>
    cases h2 : inB hi a b with
    | false =>
      have H := Lib.hid (show spanErr (lo, hi) a b = 7 by simp [spanErr, h2])
      go_enter Tryz.func75, Tryz.ntmps75
      go_wp2_with (go_at_call 34; refine (rin_any _ _ _ _).mono ?_; rintro e w' ⟨rfl, rfl⟩)
      go_ret
      exact ⟨ret_i64 H.out.symm, hb⟩
    | true =>
      by_cases hlt : hi < lo
      · have H := Lib.hid (show spanErr (lo, hi) a b = 2 by simp [spanErr, h1, h2, hlt])
        go_enter Tryz.func75, Tryz.ntmps75
        go_wp2_with (go_at_call 34; refine (rin_any _ _ _ _).mono ?_; rintro e w' ⟨rfl, rfl⟩)
        go_ret
        exact ⟨ret_i64 H.out.symm, hb⟩
      · have H := Lib.hid (show spanErr (lo, hi) a b = 0 by simp [spanErr, h1, h2, hlt])
        go_enter Tryz.func75, Tryz.ntmps75
        go_wp2_with (go_at_call 34; refine (rin_any _ _ _ _).mono ?_; rintro e w' ⟨rfl, rfl⟩)
        go_ret
        exact ⟨ret_i64 H.out.symm, hb⟩
theorem spanErr_eq (x : Int × Int) : spanErr x 0 100000 = if beyondB x then 7 else if emptyB x then 2 else 0 := by
  have hb : (inB x.1 0 100000 = false ∨ inB x.2 0 100000 = false) ↔ beyondB x = true := by
    unfold beyondB
    rw [decide_eq_true_eq]
    have e1 : inB x.1 0 100000 = false ↔ ¬ (0 ≤ x.1 ∧ x.1 ≤ 100000) := by rw [← inB_iff]; simp
    have e2 : inB x.2 0 100000 = false ↔ ¬ (0 ≤ x.2 ∧ x.2 ≤ 100000) := by rw [← inB_iff]; simp
    rw [e1, e2]
    omega
  unfold spanErr
  by_cases h : beyondB x = true
  · rw [if_pos (hb.2 h), if_pos h]
  · rw [if_neg (fun e => h (hb.1 e)), if_neg h]
    by_cases h2 : x.2 < x.1
    · rw [if_pos h2, if_pos (by simp [emptyB, h2])]
    · rw [if_neg h2, if_neg (by simp [emptyB, h2])]
/-- The worst error of the first ranges. -/
def worstV (l : List (Int × Int)) : Int := if l.any emptyB then 2 else 0

set_option maxRecDepth 100000 in
set_option maxHeartbeats 2000000 in
theorem rranges_any {w : World} {A : Option Addr} {c : Nat} {l : List (Int × Int)} (np : Nat) (hs : SpansAt w w.heap.size A l) (hl : l.length ≤ 9223372036854775807) (hn : np ≤ 9223372036854775807) :
    Calls Tryz.prog 46 #[.slice A l.length c, .int .i64 np] w fun e w' => e = .returned (.int .i64 (rangesErr l np)) ∧ Below w.heap.size w w' := by
  by_cases hlen : np = l.length
  · subst hlen
    have H0 := Lib.hid (show rangesErr l l.length = if l.any beyondB then 7 else if l.any emptyB then 2 else 0 by simp [rangesErr])
    have HS := Lib.hid hs
    clear hs hn
    go_enter Tryz.func46, Tryz.ntmps46
    go_wp2_with fail
    go_loopw [5, 6] (fun v i wr => ∃ k : Nat, k ≤ l.length ∧ i = .int .i64 k ∧ ∃ z : Int, v = .int .i64 z ∧ Hid (z = worstV (l.take k)) ∧ Hid ((l.take k).any beyondB = false) ∧ Below w.heap.size w wr) (fun _ i _ => l.length - (intOf i).toNat)
    case atStart => exact ⟨0, by omega, rfl, 0, rfl, by show _ = _; simp [worstV], by show _ = _; simp, Below.refl _ _⟩
    case round =>
      obtain ⟨k, hk, rfl, z, rfl, HW, HB, hb⟩ := hrel
      by_cases hlt : k < l.length
      · obtain ⟨x, hx⟩ : ∃ x, l[k]? = some x := ⟨l[k], List.getElem?_eq_getElem hlt⟩
        obtain ⟨b, o, rfl, _, c1, c2⟩ := spans_at (RowAt.below HS.out hb (Nat.le_refl _)) hx
        have HX := Lib.hid hx
        have HE := Lib.hid (spanErr_eq x)
        clear hx
        go_wp2_with fail
        refine (rspan_any x 0 100000 _).mono ?_
        rintro e w1 ⟨rfl, hb1⟩
        have hbb := hb.trans (hb1.mono hb.size)
        rw [HE.out]
        cases h1 : beyondB x with
        | true =>
          have H := Lib.hid (show rangesErr l l.length = 7 by
            have h2 : l.any beyondB = true := List.any_eq_true.2 ⟨x, List.mem_of_getElem? HX.out, h1⟩
            rw [H0.out, if_pos h2])
          clear H0 HX HE HW HB hb hb1 c1 c2 h1
          simp only [if_true]
          go_wp2_with fail
          go_ret
          exact ⟨ret_i64 H.out.symm, hbb⟩
        | false =>
          have HB' : Hid ((l.take (k + 1)).any beyondB = false) := by
            show _ = _
            rw [any_take_step _ _ _ _ HX.out, HB.out, h1]; rfl
          cases h2 : emptyB x with
          | true =>
            have HW' : Hid ((2 : Int) = worstV (l.take (k + 1))) := by
              show _ = _
              unfold worstV
              rw [any_take_step _ _ _ _ HX.out, h2]; simp
            clear H0 HX HE HW HB hb hb1 c1 c2 h1 h2
            simp only [if_true, Bool.false_eq_true, if_false]
            go_wp2_with fail
            go_roundw
            case rel => exact ⟨k + 1, by omega, by go_num, 2, rfl, HW', HB', hbb⟩
            case measure => simp [intOf]; omega
          | false =>
            have HW' : Hid (z = worstV (l.take (k + 1))) := by
              show _ = _
              rw [HW.out]
              unfold worstV
              rw [any_take_step _ _ _ _ HX.out, h2, Bool.or_false]
            clear H0 HX HE HW HB hb hb1 c1 c2 h1 h2
            simp only [Bool.false_eq_true, if_false]
            go_wp2_with fail
            go_roundw
            case rel => exact ⟨k + 1, by omega, by go_num, z, rfl, HW', HB', hbb⟩
            case measure => simp [intOf]; omega
      · have H := Lib.hid (show rangesErr l l.length = z by
          have h1 := any_take_all _ _ k (by omega) HB.out
          have h2 := HW.out
          rw [show l.take k = l by rw [List.take_of_length_le (by omega)]] at h2
          rw [H0.out, h1, h2]; rfl)
        clear H0 HW HB
        go_wp2_with fail
        go_ret
        exact ⟨ret_i64 H.out.symm, hb⟩
  · have H := Lib.hid (show rangesErr l np = 3 by
      unfold rangesErr
      rw [if_pos (by omega)])
    have f1 : ((l.length : Int) != (np : Int)) = true := by
      have h : (l.length : Int) ≠ (np : Int) := fun e => hlen (by omega)
      simpa using h
    have f2 : (l.length != np) = true := by
      have h : l.length ≠ np := fun e => hlen e.symm
      simpa using h
    clear hlen
    go_enter Tryz.func46, Tryz.ntmps46
    go_wp2_with fail
    go_ret
    exact ⟨ret_i64 H.out.symm, Below.refl _ _⟩
end Go.Proofs.YthihpggjglghoaaGreatDoor

namespace Go.Proofs.YthihpggjglghoaaGreatDoor
open Go.RowKit Go.Shelf

theorem infoStr9 : (Tryz.prog.info? 9).map (fun i => (i.zero, i.size, i.bytes)) = some (some (.string ⟨#[]⟩), 1, 16) := by kernel_rfl
theorem StrsOut.reads {B n c : Nat} {w : World} {A : Option Addr} {l : List ByteArray} (h : StrsOut B w (.slice A n c) l) : n = l.length ∧ StrsAt w w.heap.size A l ∧ l.length ≤ c ∧ l.length ≤ maxLen :=
  own_rowAt (enc := encB) h (fun i x hi j hj => by
    obtain rfl : j = 0 := by omega
    rw [Nat.mul_one, Nat.add_zero, List.getElem?_map, hi]; rfl)
/-- Between two rounds of ref.Check. -/
structure CkI (w wr : World) (pa ka : Option Addr) (pc kc : Nat) (t : Tab) (v : Value) (l : List ByteArray) : Prop where
  own : StrsOut (w.heap.size + 1) wr v l
  box : Blk wr w.heap.size 25 #[.slice pa t.ps.length pc, .slice ka t.ks.length kc, .int .i64 t.pu]
  bel : Below w.heap.size w wr
  tab : TabIn wr pa ka pc kc t
theorem CkI.on {w wr wr' : World} {pa ka : Option Addr} {pc kc : Nat} {t : Tab} {v : Value} {l : List ByteArray} (h : CkI w wr pa ka pc kc t v l) (hb : Below wr.heap.size wr wr') : CkI w wr' pa ka pc kc t v l :=
  ⟨own_below h.own hb, h.box.on hb, h.bel.trans (hb.mono h.bel.size), h.tab.on hb⟩
theorem CkI.more {w wr w1 : World} {pa ka : Option Addr} {pc kc : Nat} {t : Tab} {v v1 : Value} {l : List ByteArray} {x : ByteArray} {o : Obj} (h : CkI w wr pa ka pc kc t v l)
    (hown : w1.ownsRow (w.heap.size + 1) 9 1 v1 (l.length + 1) (l.map Value.string ++ [.string x])) (hgrow : (wr.alloc o).grownBy w1 v.ownBlock) (h0 : TabIn w pa ka pc kc t) : CkI w w1 pa ka pc kc t v1 (l ++ [x]) := by
  have hb : Below w.heap.size w w1 := (h.bel.alloc h.bel.size o).grown hgrow (by have := h.bel.size; simp; omega) (fun r e => by have := (World.ownsRow.lt h.own r e).1; omega)
  refine ⟨?_, ?_, hb, h0.on hb⟩
  · show w1.ownsRow _ _ _ _ _ _
    simpa using hown
  · exact (hgrow.block _ (h.box.alloc o).lt (fun e => by have := (World.ownsRow.lt h.own _ e.symm).1; omega)).trans (h.box.alloc o)
theorem CkI.nil {w wr : World} {pa ka : Option Addr} {pc kc : Nat} {t : Tab} {v : Value} {l : List ByteArray} (h : CkI w wr pa ka pc kc t v l) : CkI w wr pa ka pc kc t (.slice none 0 0) [] := ⟨World.ownsRow_nil _ _ _ _, h.box, h.bel, h.tab⟩

theorem propErr_at {l : List Pr} {k : Nat} {x : Pr} (h : l[k]? = some x) : propErr l k = if nameErr ((l.take k).map Pr.nm) x.nm ≠ 0 then nameErr ((l.take k).map Pr.nm) x.nm else if inB x.er 0 10000 then 0 else 7 := by
  unfold propErr
  rw [h]
  simp only [inB_iff]
theorem kindErr_at {l : List Kd} {k : Nat} {x : Kd} {np : Int} (h : l[k]? = some x) : kindErr l np k = if nameErr ((l.take k).map Kd.nm) x.nm ≠ 0 then nameErr ((l.take k).map Kd.nm) x.nm else rangesErr x.rs np := by
  unfold kindErr
  rw [h]
theorem map_take_one {α β : Type} (f : α → β) {l : List α} {k : Nat} {x : α} (h : l[k]? = some x) : (l.take (k + 1)).map f = (l.take k).map f ++ [f x] := by
  rw [List.take_add_one, h]; simp
theorem counts_ok {t : Tab} (h : countsErr t = 0) : (1 ≤ t.ps.length ∧ t.ps.length ≤ 5) ∧ (1 ≤ t.ks.length ∧ t.ks.length ≤ 8) ∧ (1 ≤ t.pu ∧ t.pu ≤ 1000) := by
  unfold countsErr at h
  split at h
  · rename_i h1
    split at h
    · rename_i h2; exact ⟨h1.1, h1.2, h2⟩
    · simp at h
  · simp at h

theorem own_len {B k : Nat} {w : World} {v : Value} {l : List ByteArray} (h : StrsOut B w v l) (hl : l.length = k) : w.ownsRow B 9 1 v k (l.map Value.string) := by subst hl; exact h

set_option maxRecDepth 100000 in
set_option maxHeartbeats 4000000 in
theorem rcheck_ok {w : World} {pa ka : Option Addr} {pc kc : Nat} {t : Tab} (h : TabIn w pa ka pc kc t) (hc : countsErr t = 0) (R : Int × Int × Int) (hR : R = checkOf 0 (firstAt (propErr t.ps) t.ps.length) (firstAt (kindErr t.ks t.ps.length) t.ks.length)) :
    Calls Tryz.prog 20 #[.agg #[.slice pa t.ps.length pc, .slice ka t.ks.length kc, .int .i64 t.pu]] w fun e w' => e = .returned (.tuple #[.int .i64 R.1, .int .i64 R.2.1, .int .i64 R.2.2]) ∧ Below w.heap.size w w' := by
  obtain ⟨i0, hi0, hz0, hz1, hz2⟩ := info_parts infoStr9
  obtain ⟨⟨n1, n2⟩, ⟨m1, m2⟩, p1, p2⟩ := counts_ok hc
  have q1 : inB (t.ps.length : Int) 1 5 = true := inB_t (by omega) (by omega)
  have q2 : inB (t.ks.length : Int) 1 8 = true := inB_t (by omega) (by omega)
  have q3 : inB t.pu 1 1000 = true := inB_t p1 p2
  have HE := Lib.hid hR
  have H0 := Lib.hid h
  have hA := (Below.refl _ w).alloc (Nat.le_refl _) (.cells #[.slice pa t.ps.length pc, .slice ka t.ks.length kc, .int .i64 t.pu] 25)
  have HI : Hid (CkI w (w.alloc (.cells #[.slice pa t.ps.length pc, .slice ka t.ks.length kc, .int .i64 t.pu] 25)) pa ka pc kc t (.slice none 0 0) []) := ⟨World.ownsRow_nil _ _ _ _, Blk.new _ _ _, hA, h.on hA⟩
  clear hR h hc hA
  go_enter Tryz.func20, Tryz.ntmps20
  go_wp2_with (go_at_call 34; refine (rin_any _ _ _ _).mono ?_; rintro e w' ⟨rfl, rfl⟩)
  go_loopw [5, 6] (fun v i wr => ∃ k : Nat, k ≤ t.ps.length ∧ i = .int .i64 k ∧ Hid (CkI w wr pa ka pc kc t v ((t.ps.take k).map Pr.nm)) ∧ Hid (∀ i, i < k → propErr t.ps i = 0)) (fun _ i _ => t.ps.length - (intOf i).toNat)
  case atStart => exact ⟨0, by omega, rfl, HI, fun i hi => absurd hi (by omega)⟩
  case round =>
    obtain ⟨k, hk, rfl, HK, HN⟩ := hrel
    have hlen : ((t.ps.take k).map Pr.nm).length = k := by simp; omega
    obtain ⟨A, c, hv⟩ := own_slice HK.out.own
    rw [hlen] at hv
    subst hv
    obtain ⟨x0, x1, x2, _, _, _, _⟩ := HK.out.box.three
    have hbw := HK.out.bel
    by_cases hlt : k < t.ps.length
    · obtain ⟨x, hx⟩ : ∃ x, t.ps[k]? = some x := ⟨t.ps[k], List.getElem?_eq_getElem hlt⟩
      obtain ⟨b, o, rfl, _, c0, c1⟩ := props_at HK.out.tab.tab.ps hx
      have s2 := HK.out.own.reads.2.1
      have s4 := HK.out.own.reads.2.2.2
      have HX := Lib.hid hx
      have HP := Lib.hid (propErr_at hx)
      have hC := rnamed_any (c := c) x.nm (HK.out.tab.fit.1 x (List.mem_of_getElem? hx)) s2 (by unfold maxLen at s4; omega)
      rw [hlen] at hC
      have HC := Lib.hid hC
      have HO := Lib.hid HK.out.own
      have HL := Lib.hid hlen
      clear hx s2 s4 hC hlen
      go_wp2_with fail
      refine HC.out.mono ?_
      rintro e w1 ⟨rfl, he⟩
      obtain rfl : wr = w1 := he.symm
      clear HC
      generalize nameErr ((t.ps.take k).map Pr.nm) x.nm = z at *
      by_cases hz : z = 0
      · subst hz
        cases hin : inB x.er 0 10000 with
        | true =>
          have HZ := Lib.hid (show propErr t.ps k = 0 by rw [HP.out, hin]; simp)
          clear HP
          go_wp2_with (first
            | (go_at_call 34; refine (rin_any _ _ _ _).mono ?_; rintro e w' ⟨rfl, rfl⟩)
            | (at_builtin; go_must (refine wpList_append_lies _ rfl _ _ 60 rfl (w.heap.size + 1) 9 i0 (.string ⟨#[]⟩) 1 16 Tryz.underlying60 hi0 hz0 hz1 hz2 rfl (by decide) (.slice A k c) k (((t.ps.take k).map Pr.nm).map Value.string) rfl (World.ownsRow.alloc (own_len HO.out HL.out) _) _ 1 1 [.string x.nm] rfl rfl ?c1 ?c2 (by decide) ?c3 ?c4 ?c5 _ rfl ?_)))
          case c1 =>
            intro j u hj
            match j, hj with
            | 0, hj => simp at hj; subst hj; simp [Addr.add]
          case c2 => intro u hu; simp at hu; subst hu; rfl
          case c3 => unfold maxLen; omega
          case c4 => omega
          case c5 => have := hbw.size; have := HK.out.box.lt; simp; omega
          · intro g cap w2 hown hgrow hat hglt
            have HK' : Hid (CkI w w2 (some ⟨b, o, none⟩) ka pc kc t (.slice (some ⟨g, 0, none⟩) (k + 1) cap) ((t.ps.take (k + 1)).map Pr.nm)) := by
              show CkI _ _ _ _ _ _ _ _ _
              rw [map_take_one _ HX.out]
              exact HK.out.more (by rw [HL.out, show ((t.ps.take k).map Pr.nm).map Value.string = List.take k (List.map (Value.string ∘ Pr.nm) t.ps) by simp [List.map_take]]; exact hown) hgrow H0.out
            obtain ⟨x0, x1, x2, _, _, _, _⟩ := HK'.out.box.three
            clear hown hgrow hat hglt
            go_wp2_with fail
            go_roundw
            case rel => exact ⟨k + 1, by omega, by go_num, HK', fun i hi => by
              by_cases hik : i = k
              · subst hik; exact HZ.out
              · exact HN.out i (by omega)⟩
            case measure => simp [intOf]; omega
        | false =>
          have HR : Hid (R = (2, (k : Int), 7)) := by
            have hq : propErr t.ps k = 7 := by rw [HP.out, hin]; simp
            show R = _
            rw [HE.out, firstAt_hit (k := k) HN.out hlt (by rw [hq]; decide), hq, checkOf_2]
          clear HP
          go_wp2_with (go_at_call 34; refine (rin_any _ _ _ _).mono ?_; rintro e w' ⟨rfl, rfl⟩)
          go_ret3
          exact ⟨ret3 HR.out, hbw⟩
      · have hz1 : (z != 0) = true := by simpa using hz
        have hz2 : (z == 0) = false := by simpa using hz
        have HR : Hid (R = (2, (k : Int), z)) := by
          have hq : propErr t.ps k = z := by rw [HP.out, if_pos hz]
          show R = _
          rw [HE.out, firstAt_hit (k := k) HN.out hlt (by rw [hq]; exact hz), hq, checkOf_2]
        clear HP hz
        go_wp2_with (go_at_call 34; refine (rin_any _ _ _ _).mono ?_; rintro e w' ⟨rfl, rfl⟩)
        go_ret3
        exact ⟨ret3 HR.out, hbw⟩
    · have HE2 := Lib.hid (show R = checkOf 0 none (firstAt (kindErr t.ks t.ps.length) t.ks.length) by rw [HE.out, firstAt_none (fun i hi => HN.out i (by omega))])
      have HK0 := Lib.hid HK.out.nil
      clear HE HN
      go_wp2_with fail
      obtain ⟨wo, rfl⟩ : ∃ wo : World, wo = wr := ⟨_, rfl⟩
      clear x0 x1 x2 hbw HK
      go_loopw [5, 8] (fun v i wr => ∃ k : Nat, k ≤ t.ks.length ∧ i = .int .i64 k ∧ Hid (CkI w wr pa ka pc kc t v ((t.ks.take k).map Kd.nm)) ∧ Hid (∀ i, i < k → kindErr t.ks t.ps.length i = 0)) (fun _ i _ => t.ks.length - (intOf i).toNat)
      case atStart => exact ⟨0, by omega, rfl, HK0, fun i hi => absurd hi (by omega)⟩
      case round =>
        obtain ⟨m, hm, rfl, HK, HN⟩ := hrel
        have hlen : ((t.ks.take m).map Kd.nm).length = m := by simp; omega
        obtain ⟨A2, c2, hv⟩ := own_slice HK.out.own
        rw [hlen] at hv
        subst hv
        obtain ⟨x0, x1, x2, _, _, _, _⟩ := HK.out.box.three
        have hbw := HK.out.bel
        by_cases hlt2 : m < t.ks.length
        · obtain ⟨x, hx⟩ : ∃ x, t.ks[m]? = some x := ⟨t.ks[m], List.getElem?_eq_getElem hlt2⟩
          obtain ⟨b, o, rfl, _, c0, c1, hsp, hspl⟩ := kinds_at HK.out.tab.tab.ks hx
          have s2 := HK.out.own.reads.2.1
          have s4 := HK.out.own.reads.2.2.2
          have HX := Lib.hid hx
          have HP := Lib.hid (kindErr_at (np := (t.ps.length : Int)) hx)
          have hC := rnamed_any (c := c2) x.nm (HK.out.tab.fit.2 x (List.mem_of_getElem? hx)) s2 (by unfold maxLen at s4; omega)
          rw [hlen] at hC
          have HC := Lib.hid hC
          have HO := Lib.hid HK.out.own
          have HL := Lib.hid hlen
          have HRG := Lib.hid (fun (W : World) (hW : Below wr.heap.size wr W) => rranges_any (w := W) (c := x.cp) t.ps.length ((RowAt.below hsp hW (Nat.le_refl _)).mono hW.size) hspl (by omega))
          clear hx s2 s4 hC hlen hsp hspl
          go_wp2_with fail
          refine HC.out.mono ?_
          rintro e w1 ⟨rfl, he⟩
          subst he
          clear HC
          generalize nameErr ((t.ks.take m).map Kd.nm) x.nm = z at *
          by_cases hz : z = 0
          · subst hz
            go_wp2_with fail
            go_region_held3 (fun w' => w'.cell? ⟨w.heap.size, 0, none⟩ = some (.slice pa t.ps.length pc) ∧ w'.cell? ⟨w.heap.size, 1, none⟩ = some (.slice (some ⟨b, o, none⟩) t.ks.length kc) ∧ w'.cell? ⟨b, o + m * 2 + 1, none⟩ = some (.slice x.ad x.rs.length x.cp))
              (first | (simp [*]; done) | (simp [go_sem, *]; done) | (go_split_ands; exact ⟨hk3 _ _ x0, hk3 _ _ x1, hk3 _ _ c1⟩))
              ((go_at_call 46; refine (HRG.out _ ((Below.refl _ w1).drew)).mono ?_; rintro e w3 ⟨rfl, hb3⟩; have hk3 := kept_of hb3))
            have HK3 := Lib.hid (HK.out.on (show Below w1.heap.size w1 w3 from ((Below.refl _ w1).drew).trans hb3))
            have hbw3 := HK3.out.bel
            have HO3 := Lib.hid HK3.out.own
            have HX3 := Lib.hid (kinds_at HK3.out.tab.tab.ks HX.out)
            obtain ⟨x0, x1, x2, _, _, _, _⟩ := HK3.out.box.three
            have d0 : w3.cell? ⟨b, o + m * 2, none⟩ = some (.string x.nm) := hk3 ⟨b, o + m * 2, none⟩ _ c0
            clear hb3 hk3 HRG c0 c1 HO HX3
            generalize rangesErr x.rs (t.ps.length : Int) = q at *
            by_cases hq : q = 0
            · subst hq
              have HZ := Lib.hid (show kindErr t.ks t.ps.length m = 0 by rw [HP.out]; simp)
              clear HP
              go_wp2_with (at_builtin; refine wpList_append_lies _ rfl _ _ 60 rfl (w.heap.size + 1) 9 i0 (.string ⟨#[]⟩) 1 16 Tryz.underlying60 hi0 hz0 hz1 hz2 rfl (by decide) (.slice A2 m c2) m (((t.ks.take m).map Kd.nm).map Value.string) rfl (World.ownsRow.alloc (own_len HO3.out HL.out) _) _ 1 1 [.string x.nm] rfl rfl ?c1 ?c2 (by decide) ?c3 ?c4 ?c5 _ rfl ?_)
              case c1 =>
                intro j u hj
                match j, hj with
                | 0, hj => simp at hj; subst hj; simp [Addr.add]
              case c2 => intro u hu; simp at hu; subst hu; rfl
              case c3 => unfold maxLen; omega
              case c4 => omega
              case c5 => have := hbw3.size; have := HK3.out.box.lt; simp; omega
              · intro g cap w2 hown hgrow hat hglt
                have HK' : Hid (CkI w w2 pa (some ⟨b, o, none⟩) pc kc t (.slice (some ⟨g, 0, none⟩) (m + 1) cap) ((t.ks.take (m + 1)).map Kd.nm)) := by
                  show CkI _ _ _ _ _ _ _ _ _
                  rw [map_take_one _ HX.out]
                  exact HK3.out.more (by rw [HL.out, show ((t.ks.take m).map Kd.nm).map Value.string = List.take m (List.map (Value.string ∘ Kd.nm) t.ks) by simp [List.map_take]]; exact hown) hgrow H0.out
                obtain ⟨x0, x1, x2, _, _, _, _⟩ := HK'.out.box.three
                clear hown hgrow hat hglt
                go_wp2_with fail
                go_roundw
                case rel => exact ⟨m + 1, by omega, by go_num, HK', fun i hi => by
                  by_cases hik : i = m
                  · subst hik; exact HZ.out
                  · exact HN.out i (by omega)⟩
                case measure => simp [intOf]; omega
            · have hz1 : (q != 0) = true := by simpa using hq
              have HR : Hid (R = (3, (m : Int), q)) := by
                have hqq : kindErr t.ks t.ps.length m = q := by rw [HP.out, if_neg (by simp)]
                show R = _
                rw [HE2.out, firstAt_hit (k := m) HN.out hlt2 (by rw [hqq]; exact hq), hqq, checkOf_3]
              clear HP hq
              go_wp2_with fail
              go_ret3
              exact ⟨ret3 HR.out, hbw3⟩
          · have hz1 : (z != 0) = true := by simpa using hz
            have hz2 : (z == 0) = false := by simpa using hz
            have HR : Hid (R = (3, (m : Int), z)) := by
              have hq : kindErr t.ks t.ps.length m = z := by rw [HP.out, if_pos hz]
              show R = _
              rw [HE2.out, firstAt_hit (k := m) HN.out hlt2 (by rw [hq]; exact hz), hq, checkOf_3]
            clear HP hz HRG
            go_wp2_with fail
            go_ret3
            exact ⟨ret3 HR.out, hbw⟩
        · have HR := Lib.hid (show R = (0, 0, 0) by rw [HE2.out, firstAt_none (fun i hi => HN.out i (by omega)), checkOf_4])
          clear HN
          go_wp2_with fail
          go_ret3
          exact ⟨ret3 HR.out, hbw⟩

theorem counts_no {t : Tab} (h : countsErr t ≠ 0) : (inB (t.ps.length : Int) 1 5 = false ∧ countsErr t = 3) ∨ (inB (t.ps.length : Int) 1 5 = true ∧ inB (t.ks.length : Int) 1 8 = false ∧ countsErr t = 3) ∨ (inB (t.ps.length : Int) 1 5 = true ∧ inB (t.ks.length : Int) 1 8 = true ∧ inB t.pu 1 1000 = false ∧ countsErr t = 7) := by
  by_cases h1 : 1 ≤ t.ps.length ∧ t.ps.length ≤ 5
  · have q1 : inB (t.ps.length : Int) 1 5 = true := inB_t (by omega) (by omega)
    by_cases h2 : 1 ≤ t.ks.length ∧ t.ks.length ≤ 8
    · have q2 : inB (t.ks.length : Int) 1 8 = true := inB_t (by omega) (by omega)
      by_cases h3 : 1 ≤ t.pu ∧ t.pu ≤ 1000
      · exact absurd (by unfold countsErr; rw [if_pos ⟨h1, h2⟩, if_pos h3]) h
      · exact .inr (.inr ⟨q1, q2, inB_f h3, by unfold countsErr; rw [if_pos ⟨h1, h2⟩, if_neg h3]⟩)
    · exact .inr (.inl ⟨q1, inB_f (by omega), by unfold countsErr; rw [if_neg (fun e => h2 e.2)]⟩)
  · exact .inl ⟨inB_f (by omega), by unfold countsErr; rw [if_neg (fun e => h1 e.1)]⟩
set_option maxRecDepth 100000 in
set_option maxHeartbeats 1000000 in
theorem rcheck_any {w : World} {pa ka : Option Addr} {pc kc : Nat} {t : Tab} (h : TabIn w pa ka pc kc t) :
    Calls Tryz.prog 20 #[.agg #[.slice pa t.ps.length pc, .slice ka t.ks.length kc, .int .i64 t.pu]] w fun e w' => e = .returned (.tuple #[.int .i64 (checkT t).1, .int .i64 (checkT t).2.1, .int .i64 (checkT t).2.2]) ∧ Below w.heap.size w w' := by
  by_cases hc : countsErr t = 0
  · exact rcheck_ok h hc _ (by rw [checkT_eq, hc])
  · have hp := h.tab.lp
    have hk := h.tab.lk
    have hA := (Below.refl _ w).alloc (Nat.le_refl _) (.cells #[.slice pa t.ps.length pc, .slice ka t.ks.length kc, .int .i64 t.pu] 25)
    have hR : checkT t = (1, 0, countsErr t) := by rw [checkT_eq, checkOf_1 _ _ _ hc]
    rw [hR]
    rcases counts_no hc with ⟨q1, hq⟩ | ⟨q1, q2, hq⟩ | ⟨q1, q2, q3, hq⟩
    all_goals
      rw [hq]
      clear hR hc hq h
      go_enter Tryz.func20, Tryz.ntmps20
      go_wp2_with (go_at_call 34; refine (rin_any _ _ _ _).mono ?_; rintro e w' ⟨rfl, rfl⟩)
      go_ret3
      exact ⟨rfl, hA⟩
end Go.Proofs.YthihpggjglghoaaGreatDoor

namespace Go.Proofs.YthihpggjglghoaaGreatDoor
open Go.RowKit Go.Shelf

def badB (n : Int) : Bool := decide (n ≠ -1 ∧ ¬ (0 ≤ n ∧ n ≤ 100000))
theorem badB_one : badB (-1) = false := rfl
theorem badB_in {n : Int} (h : n ≠ -1) : badB n = !inB n 0 100000 := by
  unfold badB
  rw [Bool.eq_iff_iff, decide_eq_true_eq, Bool.not_eq_true', ← Bool.not_eq_true, inB_iff]
  exact ⟨fun h => h.2, fun g => ⟨h, g⟩⟩
theorem lookErr_1 {t : Tab} {l : List Int} (h : (checkT t).2.2 ≠ 0) : lookErr t l = (checkT t).2.2 := by unfold lookErr; rw [if_pos h]
theorem lookErr_2 {t : Tab} {l : List Int} (h : (checkT t).2.2 = 0) (hl : l.length ≠ t.ps.length) : lookErr t l = 3 := by
  unfold lookErr readsErr
  rw [if_neg (by simpa using h), if_pos (by omega)]
theorem lookErr_3 {t : Tab} {l : List Int} (h : (checkT t).2.2 = 0) (hl : l.length = t.ps.length) : lookErr t l = if l.any badB then 7 else 0 := by
  unfold lookErr readsErr badB
  rw [if_neg (by simpa using h), if_neg (by omega)]

/-- Between two rounds of Readings. -/
def ReadI (t : Tab) (l : List Int) (k : Nat) (z : Int) : Prop := (z = 0 ∧ (l.take k).any badB = false) ∨ (z = 7 ∧ lookErr t l = 7)

set_option maxRecDepth 100000 in
set_option maxHeartbeats 2000000 in
theorem rreadings_any {w : World} {pa ka ra : Option Addr} {pc kc rc : Nat} {t : Tab} {l : List Int} (h : RdIn w pa ka ra pc kc t l) :
    Calls Tryz.prog 11 #[.agg #[.slice pa t.ps.length pc, .slice ka t.ks.length kc, .int .i64 t.pu], .slice ra l.length rc] w fun e w' => e = .returned (.int .i64 (lookErr t l)) ∧ Below w.heap.size w w' := by
  have hp := h.tab.tab.lp
  have hk := h.tab.tab.lk
  have hl := h.rds.len
  have hA := (Below.refl _ w).alloc (Nat.le_refl _) (.cells #[.slice pa t.ps.length pc, .slice ka t.ks.length kc, .int .i64 t.pu] 25)
  have HA := Lib.hid hA
  have H1 := rcheck_any (h.tab.on hA)
  have X0 := Lib.hid (Blk.new w 25 #[.slice pa t.ps.length pc, .slice ka t.ks.length kc, .int .i64 t.pu])
  have HR := Lib.hid h.rds
  clear h hA
  by_cases h0 : (checkT t).2.2 = 0
  · by_cases h3 : l.length = t.ps.length
    · have H0 := Lib.hid (lookErr_3 h0 h3)
      rw [h0] at H1
      generalize (checkT t).1 = c1 at H1
      generalize (checkT t).2.1 = c2 at H1
      have H1 := Lib.hid H1
      have f1 : ((l.length : Int) != (t.ps.length : Int)) = false := by
        have h : (l.length : Int) = (t.ps.length : Int) := by omega
        simpa using h
      have f2 : (l.length != t.ps.length) = false := by simpa using h3
      clear h3 h0
      go_enter Tryz.func11, Tryz.ntmps11
      go_wp2_with fail
      refine H1.out.mono ?_
      rintro e w1 ⟨rfl, hb⟩
      have X1 := Lib.hid (X0.out.on hb)
      have HW1 := Lib.hid (HA.out.trans (hb.mono (by simp)))
      obtain ⟨x0, x1, x2, _, _, _, _⟩ := X1.out.three
      clear hb
      go_wp2_with fail
      go_loopw [7, 8] (fun v i wr => ∃ k : Nat, k ≤ l.length ∧ i = .int .i64 k ∧ ∃ z : Int, v = .int .i64 z ∧ ReadI t l k z ∧ Below w.heap.size w wr) (fun _ i _ => l.length - (intOf i).toNat)
      case atStart => exact ⟨0, by omega, rfl, 0, rfl, by left; exact ⟨rfl, by simp⟩, HW1.out⟩
      case round =>
        obtain ⟨k, hk, rfl, z, rfl, HZ, hb⟩ := hrel
        rcases HZ with ⟨rfl, hT⟩ | ⟨rfl, h7⟩
        · have HT := Lib.hid hT
          clear hT
          by_cases hlt : k < l.length
          · obtain ⟨x, hx⟩ : ∃ x, l[k]? = some x := ⟨l[k], List.getElem?_eq_getElem hlt⟩
            obtain ⟨b1, o1, rfl, _, hc1⟩ := ints_at (RowAt.below HR.out.at_ hb (Nat.le_refl _)) hx
            have HX := Lib.hid hx
            clear hx x0 x1 x2
            cases hbad : badB x with
            | false =>
              have HT' : ReadI t l (k + 1) 0 := by
                left
                refine ⟨rfl, ?_⟩
                rw [any_take_step _ _ _ _ HX.out, HT.out, hbad]; rfl
              by_cases hx1 : x = -1
              · subst hx1
                clear HT HX hbad
                go_wp2_with (go_at_call 34; refine (rin_any _ _ _ _).mono ?_; rintro e w' ⟨rfl, rfl⟩)
                go_roundw
                case rel => exact ⟨k + 1, by omega, by go_num, 0, rfl, HT', hb⟩
                case measure => simp [intOf]; omega
              · have hne : (x != -1) = true := by simpa using hx1
                have hin : inB x 0 100000 = true := by
                  have h := badB_in hx1
                  rw [hbad] at h
                  simpa using h.symm
                clear HT HX hbad
                go_wp2_with (go_at_call 34; refine (rin_any _ _ _ _).mono ?_; rintro e w' ⟨rfl, rfl⟩)
                go_roundw
                case rel => exact ⟨k + 1, by omega, by go_num, 0, rfl, HT', hb⟩
                case measure => simp [intOf]; omega
            | true =>
              have hx1 : x ≠ -1 := by rintro rfl; rw [badB_one] at hbad; cases hbad
              have hne : (x != -1) = true := by simpa using hx1
              have hin : inB x 0 100000 = false := by
                have h := badB_in hx1
                rw [hbad] at h
                simpa using h.symm
              have HT' : ReadI t l (k + 1) 7 := by
                right
                refine ⟨rfl, ?_⟩
                rw [H0.out, if_pos (List.any_eq_true.2 ⟨x, List.mem_of_getElem? HX.out, hbad⟩)]
              clear HT HX hbad
              go_wp2_with (go_at_call 34; refine (rin_any _ _ _ _).mono ?_; rintro e w' ⟨rfl, rfl⟩)
              go_roundw
              case rel => exact ⟨k + 1, by omega, by go_num, 7, rfl, HT', hb⟩
              case measure => simp [intOf]; omega
          · have H := Lib.hid (show lookErr t l = 0 by
              have h := HT.out
              rw [List.take_of_length_le (by omega)] at h
              rw [H0.out, h]; rfl)
            clear H0 HT
            go_wp2_with fail
            go_ret
            exact ⟨ret_i64 H.out.symm, hb⟩
        · have H := Lib.hid h7
          clear H0 h7
          by_cases hlt : k < l.length
          · go_wp2_with fail
            go_ret
            exact ⟨ret_i64 H.out.symm, hb⟩
          · go_wp2_with fail
            go_ret
            exact ⟨ret_i64 H.out.symm, hb⟩
    · have f1 : ((l.length : Int) != (t.ps.length : Int)) = true := by
        have h : (l.length : Int) ≠ (t.ps.length : Int) := fun e => h3 (by omega)
        simpa using h
      have f2 : (l.length != t.ps.length) = true := by simpa using h3
      rw [lookErr_2 h0 h3]
      rw [h0] at H1
      generalize (checkT t).1 = c1 at H1
      generalize (checkT t).2.1 = c2 at H1
      have H1 := Lib.hid H1
      clear h3 h0
      go_enter Tryz.func11, Tryz.ntmps11
      go_wp2_with fail
      refine H1.out.mono ?_
      rintro e w1 ⟨rfl, hb⟩
      have X1 := Lib.hid (X0.out.on hb)
      have HW1 := Lib.hid (HA.out.trans (hb.mono (by simp)))
      obtain ⟨x0, x1, x2, _, _, _, _⟩ := X1.out.three
      clear hb
      go_wp2_with fail
      go_loopw [7, 8] (fun v i wr => v = .int .i64 3 ∧ i = .int .i64 0 ∧ Below w.heap.size w wr) (fun _ _ _ => 0)
      case atStart => exact ⟨rfl, rfl, HW1.out⟩
      case round =>
        obtain ⟨rfl, rfl, hb⟩ := hrel
        by_cases hlt : 0 < l.length
        · go_wp2_with fail
          go_ret
          exact ⟨rfl, hb⟩
        · go_wp2_with fail
          go_ret
          exact ⟨rfl, hb⟩
  · rw [lookErr_1 h0]
    generalize (checkT t).1 = c1 at H1
    generalize (checkT t).2.1 = c2 at H1
    generalize (checkT t).2.2 = z at *
    have H1 := Lib.hid H1
    have hz1 : (z == 0) = false := by simpa using h0
    clear h0
    go_enter Tryz.func11, Tryz.ntmps11
    go_wp2_with fail
    refine H1.out.mono ?_
    rintro e w1 ⟨rfl, hb⟩
    have X1 := Lib.hid (X0.out.on hb)
    have HW1 := Lib.hid (HA.out.trans (hb.mono (by simp)))
    obtain ⟨x0, x1, x2, _, _, _, _⟩ := X1.out.three
    clear hb
    go_wp2_with fail
    go_loopw [7, 8] (fun v i wr => v = .int .i64 z ∧ i = .int .i64 0 ∧ Below w.heap.size w wr) (fun _ _ _ => 0)
    case atStart => exact ⟨rfl, rfl, HW1.out⟩
    case round =>
      obtain ⟨rfl, rfl, hb⟩ := hrel
      by_cases hlt : 0 < l.length
      · go_wp2_with fail
        go_ret
        exact ⟨rfl, hb⟩
      · go_wp2_with fail
        go_ret
        exact ⟨rfl, hb⟩
end Go.Proofs.YthihpggjglghoaaGreatDoor

namespace Go.Proofs.YthihpggjglghoaaGreatDoor
open Go.RowKit Go.Shelf

set_option maxHeartbeats 1000000 in
theorem lin_any {w : World} {A : Option Addr} {c : Nat} {l : List Int} (n : Int) (hl : IntsIn w A l) :
    Calls Tryz.prog 16 #[.slice A l.length c, .int .i64 n] w fun e w' => e = .returned (.bool (decide (n ∈ l))) ∧ w' = w := by
  have hll := hl.len
  go_enter Tryz.func16, Tryz.ntmps16
  go_wp2_with fail
  go_loopw [5] (fun i wr => ∃ k : Nat, k ≤ l.length ∧ i = .int .i64 k ∧ Hid (n ∉ l.take k) ∧ wr = w) (fun i _ => l.length - (intOf i).toNat)
  case atStart => exact ⟨0, by omega, rfl, by show ¬ _; simp, rfl⟩
  case round =>
    obtain ⟨k, hk, rfl, HT, rfl⟩ := hrel
    by_cases hlt : k < l.length
    · obtain ⟨x, hx⟩ : ∃ x, l[k]? = some x := ⟨l[k], List.getElem?_eq_getElem hlt⟩
      obtain ⟨b1, o1, rfl, _, hc1⟩ := ints_at hl.at_ hx
      have HX := Lib.hid hx
      clear hx
      by_cases hxy : x = n
      · have H := Lib.hid (show decide (n ∈ l) = true by
          rw [decide_eq_true_eq, ← hxy]
          exact List.mem_of_getElem? HX.out)
        have he : (x == n) = true := by simpa using hxy
        clear HT HX
        go_wp2_with fail
        go_ret
        exact ⟨ret_bool H.out.symm, rfl⟩
      · have he : (x == n) = false := by simpa using hxy
        have HT' : Hid (n ∉ l.take (k + 1)) := by
          show ¬ _
          rw [List.take_add_one, HX.out]
          intro h
          rcases List.mem_append.1 h with h | h
          · exact HT.out h
          · simp at h
            exact hxy h.symm
        clear HT HX hxy
        go_wp2_with fail
        go_roundw
        case rel => exact ⟨k + 1, by omega, by go_num, HT', trivial⟩
        case measure => simp [intOf]; omega
    · have H := Lib.hid (show decide (n ∈ l) = false by
        rw [decide_eq_false_iff_not]
        have h := HT.out
        rwa [List.take_of_length_le (by omega)] at h)
      clear HT
      go_wp2_with fail
      go_ret
      exact ⟨ret_bool H.out.symm, rfl⟩
end Go.Proofs.YthihpggjglghoaaGreatDoor

namespace Go.Proofs.YthihpggjglghoaaGreatDoor
open Go.RowKit Go.Shelf

/-- What holds through the rounds. -/
structure AlJ (w : World) (tc : Array Value) (W : World) : Prop where
  tb : Blk W w.heap.size 25 tc
  b : Below w.heap.size w W
theorem AlJ.on {w W W' : World} {tc : Array Value} (h : AlJ w tc W) (hb : Below W.heap.size W W') : AlJ w tc W' := ⟨h.tb.on hb, h.b.trans (hb.mono h.b.size)⟩
theorem AlJ.grown {w W W' : World} {tc : Array Value} {row : Option Nat} (h : AlJ w tc W) (hg : W.grownBy W' row) (hr : ∀ r, row = some r → w.heap.size + 1 ≤ r) : AlJ w tc W' :=
  ⟨h.tb.grown hg hr (by omega), h.b.grown hg h.b.size fun r e => by have := hr r e; omega⟩

end Go.Proofs.YthihpggjglghoaaGreatDoor

namespace Go.Proofs.YthihpggjglghoaaGreatDoor
open Go.RowKit Go.Shelf

theorem has_fin : ∀ s : Fin 256, ∀ k : Fin 8, ((((s.1 : Int).tdiv ((2 ^ k.1 : Nat) : Int)).tmod 2) == 1) = s.1.testBit k.1 := by decide +kernel
end Go.Proofs.YthihpggjglghoaaGreatDoor

namespace Go.Proofs.YthihpggjglghoaaGreatDoor

theorem IntsOut.in_ {B : Nat} {w : World} {v : Value} {l : List Int} (h : IntsOut B w v l) : ∃ A c, v = .slice A l.length c ∧ IntsIn w A l := by
  obtain ⟨vA, vn, vc, rfl⟩ : ∃ A n c, v = .slice A n c := by
    rcases h.2 with ⟨hv, _⟩ | ⟨g, cap, cur, hv, _⟩
    · exact ⟨_, _, _, hv⟩
    · exact ⟨_, _, _, hv⟩
  obtain ⟨rfl, h1, _, h3⟩ := h.reads
  exact ⟨_, _, rfl, h1, by unfold maxLen at h3; omega⟩
end Go.Proofs.YthihpggjglghoaaGreatDoor

namespace Go.Proofs.YthihpggjglghoaaGreatDoor
open Go.ChangeShapes Go.WideShapes Go.ChangeAt Go.RowKit

theorem own : ownKnob Tryz.prog.godebug = none := by kernel_rfl
theorem g_pow : Tryz.prog.globalNamed "internal/strconv.uint64pow10" = some 0 := by kernel_rfl
theorem g_max : Tryz.prog.globalNamed "internal/bytealg.MaxLen" = some 1 := by kernel_rfl
theorem g_syn : Tryz.prog.globalNamed "strconv.ErrSyntax" = some 4 := by kernel_rfl
theorem g_rng : Tryz.prog.globalNamed "strconv.ErrRange" = some 5 := by kernel_rfl
theorem gt_pow : (Tryz.prog.globals[0]?).map (·.type) = some 169 := by kernel_rfl
theorem gt_syn : (Tryz.prog.globals[4]?).map (·.type) = some 125 := by kernel_rfl
theorem gt_rng : (Tryz.prog.globals[5]?).map (·.type) = some 125 := by kernel_rfl
theorem c_pow : Tryz.prog.cellsOf 169 = 20 := by kernel_rfl
theorem c_u64 : Tryz.prog.cellsOf 145 = 1 := by kernel_rfl
theorem c_es : Tryz.prog.cellsOf 213 = 1 := by kernel_rfl
theorem c_str : Tryz.prog.cellsOf 9 = 1 := by kernel_rfl
theorem es_name : Tryz.prog.typeName? 3 211 = some "*errors.errorString" := by kernel_rfl
theorem es_star : "*errors.errorString" = "*" ++ "errors.errorString" := by decide
set_option maxRecDepth 100000 in
theorem es_row (u : TypeId) (h : Tryz.prog.typeName? 3 u = some "*errors.errorString") : u = 211 :=
  typeName_ptr_named (nm := "errors.errorString") (by rw [← es_star]; kernel_rfl) (by kernel_rfl) (by decide) u (by rw [← es_star]; exact h)

theorem base_of {W : World} (h0 : laidMetH Tryz.prog Rows.waxTextsRow.laid W) (hs : W.ShapedOpen Tryz.prog) : Base W := by
  rw [MakeChecks.laidMetH_plain _ _ _ (by kernel_rfl)] at h0
  have h : laidMet Tryz.prog (("math/bits.deBruijn32tab", Rows.laid_math_bits_deBruijn32tab) :: ("math/bits.deBruijn64tab", Rows.laid_math_bits_deBruijn64tab) :: ("internal/strconv.uint64pow10", Lib.tabData .u64 Lib.pow10Tab) :: ("unicode/utf8.acceptRanges", Rows.laid_unicode_utf8_acceptRanges) :: ("strconv.ErrRange", .iface "*errors.errorString" (.ptr (.agg [.lit (.string [118, 97, 108, 117, 101, 32, 111, 117, 116, 32, 111, 102, 32, 114, 97, 110, 103, 101])]))) :: ("strconv.ErrSyntax", .iface "*errors.errorString" (.ptr (.agg [.lit (.string [105, 110, 118, 97, 108, 105, 100, 32, 115, 121, 110, 116, 97, 120])]))) :: [("unicode/utf8.first", Rows.laid_unicode_utf8_first)]) W := h0
  refine ⟨?_, ?_, ?_, ?_⟩
  · exact Lib.tabIs_of_head g_pow gt_pow Tryz.underlying169 Tryz.underlying145 c_u64 c_pow h.tail.tail
  · exact cell_of_shapedOpen_int (t := 3) (k := .i64) (zero := #[.int .i64 0]) hs (of_decide_eq_true (by kernel_rfl)) (by kernel_rfl) (by kernel_rfl) (by kernel_rfl) (by kernel_rfl) Tryz.underlying3
  · obtain ⟨a0, s0, hv0, _⟩ := laid_sentinel h.tail.tail.tail.tail.tail g_syn gt_syn Tryz.underlying125 es_row Tryz.underlying211 Tryz.underlying213 rfl rfl Tryz.underlying9 c_es c_str
    exact ⟨_, _, by simpa using World.var?_cell g_syn hv0 0⟩
  · obtain ⟨a0, s0, hv0, _⟩ := laid_sentinel h.tail.tail.tail.tail g_rng gt_rng Tryz.underlying125 es_row Tryz.underlying211 Tryz.underlying213 rfl rfl Tryz.underlying9 c_es c_str
    exact ⟨_, _, by simpa using World.var?_cell g_rng hv0 0⟩

/-- A start for the witness: the door's heap, and utf8.first as Go's library lays it. -/
noncomputable def laidWorld (os : Os) : World :=
  { World.doorLaid Tryz.prog 72 os with heap := (World.doorLaid Tryz.prog 72 os).heap.modify 6 fun
      | .cells _ t frozen => .cells (Lib.firstTab.map fun z => Value.int .u8 z).toArray t frozen
      | o => o }
theorem laid_met (os : Os) (args : Array Value) : laidMetH Tryz.prog Rows.waxTextsRow.laid ((laidWorld os).forCall (fun _ _ => 0) ⟨#[], args, []⟩).memory := by
  rw [MakeChecks.laidMetH_plain _ _ _ (by kernel_rfl)]
  exact laidMet_of_run' 8 (by kernel_rfl) (by kernel_rfl)
end Go.Proofs.YthihpggjglghoaaGreatDoor

namespace Go.Proofs.YthihpggjglghoaaGreatDoor
open Go.ChangeShapes Go.RowKit Go.Shelf

theorem tu_num {n : Nat} (h : 0 < n) {x : Int} (hx : 0 ≤ x) : ∃ k : Nat, k < n ∧ x.tmod (n : Int) = k := by
  have h1 := Int.tmod_nonneg (n : Int) hx
  have h2 := Int.tmod_lt_of_pos x (show (0 : Int) < n by omega)
  exact ⟨(x.tmod (n : Int)).toNat, by omega, by omega⟩
theorem lin_yes {w : World} {A : Option Addr} {c : Nat} {l : List Int} {n : Int} (hl : IntsIn w A l) (h : n ∈ l) : Calls Tryz.prog 16 #[.slice A l.length c, .int .i64 n] w fun e w' => e = .returned (.bool true) ∧ w' = w :=
  (lin_any (c := c) n hl).mono fun e w' ⟨he, hw⟩ => ⟨by rw [he, decide_eq_true h], hw⟩
/-- The boxes, the list of sets, and the range, behind the first calls. -/
structure MoA (w : World) (tc xc : Array Value) (A : Option Addr) (S : List Int) (SB : Nat) (q1 q2 : Int) (W : World) : Prop where
  two : Two w 38 tc xc W
  sl : IntsIn W A S
  sb : Blk W SB 43 #[.int .i64 q1, .int .i64 q2]
theorem MoA.on {w W W' : World} {tc xc : Array Value} {A : Option Addr} {S : List Int} {SB : Nat} {q1 q2 : Int} (h : MoA w tc xc A S SB q1 q2 W) (hb : Below W.heap.size W W') : MoA w tc xc A S SB q1 q2 W' := ⟨h.two.on hb, h.sl.on hb, h.sb.on hb⟩
/-- .. and the readings, with one more. -/
structure MoF (w : World) (tc xc : Array Value) (A : Option Addr) (S : List Int) (SB : Nat) (q1 q2 : Int) (g : Nat) (ml : List Int) (W : World) : Prop where
  a : MoA w tc xc A S SB q1 q2 W
  mo : IntsIn W (some ⟨g, 0, none⟩) ml
theorem MoF.on {w W W' : World} {tc xc : Array Value} {A : Option Addr} {S : List Int} {SB : Nat} {q1 q2 : Int} {g : Nat} {ml : List Int} (h : MoF w tc xc A S SB q1 q2 g ml W) (hb : Below W.heap.size W W') : MoF w tc xc A S SB q1 q2 g ml W' := ⟨h.a.on hb, h.mo.on hb⟩
theorem MoF.of {w W0 W : World} {tc xc : Array Value} {A : Option Addr} {S : List Int} {SB : Nat} {q1 q2 : Int} {g cap : Nat} {ml : List Int} (h : MoA w tc xc A S SB q1 q2 W0) (hb : Below W0.heap.size W0 W) (ho : W.ownsRow W0.heap.size 3 1 (.slice (some ⟨g, 0, none⟩) ml.length cap) ml.length (ml.map (Value.int .i64))) : MoF w tc xc A S SB q1 q2 g ml W := by
  have h1 := IntsOut.reads (B := W0.heap.size) (w := W) (A := some ⟨g, 0, none⟩) (n := ml.length) (c := cap) (l := ml) ho
  exact ⟨h.on hb, h1.2.1, by have := h1.2.2.2; unfold maxLen at this; omega⟩
theorem mod_some {z n : Int} (h : 0 ≤ z) (hn : 0 < n) : ∃ q : Int, z.tmod n = q ∧ z % n = q ∧ 0 ≤ q ∧ q < n := ⟨z % n, Int.tmod_eq_emod_of_nonneg h, rfl, Int.emod_nonneg _ (by omega), Int.emod_lt_of_pos _ hn⟩
theorem div3 {z : Int} (h : 0 ≤ z ∧ z ≤ 65535) : ∃ q : Int, z.tdiv 3 = q ∧ z / 3 = q ∧ IntKind.i64.wrap q = q ∧ 0 ≤ q ∧ q ≤ 65535 := ⟨z / 3, Int.tdiv_eq_ediv_of_nonneg h.1, rfl, IntWalk.i64_in _ (by omega), by omega, by omega⟩
theorem div5 {z : Int} (h : 0 ≤ z ∧ z ≤ 65535) : ∃ q : Int, z.tdiv 5 = q ∧ z / 5 = q ∧ IntKind.i64.wrap q = q ∧ 0 ≤ q ∧ q ≤ 65535 := ⟨z / 5, Int.tdiv_eq_ediv_of_nonneg h.1, rfl, IntWalk.i64_in _ (by omega), by omega, by omega⟩
theorem fin_p (nm : ByteArray) {er q : Int} (h : 0 ≤ q ∧ q < er + 1) : FinP ⟨nm, er⟩ ⟨nm, er - q⟩ := ⟨rfl, by show 0 ≤ er - q; omega, by show er - q ≤ er; omega⟩
/-- What the round of a range reads, through its calls. -/
structure KR (WY : World) (Y R : Nat) (B : Nat) (hi : Int) (ua : Value) (W : World) : Prop where
  b : Below Y WY W
  r1 : W.cell? ⟨R, 1, none⟩ = some (.int .i64 hi)
  x3 : W.cell? ⟨B, 3, none⟩ = some ua
  y : Y < R
  hB : B < Y
  lt : R < W.heap.size
theorem KR.on {WY W W' : World} {Y R B : Nat} {hi : Int} {ua : Value} (h : KR WY Y R B hi ua W) (hb : Below W.heap.size W W') : KR WY Y R B hi ua W' := ⟨h.b.trans (hb.mono (by have := h.y; have := h.lt; omega)), kept_of hb _ _ h.r1, kept_of hb _ _ h.x3, h.y, h.hB, Nat.lt_of_lt_of_le h.lt hb.size⟩
theorem KR.al {WY W : World} {Y R B : Nat} {hi : Int} {ua : Value} (h : KR WY Y R B hi ua W) (o : Obj) : KR WY Y R B hi ua (W.alloc o) := h.on ((Below.refl _ W).alloc (Nat.le_refl _) _)
theorem KR.drew {WY W : World} {Y R B : Nat} {hi : Int} {ua : Value} (h : KR WY Y R B hi ua W) : KR WY Y R B hi ua W.drew := h.on (Below.refl _ W).drew
theorem KR.grown {WY W W' : World} {Y R B : Nat} {hi : Int} {ua : Value} {row : Option Nat} (h : KR WY Y R B hi ua W) (hg : W.grownBy W' row) (hr : ∀ r, row = some r → Y < r) (hR : some R ≠ row) : KR WY Y R B hi ua W' := by
  have h1 := h.lt
  have h2 := h.y
  have h3 := h.hB
  exact ⟨h.b.grown hg (by omega) (fun r e => by have := hr r e; omega), (hg.cell_far ⟨R, 1, none⟩ h.lt hR).trans h.r1, (hg.cell_far ⟨B, 3, none⟩ (by show B < _; omega) (fun e => by have := hr B e.symm; omega)).trans h.x3, h.y, h.hB, Nat.lt_of_lt_of_le h.lt hg.size⟩
theorem KR.set_ {WY W : World} {Y R B : Nat} {hi : Int} {ua : Value} (h : KR WY Y R B hi ua W) (i : Nat) (v : Value) : KR WY Y R B hi ua (W.setCell ⟨Y, i, none⟩ v) := by
  have h2 := h.y
  have h3 := h.hB
  have gs := grown_set W Y i v
  exact ⟨h.b.setCell (Nat.le_refl _) _, (gs.cell_far ⟨R, 1, none⟩ h.lt (fun e => by simp at e; omega)).trans h.r1, (gs.cell_far ⟨B, 3, none⟩ (by have := h.lt; show B < _; omega) (fun e => by simp at e; omega)).trans h.x3, h.y, h.hB, by simp [h.lt]⟩
theorem KR.all {WY W : World} {Y R B : Nat} {hi : Int} {ua : Value} (h : KR WY Y R B hi ua W) : W.cell? ⟨R, 1, none⟩ = some (.int .i64 hi) ∧ W.cell? ⟨B, 3, none⟩ = some ua ∧ KR WY Y R B hi ua W := ⟨h.r1, h.x3, h⟩
theorem Below.al {a w : World} (h : Below a.heap.size a w) (o : Obj) : Below a.heap.size a (w.alloc o) := h.alloc h.size o
theorem HeldB.all3 {w W : World} {b0 o0 b1 o1 b2 o2 : Nat} {v0 v1 v2 : Value} (h : HeldB w [(b0, o0, v0), (b1, o1, v1), (b2, o2, v2)] W) : W.cell? ⟨b0, o0, none⟩ = some v0 ∧ W.cell? ⟨b1, o1, none⟩ = some v1 ∧ W.cell? ⟨b2, o2, none⟩ = some v2 ∧ HeldB w [(b0, o0, v0), (b1, o1, v1), (b2, o2, v2)] W :=
  ⟨(h.held.at_ (b0, o0, v0) (by simp)).2, (h.held.at_ (b1, o1, v1) (by simp)).2, (h.held.at_ (b2, o2, v2) (by simp)).2, h⟩
theorem FiP.shape {WX W : World} {X : Nat} {pu : Int} {v : Value} {ps : List Pr} (h : FiP WX X pu v ps W) : ∃ A c, v = .slice A ps.length c := by
  rcases h.row.2 with ⟨hv, h0⟩ | ⟨g, cap, cur, hv, _⟩
  · exact ⟨none, 0, by rw [hv, h0]⟩
  · exact ⟨_, _, hv⟩
theorem FiY.shape {WY W : World} {Y : Nat} {nm : ByteArray} {v : Value} {rs : List (Int × Int)} (h : FiY WY Y nm v rs W) : ∃ A c, v = .slice A rs.length c := by
  rcases h.row.2 with ⟨hv, h0⟩ | ⟨g, cap, cur, hv, _⟩
  · exact ⟨none, 0, by rw [hv, h0]⟩
  · exact ⟨_, _, hv⟩
theorem FiK.shape {WX W : World} {X : Nat} {pu : Int} {pv v : Value} {ps : List Pr} {KB : Nat} {ks : List Kd} (h : FiK WX X pu pv ps KB v ks W) : ∃ A c, v = .slice A ks.length c := by
  rcases h.kr.row.2 with ⟨hv, h0⟩ | ⟨g, cap, cur, hv, _⟩
  · exact ⟨none, 0, by rw [hv, h0]⟩
  · exact ⟨_, _, hv⟩
theorem fine_look {s t : Tab} {ml : List Int} (hf : Finer s t) (hc : (checkT t).2.2 = 0) (hl : ml.length = t.ps.length) (hr : ∀ r ∈ ml, r = -1 ∨ 0 ≤ r ∧ r ≤ 100000) : lookErr s ml = 0 := by
  rw [lookErr_3 (hf.check hc) (by rw [hf.np]; exact hl), if_neg]
  rw [List.any_eq_true]
  rintro ⟨r, hm, hb⟩
  have h1 := hr r hm
  have h2 := of_decide_eq_true hb
  omega
theorem meas_one {n k : Nat} (h : k < n) : n - (intOf (Value.int .i64 ((k : Int) + 1))).toNat < n - (intOf (Value.int .i64 (k : Int))).toNat := by
  have h4 : ((k : Int) + 1).toNat = k + 1 := by omega
  simp only [intOf, h4, Int.toNat_natCast]
  omega
/-- One of the two tables, where it lies. -/
structure OfT (TB i : Nat) (A : Option Addr) (t : Tab) (ml : List Int) (S1 : List Int) (Q1 Q2 Q4 : Int) (a : Nat) (pa ka : Option Addr) (pc kc : Nat) (s : Tab) (W : World) : Prop where
  two : TwoT TB i pa ka s.ps.length s.ks.length pc kc s.pu W
  rd : RdIn W pa ka A pc kc s ml
  look : lookErr s ml = 0
  sold : ((soldV s ml a).2.2 = 0 ∧ Q4 = 0 ∧ Q1 ≤ (soldV s ml a).1.1 ∧ (soldV s ml a).1.2 ≤ Q2) ∨ (soldV s ml a).2.2 = 9
  sets : ∀ z ∈ setsV s ml, z ∈ S1
theorem OfT.on {TB i : Nat} {A : Option Addr} {t : Tab} {ml S1 : List Int} {Q1 Q2 Q4 : Int} {a : Nat} {pa ka : Option Addr} {pc kc : Nat} {s : Tab} {W W' : World} (h : OfT TB i A t ml S1 Q1 Q2 Q4 a pa ka pc kc s W) (hb : Below W.heap.size W W') : OfT TB i A t ml S1 Q1 Q2 Q4 a pa ka pc kc s W' :=
  ⟨h.two.on hb, h.rd.on hb, h.look, h.sold, h.sets⟩
end Go.Proofs.YthihpggjglghoaaGreatDoor

namespace Go.Proofs.YthihpggjglghoaaGreatDoor
open Go.ChangeShapes Go.RowKit Go.Shelf

/-- A region of a piece of code, by its number. -/
def regionAt (n : Nat) : Code → Option Code
  | .region i ops b => if i = n then some (.region i ops b) else none
  | .seq a b => match regionAt n a with
    | some c => some c
    | none => regionAt n b
  | .loop c => regionAt n c
  | .block _ c => regionAt n c
  | .scope c => regionAt n c
  | .cond _ a b => match regionAt n a with
    | some c => some c
    | none => regionAt n b
  | _ => none
theorem below_al2 {a w : World} (h : Below a.heap.size a w) (o : Obj) : Below a.heap.size a (w.alloc o) := h.alloc h.size o
theorem wp_of_eq {P : Program} {C C' : Code} {Q : Exit → Act → World → Prop} {a : Act} {w : World} (h : Code.wp P C Q a w) (e : C = C') : Code.wp P C' Q a w := e ▸ h

set_option maxRecDepth 100000 in
set_option maxHeartbeats 4000000 in
theorem more_r26 {Q : Exit → Act → World → Prop} {WY W25 : World} {Y R B : Nat} {nm : ByteArray} {ya : Option Addr} {yc j m : Nat} {qs : List (Int × Int)} {hi z1 : Int} {ua : Option Addr} {us : List Int} {uc : Nat}
    {u0 u1 u2 u3 u4 u6 u7 u8 u9 u10 u11 u12 u13 u14 u15 u16 u22 u23 u24 u25 u26 u27 u28 u29 u30 u31 u32 u33 u34 u35 u36 u37 u38 u39 u40 u41 u42 u43 u44 u45 u46 u47 u48 u49 u50 u51 u52 u53 u54 u55 u56 u57 u58 u59 u60 u61 u62 u63 u64 u65 u66 u67 u68 u69 u70 u71 u72 u73 u74 u75 u76 u77 u78 u79 u80 u81 u82 u83 u84 u85 u86 u87 u88 u89 u90 u91 u92 u93 u94 u95 u96 u97 u98 u99 u100 u101 u102 u103 u104 u105 u106 u107 u108 u109 u110 u111 u112 u113 u114 u115 u116 u117 u118 u119 u120 u121 u122 u123 u124 u125 u126 u127 u128 u129 u130 u131 u132 u133 u134 u135 u136 u137 u138 u139 u140 u141 u142 u143 u144 u145 u146 u147 u148 u149 u150 u151 u152 u153 u154 u155 u156 u157 u158 u159 u160 u161 u162 u163 u164 u165 u166 u167 u168 u169 u170 u171 u172 u173 u174 u175 u176 u177 u178 u179 u180 u181 u182 u183 u184 u185 u186 u187 u188 u189 u190 u191 u192 u193 u194 u195 u196 u197 u198 u199 u200 u201 u202 u203 u204 u205 u206 u207 u208 u209 u210 u211 u212 u213 u214 u215 u216 u217 u218 u219 u220 u221 u222 u223 u224 u225 u226 u227 u228 u229 u230 u231 u232 u233 u234 u235 u236 u237 u238 u239 u240 u241 u242 u243 u244 u245 u246 u247 u248 u249 u250 u251 u252 u253 u254 u255 u256 u257 u258 u259 u260 u261 u262 u263 u264 : Value}
    (HY3 : Hid (FiY WY Y nm (.slice ya j yc) qs W25)) (HQL : Hid (qs.length = j)) (HKR2 : Hid (KR WY Y R B hi (.slice ua us.length uc) W25))
    (HUX : Hid (∀ W : World, Below W25.heap.size W25 W → U16In W ua us)) (g4 : 0 ≤ z1) (g5 : z1 ≤ hi) (g3 : hi ≤ 100000) (hj : j ≤ 5) (hm : m ≤ 8)
    (hQ : ∀ (v167 v168 v169 v170 v171 v172 v173 v174 v175 v176 v177 v178 v179 v180 v181 v182 v183 v184 v185 : Value) (g cap : Nat) (z2 : Int) (W : World), z1 ≤ z2 ∧ z2 ≤ hi → Hid (FiY WY Y nm (.slice (some ⟨g, 0, none⟩) (j + 1) cap) (qs ++ [(z1, z2)]) W) → Q .normal ⟨#[u0, u1, u2, u3, u4, .pointer (some ⟨B, 0, none⟩), u6, u7, u8, u9, u10, u11, u12, u13, u14, u15, u16, .int .i64 m, .pointer (some ⟨Y, 0, none⟩), .int .i64 j, .pointer (some ⟨R, 0, none⟩), .int .i64 z1, u22, u23, u24, u25, u26, u27, u28, u29, u30, u31, u32, u33, u34, u35, u36, u37, u38, u39, u40, u41, u42, u43, u44, u45, u46, u47, u48, u49, u50, u51, u52, u53, u54, u55, u56, u57, u58, u59, u60, u61, u62, u63, u64, u65, u66, u67, u68, u69, u70, u71, u72, u73, u74, u75, u76, u77, u78, u79, u80, u81, u82, u83, u84, u85, u86, u87, u88, u89, u90, u91, u92, u93, u94, u95, u96, u97, u98, u99, u100, u101, u102, u103, u104, u105, u106, u107, u108, u109, u110, u111, u112, u113, u114, u115, u116, u117, u118, u119, u120, u121, u122, u123, u124, u125, u126, u127, u128, u129, u130, u131, u132, u133, u134, u135, u136, u137, u138, u139, u140, u141, u142, u143, u144, u145, u146, u147, u148, u149, u150, u151, u152, u153, u154, u155, u156, u157, u158, u159, u160, u161, u162, u163, u164, u165, u166, v167, v168, v169, v170, v171, v172, v173, v174, v175, v176, v177, v178, v179, v180, v181, v182, v183, v184, v185, u186, u187, u188, u189, u190, u191, u192, u193, u194, u195, u196, u197, u198, u199, u200, u201, u202, u203, u204, u205, u206, u207, u208, u209, u210, u211, u212, u213, u214, u215, u216, u217, u218, u219, u220, u221, u222, u223, u224, u225, u226, u227, u228, u229, u230, u231, u232, u233, u234, u235, u236, u237, u238, u239, u240, u241, u242, u243, u244, u245, u246, u247, u248, u249, u250, u251, u252, u253, u254, u255, u256, u257, u258, u259, u260, u261, u262, u263, u264], []⟩ W) :
    Code.wp Tryz.prog ((Tryz.f4.body.bind (regionAt 26)).getD .skip) Q ⟨#[u0, u1, u2, u3, u4, .pointer (some ⟨B, 0, none⟩), u6, u7, u8, u9, u10, u11, u12, u13, u14, u15, u16, .int .i64 m, .pointer (some ⟨Y, 0, none⟩), .int .i64 j, .pointer (some ⟨R, 0, none⟩), .int .i64 z1, u22, u23, u24, u25, u26, u27, u28, u29, u30, u31, u32, u33, u34, u35, u36, u37, u38, u39, u40, u41, u42, u43, u44, u45, u46, u47, u48, u49, u50, u51, u52, u53, u54, u55, u56, u57, u58, u59, u60, u61, u62, u63, u64, u65, u66, u67, u68, u69, u70, u71, u72, u73, u74, u75, u76, u77, u78, u79, u80, u81, u82, u83, u84, u85, u86, u87, u88, u89, u90, u91, u92, u93, u94, u95, u96, u97, u98, u99, u100, u101, u102, u103, u104, u105, u106, u107, u108, u109, u110, u111, u112, u113, u114, u115, u116, u117, u118, u119, u120, u121, u122, u123, u124, u125, u126, u127, u128, u129, u130, u131, u132, u133, u134, u135, u136, u137, u138, u139, u140, u141, u142, u143, u144, u145, u146, u147, u148, u149, u150, u151, u152, u153, u154, u155, u156, u157, u158, u159, u160, u161, u162, u163, u164, u165, u166, u167, u168, u169, u170, u171, u172, u173, u174, u175, u176, u177, u178, u179, u180, u181, u182, u183, u184, u185, u186, u187, u188, u189, u190, u191, u192, u193, u194, u195, u196, u197, u198, u199, u200, u201, u202, u203, u204, u205, u206, u207, u208, u209, u210, u211, u212, u213, u214, u215, u216, u217, u218, u219, u220, u221, u222, u223, u224, u225, u226, u227, u228, u229, u230, u231, u232, u233, u234, u235, u236, u237, u238, u239, u240, u241, u242, u243, u244, u245, u246, u247, u248, u249, u250, u251, u252, u253, u254, u255, u256, u257, u258, u259, u260, u261, u262, u263, u264], []⟩ W25 := by
  conv => arg 2; whnf
  obtain ⟨s0, hs0, sz0, sz1, sz2⟩ := info_parts infoSp
  have HQ := Lib.hid hQ
  clear hQ
  have k1 : IntKind.i64.wrap ((m : Int) + (j : Int)) = (m : Int) + (j : Int) := IntWalk.i64_in _ (by omega)
  have hmj : (0 : Int) ≤ (m : Int) + (j : Int) := by omega
  obtain ⟨-, y1, -, y3, y4⟩ := HY3.out.ob.two
  have r1 := HKR2.out.r1
  have x3 := HKR2.out.x3
  have aY : some Y ≠ Value.ownBlock (.slice ya j yc) := fun e => by have := (World.ownsRow.lt HY3.out.row _ e.symm).1; omega
  have HRW := Lib.hid (fun (W : World) (hW : Below W25.heap.size W25 W) => show W.ownsRow (Y + 1) 43 2 (.slice ya j yc) j (spanCells qs) by
    have h := (HY3.out.on hW).row
    unfold SpansOut at h
    rwa [HQL.out] at h)
  have HCK := Lib.hid (fun (W : World) (hW : Below W25.heap.size W25 W) => And.intro (kept_of hW _ _ y1) ((hW.frozen (p := ⟨Y, 1, none⟩) y4).trans y3))
  have HNN := Lib.hid (⟨by unfold maxLen; omega, by omega⟩ : j + 1 ≤ maxLen ∧ (j + 1) * 16 ≤ 140737488355328)
  have HZ := Lib.hid y4
  refine wp_region_noPanic ?_
  go_region_law (first
      | (go_simp; (with_reducible refine (turn_any _ hmj (HUX.out _ (by repeat (first | exact Below.refl _ _ | (with_reducible apply Below.drew) | (with_reducible apply Below.al) | (with_reducible apply below_drewN'))))).mono ?_); rintro e w' ⟨⟨z, rfl, hz⟩, rfl⟩; obtain ⟨q, hq, hq2, hqw, hqb⟩ := div5 hz)
      | (go_simp; (with_reducible refine (among_some (lo := z1) (hi := hi) g4 g5 g3 (by first | assumption | (constructor <;> assumption)) _).mono ?_); rintro e w6 ⟨z2, rfl, hz2, hb6⟩; have hb6W : Below W25.heap.size W25 w6 := Below.trans (by repeat (first | exact Below.refl _ _ | (with_reducible apply Below.drew) | (with_reducible apply Below.al) | (with_reducible apply below_drewN'))) hb6; have y1_6 := (HCK.out _ hb6W).1; have l6 : Y < w6.heap.size := Nat.lt_of_lt_of_le HZ.out hb6W.size; clear hb6)
      | (refine step_append_lies _ (by rfl) _ _ _ (by rfl) (Y + 1) 43 s0 (.agg #[.int .i64 0, .int .i64 0]) 2 16 Tryz.underlying49 hs0 sz0 sz1 sz2 rfl (by omega) (.slice ya j yc) j (spanCells qs) (by rfl) (World.ownsRow.alloc (HRW.out _ hb6W) _) ⟨_, 0, none⟩ 1 1 [.int .i64 z1, .int .i64 z2] (by rfl) (by rfl) (World.news_of_block (cs := #[.int .i64 z1, .int .i64 z2]) (t := 43) (fr := (0, 0)) (new_two _ _ _ _ _ rfl)) (by simp [Value.oneCell']) (by omega) HNN.out.1 HNN.out.2 (by simp; omega) (w6.heap.size + 1) (by simp) ?_; intro gg cap w7 hown1 hgrow hat hglt; have ck7 : w7.cell? ⟨Y, 1, none⟩ = some (.slice ya j yc) := (hgrow.cell_far ⟨Y, 1, none⟩ (by simp; omega) aY).trans (HCK.out _ (below_al2 hb6W _)).1; have fk7 : w7.frozen? ⟨Y, 1, none⟩ = false := (hgrow.frozen_far ⟨Y, 1, none⟩ (by simp; omega) aY).trans (HCK.out _ (below_al2 hb6W _)).2)
      | fail)
  all_goals (have HW7 := Lib.hid (FiY.more HY3.out HQL.out.symm (p := (z1, z2)) hown1 (wa := _) (below_al2 hb6W _) hgrow); clear hown1 hgrow hat ck7 fk7)
  all_goals exact NoPanic.normal (HQ.out _ _ _ _ _ _ _ _ _ _ _ _ _ _ _ _ _ _ _ _ _ _ _ hz2 HW7)
end Go.Proofs.YthihpggjglghoaaGreatDoor

namespace Go.Proofs.YthihpggjglghoaaGreatDoor
open Go.ChangeShapes Go.RowKit Go.Shelf

set_option linter.unusedSimpArgs false in
set_option maxRecDepth 100000 in
set_option maxHeartbeats 4000000 in
theorem more_r16 {Q : Exit → Act → World → Prop} {WX wr : World} {X A B pb po n pc k vc : Nat} {va : Option Addr} {pu er : Int} {nm : ByteArray} {ps : List Pr} {ua : Option Addr} {us : List Int} {uc : Nat}
    {u0 u1 u2 u4 u6 u7 u8 u9 u10 u11 u12 u13 u14 u17 u18 u19 u20 u21 u22 u23 u24 u25 u26 u27 u28 u29 u30 u31 u32 u33 u34 u35 u36 u37 u38 u39 u40 u41 u42 u43 u44 u45 u46 u47 u48 u49 u50 u51 u52 u53 u54 u55 u56 u57 u58 u59 u60 u61 u62 u63 u64 u65 u66 u67 u68 u69 u70 u71 u72 u73 u74 u75 u76 u77 u78 u79 u80 u81 u82 u83 u84 u85 u86 u87 u88 u89 u90 u91 u92 u93 u94 u95 u96 u97 u98 u99 u100 u101 u102 u103 u104 u105 u106 u107 u108 u109 u110 u111 u112 u113 u114 u115 u116 u117 u118 u119 u120 u121 u122 u123 u124 u125 u126 u127 u128 u129 u130 u131 u132 u133 u134 u135 u136 u137 u138 u139 u140 u141 u142 u143 u144 u145 u146 u147 u148 u149 u150 u151 u152 u153 u154 u155 u156 u157 u158 u159 u160 u161 u162 u163 u164 u165 u166 u167 u168 u169 u170 u171 u172 u173 u174 u175 u176 u177 u178 u179 u180 u181 u182 u183 u184 u185 u186 u187 u188 u189 u190 u191 u192 u193 u194 u195 u196 u197 u198 u199 u200 u201 u202 u203 u204 u205 u206 u207 u208 u209 u210 u211 u212 u213 u214 u215 u216 u217 u218 u219 u220 u221 u222 u223 u224 u225 u226 u227 u228 u229 u230 u231 u232 u233 u234 u235 u236 u237 u238 u239 u240 u241 u242 u243 u244 u245 u246 u247 u248 u249 u250 u251 u252 u253 u254 u255 u256 u257 u258 u259 u260 u261 u262 u263 u264 : Value}
    (HP : Hid (FiP WX X pu (.slice va k vc) ps wr)) (HPL : Hid (ps.length = k)) (hkn : k < n) (hn5 : n ≤ 5)
    (HL : Hid (∀ W : World, Below X WX W → W.cell? ⟨A, 0, none⟩ = some (.slice (some ⟨pb, po, none⟩) n pc) ∧ W.cell? ⟨pb, po + k * 2, none⟩ = some (.string nm) ∧ W.cell? ⟨pb, po + k * 2 + 1, none⟩ = some (.int .i64 er) ∧ W.cell? ⟨B, 3, none⟩ = some (.slice ua us.length uc) ∧ Below X WX W))
    (HUW : Hid (∀ W : World, Below wr.heap.size wr W → U16In W ua us)) (ge : 0 ≤ er ∧ er ≤ 10000)
    (hQ : ∀ (v97 v98 v99 v100 v101 v102 v103 v104 v105 v106 v107 v108 v109 v110 v111 v112 v113 v114 v115 v116 v117 v118 v119 v120 v121 v122 v123 v124 v125 v126 v127 : Value) (g cap : Nat) (q : Int) (W : World), 0 ≤ q ∧ q < er + 1 → Hid (FiP WX X pu (.slice (some ⟨g, 0, none⟩) (k + 1) cap) (ps ++ [⟨nm, er - q⟩]) W) → Q .normal ⟨#[u0, u1, u2, .pointer (some ⟨A, 0, none⟩), u4, .pointer (some ⟨B, 0, none⟩), u6, u7, u8, u9, u10, u11, u12, u13, u14, .pointer (some ⟨X, 0, none⟩), .int .i64 k, u17, u18, u19, u20, u21, u22, u23, u24, u25, u26, u27, u28, u29, u30, u31, u32, u33, u34, u35, u36, u37, u38, u39, u40, u41, u42, u43, u44, u45, u46, u47, u48, u49, u50, u51, u52, u53, u54, u55, u56, u57, u58, u59, u60, u61, u62, u63, u64, u65, u66, u67, u68, u69, u70, u71, u72, u73, u74, u75, u76, u77, u78, u79, u80, u81, u82, u83, u84, u85, u86, u87, u88, u89, u90, u91, u92, u93, u94, u95, u96, v97, v98, v99, v100, v101, v102, v103, v104, v105, v106, v107, v108, v109, v110, v111, v112, v113, v114, v115, v116, v117, v118, v119, v120, v121, v122, v123, v124, v125, v126, v127, u128, u129, u130, u131, u132, u133, u134, u135, u136, u137, u138, u139, u140, u141, u142, u143, u144, u145, u146, u147, u148, u149, u150, u151, u152, u153, u154, u155, u156, u157, u158, u159, u160, u161, u162, u163, u164, u165, u166, u167, u168, u169, u170, u171, u172, u173, u174, u175, u176, u177, u178, u179, u180, u181, u182, u183, u184, u185, u186, u187, u188, u189, u190, u191, u192, u193, u194, u195, u196, u197, u198, u199, u200, u201, u202, u203, u204, u205, u206, u207, u208, u209, u210, u211, u212, u213, u214, u215, u216, u217, u218, u219, u220, u221, u222, u223, u224, u225, u226, u227, u228, u229, u230, u231, u232, u233, u234, u235, u236, u237, u238, u239, u240, u241, u242, u243, u244, u245, u246, u247, u248, u249, u250, u251, u252, u253, u254, u255, u256, u257, u258, u259, u260, u261, u262, u263, u264], []⟩ W) :
    Code.wp Tryz.prog ((Tryz.f4.body.bind (regionAt 16)).getD .skip) Q ⟨#[u0, u1, u2, .pointer (some ⟨A, 0, none⟩), u4, .pointer (some ⟨B, 0, none⟩), u6, u7, u8, u9, u10, u11, u12, u13, u14, .pointer (some ⟨X, 0, none⟩), .int .i64 k, u17, u18, u19, u20, u21, u22, u23, u24, u25, u26, u27, u28, u29, u30, u31, u32, u33, u34, u35, u36, u37, u38, u39, u40, u41, u42, u43, u44, u45, u46, u47, u48, u49, u50, u51, u52, u53, u54, u55, u56, u57, u58, u59, u60, u61, u62, u63, u64, u65, u66, u67, u68, u69, u70, u71, u72, u73, u74, u75, u76, u77, u78, u79, u80, u81, u82, u83, u84, u85, u86, u87, u88, u89, u90, u91, u92, u93, u94, u95, u96, u97, u98, u99, u100, u101, u102, u103, u104, u105, u106, u107, u108, u109, u110, u111, u112, u113, u114, u115, u116, u117, u118, u119, u120, u121, u122, u123, u124, u125, u126, u127, u128, u129, u130, u131, u132, u133, u134, u135, u136, u137, u138, u139, u140, u141, u142, u143, u144, u145, u146, u147, u148, u149, u150, u151, u152, u153, u154, u155, u156, u157, u158, u159, u160, u161, u162, u163, u164, u165, u166, u167, u168, u169, u170, u171, u172, u173, u174, u175, u176, u177, u178, u179, u180, u181, u182, u183, u184, u185, u186, u187, u188, u189, u190, u191, u192, u193, u194, u195, u196, u197, u198, u199, u200, u201, u202, u203, u204, u205, u206, u207, u208, u209, u210, u211, u212, u213, u214, u215, u216, u217, u218, u219, u220, u221, u222, u223, u224, u225, u226, u227, u228, u229, u230, u231, u232, u233, u234, u235, u236, u237, u238, u239, u240, u241, u242, u243, u244, u245, u246, u247, u248, u249, u250, u251, u252, u253, u254, u255, u256, u257, u258, u259, u260, u261, u262, u263, u264], []⟩ wr := by
  conv => arg 2; whnf
  obtain ⟨j0, hj0, jz0, jz1, jz2⟩ := info_parts infoPr
  have HQ := Lib.hid hQ
  clear hQ
  have hkn2 : (k : Int) < (n : Int) := by omega
  obtain ⟨t0, -, -, t4, -, -, t6⟩ := HP.out.ob.three
  have HNN := Lib.hid (⟨by unfold maxLen; omega, by omega⟩ : k + 1 ≤ maxLen ∧ (k + 1) * 24 ≤ 140737488355328)
  have HRW := Lib.hid (fun (W : World) (hW : Below wr.heap.size wr W) => show W.ownsRow (X + 1) 47 2 (.slice va k vc) k (propCells ps) by
    have h := (HP.out.on hW).row
    unfold PropsOut at h
    rwa [HPL.out] at h)
  have HCK := Lib.hid (fun (W : World) (hW : Below wr.heap.size wr W) => And.intro (kept_of hW _ _ t0) ((hW.frozen (p := ⟨X, 0, none⟩) t6).trans t4))
  have aX : some X ≠ Value.ownBlock (.slice va k vc) := fun e => by have := (World.ownsRow.lt HP.out.row _ e.symm).1; omega
  have HRO := Lib.hid (show ∀ r, Value.ownBlock (.slice va k vc) = some r → X ≤ r from fun r e => Nat.le_of_succ_le (World.ownsRow.lt HP.out.row r e).1)
  have ke : IntKind.i64.wrap (er + 1) = er + 1 := IntWalk.i64_in _ (by omega)
  have ze : (er + 1 == 0) = false := by
    have h : ¬ (er + 1 = 0) := by omega
    simpa using h
  have ze2 : ¬ (er + 1 = 0) := by omega
  have HZ := Lib.hid t6
  refine wp_region_noPanic ?_
  refine wp_region_held_drew (S := fun w' => w'.cell? ⟨A, 0, none⟩ = some (.slice (some ⟨pb, po, none⟩) n pc) ∧ w'.cell? ⟨pb, po + k * 2, none⟩ = some (.string nm) ∧ w'.cell? ⟨pb, po + k * 2 + 1, none⟩ = some (.int .i64 er) ∧ w'.cell? ⟨B, 3, none⟩ = some (.slice ua us.length uc) ∧ Below X WX w') (by kernel_rfl) (HL.out _ HP.out.b.drew) (fun hHeld => ?_)
  refine wpAnyH_take (i := 0) (v := ?_) rfl (by kernel_rfl) (by kernel_rfl) (by kernel_rfl) (fun _ _ _ h => h) (Or.inl ⟨by rfl, ?_⟩) (by assumption) ?_
  rotate_left
  · intro w hSw; (try dsimp only at hSw); go_split_ands; go_simp; try with_reducible rfl
  try simp only [Act.put, List.setIfInBounds_toArray, List.set_cons_zero, List.set_cons_succ]
  refine wpAnyH_take (i := 2) (v := ?_) rfl (by kernel_rfl) (by kernel_rfl) (by kernel_rfl) (fun _ _ _ h => h) (Or.inl ⟨by rfl, ?_⟩) (by assumption) ?_
  rotate_left
  · intro w hSw; (try dsimp only at hSw); go_split_ands; go_simp; try with_reducible rfl
  try simp only [Act.put, List.setIfInBounds_toArray, List.set_cons_zero, List.set_cons_succ]
  refine wpAnyH_take (i := 3) (v := ?_) rfl (by kernel_rfl) (by kernel_rfl) (by kernel_rfl) (fun _ _ _ h => h) (Or.inl ⟨by rfl, ?_⟩) (by assumption) ?_
  rotate_left
  · intro w hSw; (try dsimp only at hSw); go_split_ands; go_simp; try with_reducible rfl
  try simp only [Act.put, List.setIfInBounds_toArray, List.set_cons_zero, List.set_cons_succ]
  refine wpAnyH_take (i := 4) (v := ?_) rfl (by kernel_rfl) (by kernel_rfl) (by kernel_rfl) (fun _ _ _ h => h) (Or.inl ⟨by rfl, ?_⟩) (by assumption) ?_
  rotate_left
  · intro w hSw; (try dsimp only at hSw); go_split_ands; go_simp; try with_reducible rfl
  try simp only [Act.put, List.setIfInBounds_toArray, List.set_cons_zero, List.set_cons_succ]
  refine wpAnyH_take (i := 5) (v := ?_) rfl (by kernel_rfl) (by kernel_rfl) (by kernel_rfl) (fun _ _ _ h => h) (Or.inl ⟨by rfl, ?_⟩) (by assumption) ?_
  rotate_left
  · intro w hSw; (try dsimp only at hSw); go_split_ands; go_simp; try with_reducible rfl
  try simp only [Act.put, List.setIfInBounds_toArray, List.set_cons_zero, List.set_cons_succ]
  refine wpAnyH_take (i := 6) (v := ?_) rfl (by kernel_rfl) (by kernel_rfl) (by kernel_rfl) (fun _ _ _ h => h) (Or.inl ⟨by rfl, ?_⟩) (by assumption) ?_
  rotate_left
  · intro w hSw; (try dsimp only at hSw); go_split_ands; go_simp; try with_reducible rfl
  try simp only [Act.put, List.setIfInBounds_toArray, List.set_cons_zero, List.set_cons_succ]
  refine wpAnyH_take (i := 7) (v := ?_) rfl (by kernel_rfl) (by kernel_rfl) (by kernel_rfl) (fun _ _ _ h => h) (Or.inl ⟨by rfl, ?_⟩) (by assumption) ?_
  rotate_left
  · intro w hSw; (try dsimp only at hSw); go_split_ands; go_simp; try with_reducible rfl
  try simp only [Act.put, List.setIfInBounds_toArray, List.set_cons_zero, List.set_cons_succ]
  refine wpAnyH_take (i := 8) (v := ?_) rfl (by kernel_rfl) (by kernel_rfl) (by kernel_rfl) (fun _ _ _ h => h) (Or.inl ⟨by rfl, ?_⟩) (by assumption) ?_
  rotate_left
  · intro w hSw; (try dsimp only at hSw); go_split_ands; go_simp; try with_reducible rfl
  try simp only [Act.put, List.setIfInBounds_toArray, List.set_cons_zero, List.set_cons_succ]
  refine wpAnyH_take (i := 9) (v := ?_) rfl (by kernel_rfl) (by kernel_rfl) (by kernel_rfl) (fun _ _ _ h => h) (Or.inl ⟨by rfl, ?_⟩) (by assumption) ?_
  rotate_left
  · intro w hSw; (try dsimp only at hSw); go_split_ands; go_simp; try with_reducible rfl
  try simp only [Act.put, List.setIfInBounds_toArray, List.set_cons_zero, List.set_cons_succ]
  refine wpAnyH_take (i := 10) (v := ?_) rfl (by kernel_rfl) (by kernel_rfl) (by kernel_rfl) (fun _ _ _ h => h) (Or.inl ⟨by rfl, ?_⟩) (by assumption) ?_
  rotate_left
  · intro w hSw; (try dsimp only at hSw); go_split_ands; go_simp; try with_reducible rfl
  try simp only [Act.put, List.setIfInBounds_toArray, List.set_cons_zero, List.set_cons_succ]
  refine wpAnyH_take (i := 11) (v := ?_) rfl (by kernel_rfl) (by kernel_rfl) (by kernel_rfl) (fun _ _ _ h => h) (Or.inl ⟨by rfl, ?_⟩) (by assumption) ?_
  rotate_left
  · intro w hSw; (try dsimp only at hSw); go_split_ands; go_simp; try with_reducible rfl
  try simp only [Act.put, List.setIfInBounds_toArray, List.set_cons_zero, List.set_cons_succ]
  refine wpAnyH_take (i := 12) (v := ?_) rfl (by kernel_rfl) (by kernel_rfl) (by kernel_rfl) (fun _ _ _ h => h) (Or.inl ⟨by rfl, ?_⟩) (by assumption) ?_
  rotate_left
  · intro w hSw; (try dsimp only at hSw); go_split_ands; go_simp; try with_reducible rfl
  try simp only [Act.put, List.setIfInBounds_toArray, List.set_cons_zero, List.set_cons_succ]
  refine wpAnyH_take (i := 13) (v := ?_) rfl (by kernel_rfl) (by kernel_rfl) (by kernel_rfl) (fun _ _ _ h => h) (Or.inl ⟨by rfl, ?_⟩) (by assumption) ?_
  rotate_left
  · intro w hSw; (try dsimp only at hSw); go_split_ands; go_simp; try with_reducible rfl
  try simp only [Act.put, List.setIfInBounds_toArray, List.set_cons_zero, List.set_cons_succ]
  refine wpAnyH_take (i := 14) (v := ?_) rfl (by kernel_rfl) (by kernel_rfl) (by kernel_rfl) (fun _ _ _ h => h) (Or.inl ⟨by rfl, ?_⟩) (by assumption) ?_
  rotate_left
  · intro w hSw; (try dsimp only at hSw); go_split_ands; go_simp; try with_reducible rfl
  try simp only [Act.put, List.setIfInBounds_toArray, List.set_cons_zero, List.set_cons_succ]
  refine wpAnyH_take (i := 15) (v := ?_) rfl (by kernel_rfl) (by kernel_rfl) (by kernel_rfl) (fun _ _ _ h => h) (Or.inl ⟨by rfl, ?_⟩) (by assumption) ?_
  rotate_left
  · intro w hSw; (try dsimp only at hSw); go_split_ands; go_simp; try with_reducible rfl
  try simp only [Act.put, List.setIfInBounds_toArray, List.set_cons_zero, List.set_cons_succ]
  refine wpAnyH_take (i := 16) (v := ?_) rfl (by kernel_rfl) (by kernel_rfl) (by kernel_rfl) (fun _ _ _ h => h) (Or.inl ⟨by rfl, ?_⟩) (by assumption) ?_
  rotate_left
  · intro w hSw; (try dsimp only at hSw); go_split_ands; go_simp; try with_reducible rfl
  try simp only [Act.put, List.setIfInBounds_toArray, List.set_cons_zero, List.set_cons_succ]
  refine wpAnyH_take (i := 18) (v := ?_) rfl (by kernel_rfl) (by kernel_rfl) (by kernel_rfl) (fun _ _ _ h => h) (Or.inl ⟨by rfl, ?_⟩) (by assumption) ?_
  rotate_left
  · intro w hSw; (try dsimp only at hSw); go_split_ands; go_simp; try with_reducible rfl
  try simp only [Act.put, List.setIfInBounds_toArray, List.set_cons_zero, List.set_cons_succ]
  refine wpAnyH_take (i := 19) (v := ?_) rfl (by kernel_rfl) (by kernel_rfl) (by kernel_rfl) (fun _ _ _ h => h) (Or.inl ⟨by rfl, ?_⟩) (by assumption) ?_
  rotate_left
  · intro w hSw; (try dsimp only at hSw); go_split_ands; go_simp; try with_reducible rfl
  try simp only [Act.put, List.setIfInBounds_toArray, List.set_cons_zero, List.set_cons_succ]
  refine wpAnyH_take (i := 20) (v := ?_) rfl (by kernel_rfl) (by kernel_rfl) (by kernel_rfl) (fun _ _ _ h => h) (Or.inl ⟨by rfl, ?_⟩) (by assumption) ?_
  rotate_left
  · intro w hSw; (try dsimp only at hSw); go_split_ands; go_simp; try with_reducible rfl
  try simp only [Act.put, List.setIfInBounds_toArray, List.set_cons_zero, List.set_cons_succ]
  refine wpAnyH_take (i := 21) (v := ?_) rfl (by kernel_rfl) (by kernel_rfl) (by kernel_rfl) (fun _ _ _ h => h) (Or.inl ⟨by rfl, ?_⟩) (by assumption) ?_
  rotate_left
  · intro w hSw; (try dsimp only at hSw); go_split_ands; go_simp; try with_reducible rfl
  try simp only [Act.put, List.setIfInBounds_toArray, List.set_cons_zero, List.set_cons_succ]
  refine wpAnyH_take (i := 22) (v := ?_) rfl (by kernel_rfl) (by kernel_rfl) (by kernel_rfl) (fun _ _ _ h => h) (Or.inl ⟨by rfl, ?_⟩) (by assumption) ?_
  rotate_left
  · intro w hSw; (try dsimp only at hSw); go_split_ands; go_simp; try with_reducible rfl
  try simp only [Act.put, List.setIfInBounds_toArray, List.set_cons_zero, List.set_cons_succ]
  refine wpAnyH_take (i := 23) (v := ?_) rfl (by kernel_rfl) (by kernel_rfl) (by kernel_rfl) (fun _ _ _ h => h) (Or.inl ⟨by rfl, ?_⟩) (by assumption) ?_
  rotate_left
  · intro w hSw; (try dsimp only at hSw); go_split_ands; go_simp; try with_reducible rfl
  try simp only [Act.put, List.setIfInBounds_toArray, List.set_cons_zero, List.set_cons_succ]
  refine wpAnyH_take (i := 24) (v := ?_) rfl (by kernel_rfl) (by kernel_rfl) (by kernel_rfl) (fun _ _ _ h => h) (Or.inl ⟨by rfl, ?_⟩) (by assumption) ?_
  rotate_left
  · intro w hSw; (try dsimp only at hSw); go_split_ands; go_simp; try with_reducible rfl
  try simp only [Act.put, List.setIfInBounds_toArray, List.set_cons_zero, List.set_cons_succ]
  refine wpAnyH_ready (rs := [1, 17]) (by kernel_rfl) (by simp) ?_
  refine AllReadyH.cons rfl (fun K hK => ?_) ?_
  · skip
    go_simp
    refine hK.out _ _ ?_ (fun hHeld => ?_)
    · exact HL.out _ (by repeat (first | exact HP.out.b | (with_reducible apply Below.drew) | (with_reducible refine Below.setCell ?_ (Nat.le_refl _) _) | (with_reducible refine Below.alloc ?_ (by have := HZ.out; first | omega | (simp; omega)) _) | (with_reducible apply below_drewN')))
    clear hK K
    try simp only [Act.put, List.setIfInBounds_toArray, List.set_cons_zero, List.set_cons_succ]
    refine wpAnyH_ready (rs := [17]) (by kernel_rfl) (by simp) ?_
    refine AllReadyH.cons rfl (fun K hK => ?_) ?_
    · skip
      go_simp
      refine (turn_any (c := uc) (k : Int) (by omega) (HUW.out _ (by repeat (first | exact Below.refl _ _ | (with_reducible apply Below.drew) | (with_reducible apply Below.al) | (with_reducible apply below_drewN'))))).mono ?_
      rintro e w5 ⟨⟨z, rfl, hz⟩, rfl⟩
      obtain ⟨q, hq, hq2, hqb⟩ := mod_some hz.1 (show 0 < er + 1 by omega)
      have hqw : IntKind.i64.wrap (er - q) = er - q := IntWalk.i64_in _ (by omega)
      go_wp2_with fail
      refine hK.out _ _ ?_ (fun hHeld => ?_)
      · exact HL.out _ (by repeat (first | exact HP.out.b | (with_reducible apply Below.drew) | (with_reducible refine Below.setCell ?_ (Nat.le_refl _) _) | (with_reducible refine Below.alloc ?_ (by have := HZ.out; first | omega | (simp; omega)) _) | (with_reducible apply below_drewN')))
      clear hK K
      try simp only [Act.put, List.setIfInBounds_toArray, List.set_cons_zero, List.set_cons_succ]
      refine wpAnyH_take (i := 25) (v := ?_) rfl (by kernel_rfl) (by kernel_rfl) (by kernel_rfl) (fun _ _ _ h => h) (Or.inl ⟨by rfl, ?_⟩) (by assumption) ?_
      rotate_left
      · intro w hSw; (try dsimp only at hSw); go_split_ands; go_simp; try with_reducible rfl
      try simp only [Act.put, List.setIfInBounds_toArray, List.set_cons_zero, List.set_cons_succ]
      refine wpAnyH_take (i := 26) (v := ?_) rfl (by kernel_rfl) (by kernel_rfl) (by kernel_rfl) (fun _ _ _ h => h) (Or.inl ⟨by rfl, ?_⟩) (by assumption) ?_
      rotate_left
      · intro w hSw; (try dsimp only at hSw); go_split_ands; go_simp; try with_reducible rfl
      try simp only [Act.put, List.setIfInBounds_toArray, List.set_cons_zero, List.set_cons_succ]
      refine wpAnyH_take (i := 27) (v := ?_) rfl (by kernel_rfl) (by kernel_rfl) (by kernel_rfl) (fun _ _ _ h => h) (Or.inl ⟨by rfl, ?_⟩) (by assumption) ?_
      rotate_left
      · intro w hSw; (try dsimp only at hSw); go_split_ands; go_simp; try with_reducible rfl
      try simp only [Act.put, List.setIfInBounds_toArray, List.set_cons_zero, List.set_cons_succ]
      refine wpAnyH_ready (rs := [28]) (by kernel_rfl) (by simp) ?_
      refine AllReadyH.cons rfl (fun K hK => ?_) ?_
      · skip
        go_simp
        refine hK.out _ _ ?_ (fun hHeld => ?_)
        · exact HL.out _ (by repeat (first | exact HP.out.b | (with_reducible apply Below.drew) | (with_reducible refine Below.setCell ?_ (Nat.le_refl _) _) | (with_reducible refine Below.alloc ?_ (by have := HZ.out; first | omega | (simp; omega)) _) | (with_reducible apply below_drewN')))
        clear hK K
        try simp only [Act.put, List.setIfInBounds_toArray, List.set_cons_zero, List.set_cons_succ]
        refine wpAnyH_ready (rs := [29]) (by kernel_rfl) (by simp) ?_
        refine AllReadyH.cons rfl (fun K hK => ?_) ?_
        · skip
          refine step_append_lies _ (by rfl) _ _ _ (by rfl) (X + 1) 47 j0 (.agg #[.string ⟨#[]⟩, .int .i64 0]) 2 24 Tryz.underlying22 hj0 jz0 jz1 jz2 rfl (by omega) (.slice va k vc) k (propCells ps) (by rfl) (World.ownsRow.alloc (HRW.out _ (by repeat (first | exact Below.refl _ _ | (with_reducible apply Below.drew) | (with_reducible apply Below.al) | (with_reducible apply below_drewN')))) _) ⟨_, 0, none⟩ 1 1 [.string nm, .int .i64 (er - q)] (by rfl) (by rfl) (World.news_of_block (cs := #[.string nm, .int .i64 (er - q)]) (t := 47) (fr := (0, 0)) (new_two _ _ _ _ _ rfl)) (by simp [Value.oneCell']) (by omega) HNN.out.1 HNN.out.2 (by have := HZ.out; simp; omega) (wr.heap.size + 1) (by simp) ?_
          intro gg cap w7 hown1 hgrow hat hglt
          have ck7 : w7.cell? ⟨X, 0, none⟩ = some (.slice va k vc) := (hgrow.cell_far ⟨X, 0, none⟩ (by have := HZ.out; simp; omega) aX).trans (HCK.out _ (by repeat (first | exact Below.refl _ _ | (with_reducible apply Below.drew) | (with_reducible apply Below.al) | (with_reducible apply below_drewN')))).1
          have fk7 : w7.frozen? ⟨X, 0, none⟩ = false := (hgrow.frozen_far ⟨X, 0, none⟩ (by have := HZ.out; simp; omega) aX).trans (HCK.out _ (by repeat (first | exact Below.refl _ _ | (with_reducible apply Below.drew) | (with_reducible apply Below.al) | (with_reducible apply below_drewN')))).2
          have hb7 : Below X WX w7 := (HP.out.on (by repeat (first | exact Below.refl _ _ | (with_reducible apply Below.drew) | (with_reducible apply Below.al) | (with_reducible apply below_drewN')))).b.grown hgrow (by have := HZ.out; simp; omega) HRO.out
          refine hK.out _ _ ?_ (fun hHeld => ?_)
          · exact HL.out _ hb7
          clear hK K
          try simp only [Act.put, List.setIfInBounds_toArray, List.set_cons_zero, List.set_cons_succ]
          refine wpAnyH_take (i := 30) (v := ?_) rfl (by kernel_rfl) (by kernel_rfl) (by kernel_rfl) (fun _ _ _ h => h) (Or.inl ⟨by rfl, ?_⟩) (by assumption) ?_
          rotate_left
          · intro w hSw; (try dsimp only at hSw); go_split_ands; go_simp; try with_reducible rfl
          try simp only [Act.put, List.setIfInBounds_toArray, List.set_cons_zero, List.set_cons_succ]
          refine wpAnyH_ready (rs := [31]) (by kernel_rfl) (by simp) ?_
          refine AllReadyH.cons rfl (fun K hK => ?_) ?_
          · skip
            go_simp
            refine hK.out _ _ ?_ (fun hHeld => ?_)
            · exact HL.out _ (hb7.setCell (Nat.le_refl _) _)
            clear hK K
            try simp only [Act.put, List.setIfInBounds_toArray, List.set_cons_zero, List.set_cons_succ]
            refine wpAnyH_done (by kernel_rfl) ?_ _
            have HW7 := Lib.hid (FiP.more HP.out HPL.out.symm (p := ⟨nm, er - q⟩) hown1 (wa := _) (by repeat (first | exact Below.refl _ _ | (with_reducible apply Below.drew) | (with_reducible apply Below.al) | (with_reducible apply below_drewN'))) hgrow)
            exact NoPanic.normal (HQ.out _ _ _ _ _ _ _ _ _ _ _ _ _ _ _ _ _ _ _ _ _ _ _ _ _ _ _ _ _ _ _ _ _ _ _ hqb HW7)
          exact AllReadyH.nil
        exact AllReadyH.nil
      exact AllReadyH.nil
    exact AllReadyH.nil
  refine AllReadyH.cons rfl (fun K hK => ?_) ?_
  · skip
    go_simp
    refine (turn_any (c := uc) (k : Int) (by omega) (HUW.out _ (by repeat (first | exact Below.refl _ _ | (with_reducible apply Below.drew) | (with_reducible apply Below.al) | (with_reducible apply below_drewN'))))).mono ?_
    rintro e w5 ⟨⟨z, rfl, hz⟩, rfl⟩
    obtain ⟨q, hq, hq2, hqb⟩ := mod_some hz.1 (show 0 < er + 1 by omega)
    have hqw : IntKind.i64.wrap (er - q) = er - q := IntWalk.i64_in _ (by omega)
    go_wp2_with fail
    refine hK.out _ _ ?_ (fun hHeld => ?_)
    · exact HL.out _ (by repeat (first | exact HP.out.b | (with_reducible apply Below.drew) | (with_reducible refine Below.setCell ?_ (Nat.le_refl _) _) | (with_reducible refine Below.alloc ?_ (by have := HZ.out; first | omega | (simp; omega)) _) | (with_reducible apply below_drewN')))
    clear hK K
    try simp only [Act.put, List.setIfInBounds_toArray, List.set_cons_zero, List.set_cons_succ]
    refine wpAnyH_take (i := 25) (v := ?_) rfl (by kernel_rfl) (by kernel_rfl) (by kernel_rfl) (fun _ _ _ h => h) (Or.inl ⟨by rfl, ?_⟩) (by assumption) ?_
    rotate_left
    · intro w hSw; (try dsimp only at hSw); go_split_ands; go_simp; try with_reducible rfl
    try simp only [Act.put, List.setIfInBounds_toArray, List.set_cons_zero, List.set_cons_succ]
    refine wpAnyH_take (i := 26) (v := ?_) rfl (by kernel_rfl) (by kernel_rfl) (by kernel_rfl) (fun _ _ _ h => h) (Or.inl ⟨by rfl, ?_⟩) (by assumption) ?_
    rotate_left
    · intro w hSw; (try dsimp only at hSw); go_split_ands; go_simp; try with_reducible rfl
    try simp only [Act.put, List.setIfInBounds_toArray, List.set_cons_zero, List.set_cons_succ]
    refine wpAnyH_take (i := 27) (v := ?_) rfl (by kernel_rfl) (by kernel_rfl) (by kernel_rfl) (fun _ _ _ h => h) (Or.inl ⟨by rfl, ?_⟩) (by assumption) ?_
    rotate_left
    · intro w hSw; (try dsimp only at hSw); go_split_ands; go_simp; try with_reducible rfl
    try simp only [Act.put, List.setIfInBounds_toArray, List.set_cons_zero, List.set_cons_succ]
    refine wpAnyH_ready (rs := [1, 28]) (by kernel_rfl) (by simp) ?_
    refine AllReadyH.cons rfl (fun K hK => ?_) ?_
    · skip
      go_simp
      refine hK.out _ _ ?_ (fun hHeld => ?_)
      · exact HL.out _ (by repeat (first | exact HP.out.b | (with_reducible apply Below.drew) | (with_reducible refine Below.setCell ?_ (Nat.le_refl _) _) | (with_reducible refine Below.alloc ?_ (by have := HZ.out; first | omega | (simp; omega)) _) | (with_reducible apply below_drewN')))
      clear hK K
      try simp only [Act.put, List.setIfInBounds_toArray, List.set_cons_zero, List.set_cons_succ]
      refine wpAnyH_ready (rs := [28]) (by kernel_rfl) (by simp) ?_
      refine AllReadyH.cons rfl (fun K hK => ?_) ?_
      · skip
        go_simp
        refine hK.out _ _ ?_ (fun hHeld => ?_)
        · exact HL.out _ (by repeat (first | exact HP.out.b | (with_reducible apply Below.drew) | (with_reducible refine Below.setCell ?_ (Nat.le_refl _) _) | (with_reducible refine Below.alloc ?_ (by have := HZ.out; first | omega | (simp; omega)) _) | (with_reducible apply below_drewN')))
        clear hK K
        try simp only [Act.put, List.setIfInBounds_toArray, List.set_cons_zero, List.set_cons_succ]
        refine wpAnyH_ready (rs := [29]) (by kernel_rfl) (by simp) ?_
        refine AllReadyH.cons rfl (fun K hK => ?_) ?_
        · skip
          refine step_append_lies _ (by rfl) _ _ _ (by rfl) (X + 1) 47 j0 (.agg #[.string ⟨#[]⟩, .int .i64 0]) 2 24 Tryz.underlying22 hj0 jz0 jz1 jz2 rfl (by omega) (.slice va k vc) k (propCells ps) (by rfl) (World.ownsRow.alloc (HRW.out _ (by repeat (first | exact Below.refl _ _ | (with_reducible apply Below.drew) | (with_reducible apply Below.al) | (with_reducible apply below_drewN')))) _) ⟨_, 0, none⟩ 1 1 [.string nm, .int .i64 (er - q)] (by rfl) (by rfl) (World.news_of_block (cs := #[.string nm, .int .i64 (er - q)]) (t := 47) (fr := (0, 0)) (new_two _ _ _ _ _ rfl)) (by simp [Value.oneCell']) (by omega) HNN.out.1 HNN.out.2 (by have := HZ.out; simp; omega) (wr.heap.size + 1) (by simp) ?_
          intro gg cap w7 hown1 hgrow hat hglt
          have ck7 : w7.cell? ⟨X, 0, none⟩ = some (.slice va k vc) := (hgrow.cell_far ⟨X, 0, none⟩ (by have := HZ.out; simp; omega) aX).trans (HCK.out _ (by repeat (first | exact Below.refl _ _ | (with_reducible apply Below.drew) | (with_reducible apply Below.al) | (with_reducible apply below_drewN')))).1
          have fk7 : w7.frozen? ⟨X, 0, none⟩ = false := (hgrow.frozen_far ⟨X, 0, none⟩ (by have := HZ.out; simp; omega) aX).trans (HCK.out _ (by repeat (first | exact Below.refl _ _ | (with_reducible apply Below.drew) | (with_reducible apply Below.al) | (with_reducible apply below_drewN')))).2
          have hb7 : Below X WX w7 := (HP.out.on (by repeat (first | exact Below.refl _ _ | (with_reducible apply Below.drew) | (with_reducible apply Below.al) | (with_reducible apply below_drewN')))).b.grown hgrow (by have := HZ.out; simp; omega) HRO.out
          refine hK.out _ _ ?_ (fun hHeld => ?_)
          · exact HL.out _ hb7
          clear hK K
          try simp only [Act.put, List.setIfInBounds_toArray, List.set_cons_zero, List.set_cons_succ]
          refine wpAnyH_take (i := 30) (v := ?_) rfl (by kernel_rfl) (by kernel_rfl) (by kernel_rfl) (fun _ _ _ h => h) (Or.inl ⟨by rfl, ?_⟩) (by assumption) ?_
          rotate_left
          · intro w hSw; (try dsimp only at hSw); go_split_ands; go_simp; try with_reducible rfl
          try simp only [Act.put, List.setIfInBounds_toArray, List.set_cons_zero, List.set_cons_succ]
          refine wpAnyH_ready (rs := [31]) (by kernel_rfl) (by simp) ?_
          refine AllReadyH.cons rfl (fun K hK => ?_) ?_
          · skip
            go_simp
            refine hK.out _ _ ?_ (fun hHeld => ?_)
            · exact HL.out _ (hb7.setCell (Nat.le_refl _) _)
            clear hK K
            try simp only [Act.put, List.setIfInBounds_toArray, List.set_cons_zero, List.set_cons_succ]
            refine wpAnyH_done (by kernel_rfl) ?_ _
            have HW7 := Lib.hid (FiP.more HP.out HPL.out.symm (p := ⟨nm, er - q⟩) hown1 (wa := _) (by repeat (first | exact Below.refl _ _ | (with_reducible apply Below.drew) | (with_reducible apply Below.al) | (with_reducible apply below_drewN'))) hgrow)
            exact NoPanic.normal (HQ.out _ _ _ _ _ _ _ _ _ _ _ _ _ _ _ _ _ _ _ _ _ _ _ _ _ _ _ _ _ _ _ _ _ _ _ hqb HW7)
          exact AllReadyH.nil
        exact AllReadyH.nil
      exact AllReadyH.nil
    refine AllReadyH.cons rfl (fun K hK => ?_) ?_
    · skip
      go_simp
      refine hK.out _ _ ?_ (fun hHeld => ?_)
      · exact HL.out _ (by repeat (first | exact HP.out.b | (with_reducible apply Below.drew) | (with_reducible refine Below.setCell ?_ (Nat.le_refl _) _) | (with_reducible refine Below.alloc ?_ (by have := HZ.out; first | omega | (simp; omega)) _) | (with_reducible apply below_drewN')))
      clear hK K
      try simp only [Act.put, List.setIfInBounds_toArray, List.set_cons_zero, List.set_cons_succ]
      refine wpAnyH_ready (rs := [1]) (by kernel_rfl) (by simp) ?_
      refine AllReadyH.cons rfl (fun K hK => ?_) ?_
      · skip
        go_simp
        refine hK.out _ _ ?_ (fun hHeld => ?_)
        · exact HL.out _ (by repeat (first | exact HP.out.b | (with_reducible apply Below.drew) | (with_reducible refine Below.setCell ?_ (Nat.le_refl _) _) | (with_reducible refine Below.alloc ?_ (by have := HZ.out; first | omega | (simp; omega)) _) | (with_reducible apply below_drewN')))
        clear hK K
        try simp only [Act.put, List.setIfInBounds_toArray, List.set_cons_zero, List.set_cons_succ]
        refine wpAnyH_ready (rs := [29]) (by kernel_rfl) (by simp) ?_
        refine AllReadyH.cons rfl (fun K hK => ?_) ?_
        · skip
          refine step_append_lies _ (by rfl) _ _ _ (by rfl) (X + 1) 47 j0 (.agg #[.string ⟨#[]⟩, .int .i64 0]) 2 24 Tryz.underlying22 hj0 jz0 jz1 jz2 rfl (by omega) (.slice va k vc) k (propCells ps) (by rfl) (World.ownsRow.alloc (HRW.out _ (by repeat (first | exact Below.refl _ _ | (with_reducible apply Below.drew) | (with_reducible apply Below.al) | (with_reducible apply below_drewN')))) _) ⟨_, 0, none⟩ 1 1 [.string nm, .int .i64 (er - q)] (by rfl) (by rfl) (World.news_of_block (cs := #[.string nm, .int .i64 (er - q)]) (t := 47) (fr := (0, 0)) (new_two _ _ _ _ _ rfl)) (by simp [Value.oneCell']) (by omega) HNN.out.1 HNN.out.2 (by have := HZ.out; simp; omega) (wr.heap.size + 1) (by simp) ?_
          intro gg cap w7 hown1 hgrow hat hglt
          have ck7 : w7.cell? ⟨X, 0, none⟩ = some (.slice va k vc) := (hgrow.cell_far ⟨X, 0, none⟩ (by have := HZ.out; simp; omega) aX).trans (HCK.out _ (by repeat (first | exact Below.refl _ _ | (with_reducible apply Below.drew) | (with_reducible apply Below.al) | (with_reducible apply below_drewN')))).1
          have fk7 : w7.frozen? ⟨X, 0, none⟩ = false := (hgrow.frozen_far ⟨X, 0, none⟩ (by have := HZ.out; simp; omega) aX).trans (HCK.out _ (by repeat (first | exact Below.refl _ _ | (with_reducible apply Below.drew) | (with_reducible apply Below.al) | (with_reducible apply below_drewN')))).2
          have hb7 : Below X WX w7 := (HP.out.on (by repeat (first | exact Below.refl _ _ | (with_reducible apply Below.drew) | (with_reducible apply Below.al) | (with_reducible apply below_drewN')))).b.grown hgrow (by have := HZ.out; simp; omega) HRO.out
          refine hK.out _ _ ?_ (fun hHeld => ?_)
          · exact HL.out _ hb7
          clear hK K
          try simp only [Act.put, List.setIfInBounds_toArray, List.set_cons_zero, List.set_cons_succ]
          refine wpAnyH_take (i := 30) (v := ?_) rfl (by kernel_rfl) (by kernel_rfl) (by kernel_rfl) (fun _ _ _ h => h) (Or.inl ⟨by rfl, ?_⟩) (by assumption) ?_
          rotate_left
          · intro w hSw; (try dsimp only at hSw); go_split_ands; go_simp; try with_reducible rfl
          try simp only [Act.put, List.setIfInBounds_toArray, List.set_cons_zero, List.set_cons_succ]
          refine wpAnyH_ready (rs := [31]) (by kernel_rfl) (by simp) ?_
          refine AllReadyH.cons rfl (fun K hK => ?_) ?_
          · skip
            go_simp
            refine hK.out _ _ ?_ (fun hHeld => ?_)
            · exact HL.out _ (hb7.setCell (Nat.le_refl _) _)
            clear hK K
            try simp only [Act.put, List.setIfInBounds_toArray, List.set_cons_zero, List.set_cons_succ]
            refine wpAnyH_done (by kernel_rfl) ?_ _
            have HW7 := Lib.hid (FiP.more HP.out HPL.out.symm (p := ⟨nm, er - q⟩) hown1 (wa := _) (by repeat (first | exact Below.refl _ _ | (with_reducible apply Below.drew) | (with_reducible apply Below.al) | (with_reducible apply below_drewN'))) hgrow)
            exact NoPanic.normal (HQ.out _ _ _ _ _ _ _ _ _ _ _ _ _ _ _ _ _ _ _ _ _ _ _ _ _ _ _ _ _ _ _ _ _ _ _ hqb HW7)
          exact AllReadyH.nil
        exact AllReadyH.nil
      exact AllReadyH.nil
    exact AllReadyH.nil
  exact AllReadyH.nil
end Go.Proofs.YthihpggjglghoaaGreatDoor

namespace Go.Proofs.YthihpggjglghoaaGreatDoor
open Go.ChangeShapes Go.WideShapes Go.ChangeAt Go.RowKit

/-- The number of the first region of a piece of code; a loop by the number of its first region. -/
def firstReg : Code → Option Nat
  | .region i _ _ => some i
  | .seq a b => match firstReg a with
    | some i => some i
    | none => firstReg b
  | .loop c => firstReg c
  | .block _ c => firstReg c
  | .scope c => firstReg c
  | .cond _ a b => match firstReg a with
    | some i => some i
    | none => firstReg b
  | _ => none
def loopAt (n : Nat) : Code → Option Code
  | .loop c => if firstReg c = some n then some (.loop c) else loopAt n c
  | .seq a b => match loopAt n a with
    | some c => some c
    | none => loopAt n b
  | .block _ c => loopAt n c
  | .scope c => loopAt n c
  | .cond _ a b => match loopAt n a with
    | some c => some c
    | none => loopAt n b
  | _ => none

theorem exit_of {Q : Exit → Act → World → Prop} {e : Exit} {a : Act} {w : World} {fr : (Nat → Value) → Act} (h : ∀ f, Q e (fr f) w) (hf : a = fr (fun i => a.tmps.getD i undef)) : Q e a w := by rw [hf]; exact h _

set_option maxRecDepth 100000 in
set_option maxHeartbeats 8000000 in
theorem more_l17 {Q : Exit → Act → World → Prop} {w WX wr : World} {pa ka ra ua A2 : Option Addr} {pc kc uc X KB SB g k vc : Nat} {va : Option Addr} {t : Tab} {l us S1 ml : List Int} {ps : List Pr} {xa xq xn Q1 Q2 : Int}
    {u0 u1 u2 u4 u6 u7 u8 u9 u10 u11 u12 u13 u14 u16 u18 u19 u20 u21 u22 u23 u24 u25 u26 u27 u28 u29 u30 u31 u32 u33 u34 u35 u36 u37 u38 u39 u40 u41 u42 u43 u44 u45 u46 u47 u48 u49 u50 u51 u52 u53 u54 u55 u56 u57 u58 u59 u60 u61 u62 u63 u64 u65 u66 u67 u68 u69 u70 u71 u72 u73 u74 u75 u76 u77 u78 u79 u80 u81 u82 u83 u84 u85 u86 u87 u88 u89 u90 u91 u92 u93 u94 u95 u96 u97 u98 u99 u100 u101 u102 u103 u104 u105 u106 u107 u108 u109 u110 u111 u112 u113 u114 u115 u116 u117 u118 u119 u120 u121 u122 u123 u124 u125 u126 u127 u128 u129 u130 u131 u132 u133 u134 u135 u136 u137 u138 u139 u140 u141 u142 u143 u144 u145 u146 u147 u148 u149 u150 u151 u152 u153 u154 u155 u156 u157 u158 u159 u160 u161 u162 u163 u164 u165 u166 u167 u168 u169 u170 u171 u172 u173 u174 u175 u176 u177 u178 u179 u180 u181 u182 u183 u184 u185 u186 u187 u188 u189 u190 u191 u192 u193 u194 u195 u196 u197 u198 u199 u200 u201 u202 u203 u204 u205 u206 u207 u208 u209 u210 u211 u212 u213 u214 u215 u216 u217 u218 u219 u220 u221 u222 u223 u224 u225 u226 u227 u228 u229 u230 u231 u232 u233 u234 u235 u236 u237 u238 u239 u240 u241 u242 u243 u244 u245 u246 u247 u248 u249 u250 u251 u252 u253 u254 u255 u256 u257 u258 u259 u260 u261 u262 u263 u264 : Value}
    (HU : Hid (U16In w ua us)) (HR : Hid (RdIn w pa ka ra pc kc t l)) (HS : Hid (SamIn w pa ka ra pc kc t l)) (hp5 : 1 ≤ t.ps.length ∧ t.ps.length ≤ 5) (hk8 : 1 ≤ t.ks.length ∧ t.ks.length ≤ 8)
    (HMX : Hid (∀ (W : World), Below X WX W → MoF w #[.slice pa t.ps.length pc, .slice ka t.ks.length kc, .int .i64 t.pu] #[.int .u8 xa, .int .u8 xq, .int .u32 xn, .slice ua us.length uc] A2 S1 SB Q1 Q2 g ml W))
    (HKI : Hid (FiK WX X t.pu (.slice va k vc) ps KB (.slice none 0 0) [] wr))
    (hQ : ∀ (f : Nat → Value) (ka2 : Option Addr) (kc2 : Nat) (ks : List Kd) (W : World), Hid (FiK WX X t.pu (.slice va k vc) ps KB (.slice ka2 t.ks.length kc2) ks W) → Hid (Each FinK t.ks ks) → ks.length = t.ks.length → Q (.exit 2) ⟨#[u0, u1, u2, .pointer (some ⟨w.heap.size, 0, none⟩), u4, .pointer (some ⟨w.heap.size + 1, 0, none⟩), u6, u7, u8, u9, u10, u11, u12, u13, u14, .pointer (some ⟨X, 0, none⟩), u16, .int .i64 t.ks.length, f 18, f 19, f 20, f 21, u22, u23, u24, u25, u26, u27, u28, u29, u30, u31, u32, u33, u34, u35, u36, u37, u38, u39, u40, u41, u42, u43, u44, u45, u46, u47, u48, u49, u50, u51, u52, u53, u54, u55, u56, u57, u58, u59, u60, u61, u62, u63, u64, u65, u66, u67, u68, u69, u70, u71, u72, u73, u74, u75, u76, u77, u78, u79, u80, u81, u82, u83, u84, u85, u86, u87, u88, u89, u90, u91, u92, u93, u94, u95, u96, u97, u98, u99, u100, u101, u102, u103, u104, u105, u106, u107, u108, u109, u110, u111, u112, u113, u114, u115, u116, u117, u118, u119, u120, u121, u122, u123, u124, u125, u126, u127, f 128, f 129, f 130, f 131, f 132, f 133, f 134, f 135, f 136, f 137, f 138, f 139, f 140, f 141, f 142, f 143, f 144, f 145, f 146, f 147, f 148, f 149, f 150, f 151, f 152, f 153, f 154, f 155, f 156, f 157, f 158, f 159, f 160, f 161, f 162, f 163, f 164, f 165, f 166, f 167, f 168, f 169, f 170, f 171, f 172, f 173, f 174, f 175, f 176, f 177, f 178, f 179, f 180, f 181, f 182, f 183, f 184, f 185, f 186, f 187, f 188, f 189, f 190, f 191, u192, u193, u194, u195, u196, u197, u198, u199, u200, u201, u202, u203, u204, u205, u206, u207, u208, u209, u210, u211, u212, u213, u214, u215, u216, u217, u218, u219, u220, u221, u222, u223, u224, u225, u226, u227, u228, u229, u230, u231, u232, u233, u234, u235, u236, u237, u238, u239, u240, u241, u242, u243, u244, u245, u246, u247, u248, u249, u250, u251, u252, u253, u254, u255, u256, u257, u258, u259, u260, u261, u262, u263, u264], []⟩ W) :
    Code.wp Tryz.prog ((Tryz.f4.body.bind (loopAt 18)).getD .skip) Q ⟨#[u0, u1, u2, .pointer (some ⟨w.heap.size, 0, none⟩), u4, .pointer (some ⟨w.heap.size + 1, 0, none⟩), u6, u7, u8, u9, u10, u11, u12, u13, u14, .pointer (some ⟨X, 0, none⟩), u16, .int .i64 0, u18, u19, u20, u21, u22, u23, u24, u25, u26, u27, u28, u29, u30, u31, u32, u33, u34, u35, u36, u37, u38, u39, u40, u41, u42, u43, u44, u45, u46, u47, u48, u49, u50, u51, u52, u53, u54, u55, u56, u57, u58, u59, u60, u61, u62, u63, u64, u65, u66, u67, u68, u69, u70, u71, u72, u73, u74, u75, u76, u77, u78, u79, u80, u81, u82, u83, u84, u85, u86, u87, u88, u89, u90, u91, u92, u93, u94, u95, u96, u97, u98, u99, u100, u101, u102, u103, u104, u105, u106, u107, u108, u109, u110, u111, u112, u113, u114, u115, u116, u117, u118, u119, u120, u121, u122, u123, u124, u125, u126, u127, u128, u129, u130, u131, u132, u133, u134, u135, u136, u137, u138, u139, u140, u141, u142, u143, u144, u145, u146, u147, u148, u149, u150, u151, u152, u153, u154, u155, u156, u157, u158, u159, u160, u161, u162, u163, u164, u165, u166, u167, u168, u169, u170, u171, u172, u173, u174, u175, u176, u177, u178, u179, u180, u181, u182, u183, u184, u185, u186, u187, u188, u189, u190, u191, u192, u193, u194, u195, u196, u197, u198, u199, u200, u201, u202, u203, u204, u205, u206, u207, u208, u209, u210, u211, u212, u213, u214, u215, u216, u217, u218, u219, u220, u221, u222, u223, u224, u225, u226, u227, u228, u229, u230, u231, u232, u233, u234, u235, u236, u237, u238, u239, u240, u241, u242, u243, u244, u245, u246, u247, u248, u249, u250, u251, u252, u253, u254, u255, u256, u257, u258, u259, u260, u261, u262, u263, u264], []⟩ wr := by
  conv => arg 2; whnf
  dsimp only
  have HQ := Lib.hid hQ
  clear hQ
  obtain ⟨i0, hi0, hz0, hz1, hz2⟩ := info_parts infoInt
  obtain ⟨j0, hj0, jz0, jz1, jz2⟩ := info_parts infoPr
  obtain ⟨s0, hs0, sz0, sz1, sz2⟩ := info_parts infoSp
  obtain ⟨k0, hk0, kz0, kz1, kz2⟩ := info_parts infoKd
  have hp := HR.out.tab.tab.lp
  have hk := HR.out.tab.tab.lk
  go_loopw [17] (fun i wz => ∃ m : Nat, m ≤ t.ks.length ∧ i = .int .i64 m ∧ (∃ v ks, Hid (FiK WX X t.pu (.slice va k vc) ps KB v ks wz) ∧ Hid (Each FinK t.ks ks) ∧ ks.length = m)) (fun i _ => t.ks.length - (intOf i).toNat)
  case atStart => exact ⟨0, by omega, rfl, _, [], HKI, Each.nil _ _, rfl⟩
  case round =>
    obtain ⟨m, hml, rfl, v, ks, HK, HEK, hksl⟩ := hrel
    obtain ⟨ka2, kc2, rfl⟩ := HK.out.shape
    rw [hksl] at HK
    have hF := HMX.out _ HK.out.b
    obtain ⟨t0, t1, t2, -, t5, -, t6⟩ := HK.out.ob.three
    obtain ⟨a0, a1, a2, -, -, -, hxl⟩ := hF.a.two.tb.three
    by_cases hlm : m < t.ks.length
    ·
      obtain ⟨⟨nm, ad, cp, rs⟩, hx⟩ : ∃ x, t.ks[m]? = some x := ⟨t.ks[m], List.getElem?_eq_getElem hlm⟩
      have hxm := List.mem_of_getElem? hx
      have hrl := HS.out.val.rl _ hxm
      have hrs := HS.out.val.rs _ hxm
      obtain ⟨kb, ko, rfl, hkB, cN, cS, -, -⟩ := kinds_at (HR.out.on hF.a.two.b).tab.tab.ks hx
      dsimp only at hrl hrs cN cS
      have HX := Lib.hid hx
      have HRL := Lib.hid hrl
      have HRS := Lib.hid hrs
      have HKL := Lib.hid hksl
      obtain ⟨WY, hWY⟩ : ∃ W, W = wr := ⟨_, rfl⟩
      subst hWY
      have HY0 := Lib.hid (FiY.new WY nm)
      have HFY := Lib.hid (fun (W : World) (hW : Below WY.heap.size WY W) => hF.on hW)
      have HXY := Lib.hid (show w.heap.size + 1 < WY.heap.size from hF.a.two.xb.lt)
      clear hx hxm hrl hrs hksl cS hF
      go_wp2_with fail
      generalize WY.alloc (.cells #[.string nm, .slice none 0 0] 51) = wb2 at *
      generalize WY.heap.size = Y at *
      clear a0 a1 a2 t0 t1 t2 t5 t6 cN
      go_loopw [19] (fun i wy => ∃ j : Nat, j ≤ t.ps.length ∧ i = .int .i64 j ∧ (∃ v qs, Hid (FiY WY Y nm v qs wy) ∧ Hid (Each FinR rs qs) ∧ qs.length = j)) (fun i _ => t.ps.length - (intOf i).toNat)
      case atStart => exact ⟨0, by omega, rfl, _, [], HY0, Each.nil _ _, rfl⟩
      case round =>
        obtain ⟨j, hjl, rfl, v, qs, HY, HER, hqsl⟩ := hrel
        obtain ⟨ya, yc, rfl⟩ := HY.out.shape
        rw [hqsl] at HY
        have hF := HFY.out _ HY.out.b
        obtain ⟨y0, y1, -, y3, y4⟩ := HY.out.ob.two
        obtain ⟨a0, a1, a2, -, -, -, -⟩ := hF.a.two.tb.three
        have x3 : wr.cell? ⟨w.heap.size + 1, 3, none⟩ = some (.slice ua us.length uc) := hF.a.two.xb.cell 3
        by_cases hlj : j < t.ps.length
        ·
          obtain ⟨⟨lo, hi⟩, hr⟩ : ∃ x, rs[j]? = some x := ⟨rs[j]'(by rw [HRL.out]; exact hlj), List.getElem?_eq_getElem _⟩
          have gr := HRS.out _ (List.mem_of_getElem? hr)
          obtain ⟨kb', ko', e, hkB2, cN, cS, hsp, -⟩ := kinds_at (HR.out.on hF.a.two.b).tab.tab.ks HX.out
          simp only [Option.some.injEq, Addr.mk.injEq, and_true] at e
          obtain ⟨rfl, rfl⟩ := e
          obtain ⟨sb, so, rfl, hsB, cL, cH⟩ := spans_at hsp hr
          dsimp only at gr cN cS cL cH
          have hjr : j < rs.length := by rw [HRL.out]; exact hlj
          have HR2 := Lib.hid hr
          have HUW := Lib.hid (fun (W : World) (hW : Below wr.heap.size wr W) => (HU.out.on hF.a.two.b).on hW)
          have k1 : IntKind.i64.wrap ((m : Int) + (j : Int)) = (m : Int) + (j : Int) := IntWalk.i64_in _ (by omega)
          have HQL := Lib.hid hqsl
          clear hr hsp hqsl hF
          obtain ⟨g1, g2, g3⟩ := gr
          have hAl := (Below.refl _ wr).alloc (Nat.le_refl _) (.cells #[.int .i64 lo, .int .i64 hi] 43)
          have HY2 := Lib.hid (HY.out.on hAl)
          have HKR := Lib.hid (show KR WY Y wr.heap.size (w.heap.size + 1) hi (.slice ua us.length uc) (wr.alloc (.cells #[.int .i64 lo, .int .i64 hi] 43)) from ⟨HY2.out.b, (Blk.new wr 43 #[.int .i64 lo, .int .i64 hi]).cell 1, kept_of hAl _ _ x3, y4, HXY.out, by simp⟩)
          have r0 : (wr.alloc (.cells #[.int .i64 lo, .int .i64 hi] 43)).cell? ⟨wr.heap.size, 0, none⟩ = some (.int .i64 lo) := (Blk.new wr 43 #[.int .i64 lo, .int .i64 hi]).cell 0
          have HU24 := Lib.hid (fun (W : World) (hW : Below (wr.alloc (.cells #[.int .i64 lo, .int .i64 hi] 43)).heap.size (wr.alloc (.cells #[.int .i64 lo, .int .i64 hi] 43)) W) => HUW.out W (hAl.trans (hW.mono hAl.size)))
          go_upto_region 25 with (fail)
          clear HUW hAl HY HKI HK y0 y1 y3 a0 a1 a2 x3 cN cS cL cH hxl hkB hkB2 hsB
          generalize wr.alloc (.cells #[.int .i64 lo, .int .i64 hi] 43) = W24 at *
          generalize wr.heap.size = R at *
          go_cut [21] from 142 to 185 (fun s21 wx => ∃ z1 : Int, s21 = .int .i64 z1 ∧ (lo ≤ z1 ∧ z1 ≤ hi) ∧ Below W24.heap.size W24 wx)
          case first =>
            have hH : HeldB W24 [(R, 0, .int .i64 lo), (R, 1, .int .i64 hi), (w.heap.size + 1, 3, (.slice ua us.length uc))] W24.drew :=
              HeldB.drew ⟨.cons HKR.out.lt r0 (.cons HKR.out.lt HKR.out.r1 (.cons (by have h1 := HKR.out.lt; have h2 := HKR.out.y; have h3 := HKR.out.hB; omega) HKR.out.x3 (.nil _))), Below.refl _ _⟩
            clear r0
            go_region_held3 (fun w' => w'.cell? ⟨R, 0, none⟩ = some (.int .i64 lo) ∧ w'.cell? ⟨R, 1, none⟩ = some (.int .i64 hi) ∧ w'.cell? ⟨w.heap.size + 1, 3, none⟩ = some (.slice ua us.length uc) ∧ HeldB W24 [(R, 0, .int .i64 lo), (R, 1, .int .i64 hi), (w.heap.size + 1, 3, (.slice ua us.length uc))] w')
              ((refine HeldB.all3 ?_; first | assumption | (go_split_ands; assumption) | (go_split_ands; refine HeldB.alloc ?_ _; assumption) | (go_split_ands; refine HeldB.on ?_ hbN; assumption)))
              (first
                | (go_at_call 14; go_split_ands; refine (turn_any _ (by omega) (HU24.out _ (HeldB.b (by assumption)))).mono ?_; rintro e w' ⟨⟨z, rfl, hz⟩, rfl⟩; obtain ⟨q, hq, hq2, hqw, hqb⟩ := div3 hz)
                | (go_at_call 15; go_split_ands; (with_reducible refine (among_some (lo := lo) (hi := hi) (by assumption) (by assumption) (by assumption) (by first | assumption | (constructor <;> assumption)) _).mono ?_); rintro e w' ⟨z1, rfl, hz1, hbN⟩)
                | fail)
            all_goals (go_wp2_with fail)
            all_goals go_meet
            all_goals refine ⟨_, rfl, by first | assumption | (constructor <;> assumption), ?_⟩
            all_goals first
              | exact HeldB.b (by assumption)
              | (go_split_ands; exact HeldB.b (by assumption))
              | exact HeldB.b (HeldB.on (by assumption) hbN)
              | (go_split_ands; exact HeldB.b (HeldB.on (by assumption) hbN))
          case rest =>
            obtain ⟨z1, rfl, hz1, hbx⟩ := hcut
            have HKR2 := Lib.hid (HKR.out.on hbx)
            have HY3 := Lib.hid (HY2.out.on hbx)
            have HUX := Lib.hid (fun (W : World) (hW : Below wc.heap.size wc W) => HU24.out W (hbx.trans (hW.mono hbx.size)))
            obtain ⟨-, y1, -, -, -⟩ := HY3.out.ob.two
            have g4 : 0 ≤ z1 := Int.le_trans g1 hz1.1
            have g5 : z1 ≤ hi := hz1.2
            have g6 : lo ≤ z1 := hz1.1
            obtain ⟨W25, hW25⟩ : ∃ W, W = wc := ⟨_, rfl⟩
            subst hW25
            clear hbx HKR HY2 HU24 r0 hz1 y1
            go_upto_region 26 with (fail)
            refine wp_of_eq (more_r26 HY3 HQL HKR2 HUX g4 g5 g3 (Nat.le_trans hjl hp5.2) (Nat.le_trans hml hk8.2) ?_) (by kernel_rfl)
            intro v167 v168 v169 v170 v171 v172 v173 v174 v175 v176 v177 v178 v179 v180 v181 v182 v183 v184 v185 gg cap z2 W2 hz2 HW7
            go_wp2_with fail
            go_roundw
            case rel => exact ⟨j + 1, Nat.succ_le_of_lt hlj, by go_num, _, qs ++ [(z1, z2)], HW7, Each.more HER.out (by rw [HQL.out]; exact HR2.out) ⟨g6, hz2.1, hz2.2⟩, by rw [List.length_append, HQL.out]; rfl⟩
            case measure => exact meas_one hlj
        · skip
          obtain rfl : j = t.ps.length := by omega
          have HQL := Lib.hid hqsl
          have hnl : qs.length = rs.length := by rw [HRL.out, hqsl]
          have HNL := Lib.hid hnl
          have HKY := Lib.hid (HK.out.on HY.out.bb)
          obtain ⟨t0, t1, t2, -, t5, -, t6⟩ := HKY.out.ob.three
          have aX : some X ≠ Value.ownBlock (.slice ka2 m kc2) := fun e => by have := (World.ownsRow.lt HKY.out.kr.row _ e.symm).1; have := HKY.out.le; omega
          have HKW := Lib.hid (fun (W : World) (hW : Below wr.heap.size wr W) => show W.ownsRow KB 51 2 (.slice ka2 m kc2) m (kdCells ks) by
            have h := (HKY.out.on hW).kr.row
            rwa [HKL.out] at h)
          have hkb : KB ≤ wr.heap.size := HKY.out.sz
          clear hnl hqsl hF x3
          go_wp2_with (first
            | (at_builtin; (refine wpList_append_lies _ rfl _ _ 23 rfl KB 51 k0 (.agg #[.string ⟨#[]⟩, .slice none 0 0]) 2 40 Tryz.underlying23 hk0 kz0 kz1 kz2 rfl (by decide) (.slice ka2 m kc2) m (kdCells ks) rfl (HKW.out _ ((Below.refl _ wr).alloc (Nat.le_refl _) _)) ⟨_, 0, none⟩ 1 1 [.string nm, .slice ya t.ps.length yc] rfl rfl ?d1 ?d2 (by decide) ?d3 ?d4 ?d5 _ rfl ?_))
            | go_in)
          case d1 => exact World.news_of_block (cs := #[.string nm, .slice ya t.ps.length yc]) (t := 51) (fr := (0, 0)) (new_two _ _ _ _ _ rfl)
          case d2 => intro u hu; simp at hu; rcases hu with rfl | rfl <;> rfl
          case d3 => unfold maxLen; omega
          case d4 => omega
          case d5 => simp; omega
          · intro gg cap w7 hown hgrow hat hglt
            have ck7 : w7.cell? ⟨X, 1, none⟩ = some (.slice ka2 m kc2) := (hgrow.cell_far ⟨X, 1, none⟩ (by simp; omega) aX).trans (kept_of ((Below.refl _ wr).alloc (Nat.le_refl _) _) _ _ t1)
            have fk7 : w7.frozen? ⟨X, 1, none⟩ = false := (hgrow.frozen_far ⟨X, 1, none⟩ (by simp; omega) aX).trans ((((Below.refl _ wr).alloc (Nat.le_refl _) _).frozen (p := ⟨X, 1, none⟩) t6).trans t5)
            have HW7 := Lib.hid (FiK.more (rs := qs) HK.out HKL.out.symm (by rw [HQL.out]; exact HY.out) (by rw [HQL.out]; exact hown) (by rw [HQL.out]; exact hgrow) hat)
            clear hown hgrow hat
            go_wp2_with fail
            go_roundw
            case rel => exact ⟨m + 1, Nat.succ_le_of_lt hlm, by go_num, _, ks ++ [⟨nm, ya, yc, qs⟩], HW7, Each.more (x := ⟨nm, ad, cp, rs⟩) HEK.out (by rw [HKL.out]; exact HX.out) ⟨rfl, HNL.out, HER.out⟩, by rw [List.length_append, HKL.out]; rfl⟩
            case measure => first | exact meas_one hlm | (simp [intOf]; omega)
    · obtain rfl : m = t.ks.length := Nat.le_antisymm hml (Nat.le_of_not_lt hlm)
      have HKE := Lib.hid hksl
      clear hF hksl
      go_wp2_with fail
      exact exit_of (fun f => HQ.out f _ _ _ _ HK HEK HKE.out) (by kernel_rfl)
end Go.Proofs.YthihpggjglghoaaGreatDoor
