/- What a fold of bounds leaves: just the parts that keep all of them; what a mixture explains. -/
import Derived.Test.YtnpajncolkafgaaGreatDoorParts
namespace Go.Proofs.YtnpajncolkafgaaGreatDoor

theorem applyB_mem (f l : Int) (p : Int × Int) (n : Int) : ((applyB f l p).1 ≤ n ∧ n ≤ (applyB f l p).2) ↔ ((p.1 ≤ n ∧ n ≤ p.2) ∧ f * n ≤ l) := by
  unfold applyB
  by_cases h : 0 < f
  · rw [if_pos h]
    have := Int.le_ediv_iff_mul_le (a := n) (b := l) h
    rw [Int.mul_comm] at this
    simp only
    omega
  · rw [if_neg h]
    by_cases h2 : f < 0
    · rw [if_pos h2]
      have := Int.le_ediv_iff_mul_le (a := -n) (b := l) (show 0 < -f by omega)
      rw [Int.neg_mul_neg, Int.mul_comm] at this
      simp only
      omega
    · rw [if_neg h2]
      have hf : f = 0 := by omega
      subst hf
      rw [Int.zero_mul]
      by_cases h3 : l < 0
      · rw [if_pos h3]; simp only; omega
      · rw [if_neg h3]; omega
theorem tightL_mem (bs : List (Int × Int)) : ∀ (p : Int × Int) (n : Int), ((tightL bs p).1 ≤ n ∧ n ≤ (tightL bs p).2) ↔ ((p.1 ≤ n ∧ n ≤ p.2) ∧ ∀ b ∈ bs, b.1 * n ≤ b.2) := by
  induction bs with
  | nil => intro p n; simp [tightL]
  | cons b bs ih =>
    intro p n
    have h : tightL (b :: bs) p = tightL bs (applyB b.1 b.2 p) := rfl
    rw [h, ih, applyB_mem]
    simp only [List.forall_mem_cons, and_assoc]

/-- Whether a mixture with n parts of a explains reading i. -/
def explAt (ps : List Pr) (xa xb : List (Int × Int)) (l : List Int) (n : Int) (i : Nat) : Bool :=
  match l[i]?, xa[i]?, xb[i]?, ps[i]? with
  | some r, some x, some y, some p => decide (r = -1 ∨ (n * x.1 + (1000 - n) * y.1 ≤ 1000 * (r + p.er) ∧ 1000 * (r - p.er) ≤ n * x.2 + (1000 - n) * y.2))
  | _, _, _, _ => true
def explB (t : Tab) (l : List Int) (a b : Nat) (n : Int) : Bool := (List.range l.length).all (explAt t.ps ((t.ks[a]?.map Kd.rs).getD []) ((t.ks[b]?.map Kd.rs).getD []) l n)
theorem explAt_iff (ps : List Pr) (xa xb : List (Int × Int)) (l : List Int) (n : Int) (i : Nat) : explAt ps xa xb l n i = true ↔ ∀ b ∈ boundsAt ps xa xb l i, b.1 * n ≤ b.2 := by
  unfold explAt boundsAt
  cases l[i]? with
  | none => simp
  | some r =>
    cases xa[i]? with
    | none => simp
    | some x =>
      cases xb[i]? with
      | none => simp
      | some y =>
        cases ps[i]? with
        | none => simp
        | some p =>
          simp only
          by_cases h : r = -1
          · rw [if_pos h]; simp [h]
          · rw [if_neg h]
            simp only [bound2, List.forall_mem_cons, decide_eq_true_eq, h, false_or]
            have e1 : (x.1 - y.1) * n = n * x.1 - n * y.1 := by rw [Int.mul_comm, Int.mul_sub]
            have e2 : (y.2 - x.2) * n = n * y.2 - n * x.2 := by rw [Int.mul_comm, Int.mul_sub]
            have e3 : (1000 - n) * y.1 = 1000 * y.1 - n * y.1 := by rw [Int.sub_mul]
            have e4 : (1000 - n) * y.2 = 1000 * y.2 - n * y.2 := by rw [Int.sub_mul]
            rw [e1, e2, e3, e4]
            constructor
            · rintro ⟨h1, h2⟩
              exact ⟨by omega, by omega, by simp⟩
            · rintro ⟨h1, h2, _⟩
              exact ⟨by omega, by omega⟩
theorem explB_iff (t : Tab) (l : List Int) (a b : Nat) (n : Int) : explB t l a b n = true ↔ ∀ x ∈ bnds t l a b, x.1 * n ≤ x.2 := by
  unfold explB bnds boundsK
  rw [List.all_eq_true]
  constructor
  · intro h x hx
    rw [List.mem_flatMap] at hx
    obtain ⟨i, hi, hx⟩ := hx
    exact (explAt_iff _ _ _ _ _ _).1 (h i hi) x hx
  · intro h i hi
    exact (explAt_iff _ _ _ _ _ _).2 fun x hx => h x (List.mem_flatMap.2 ⟨i, hi, hx⟩)
/-- What is left of a range of parts are those that explain the readings. -/
theorem tight_expl (t : Tab) (l : List Int) (a b : Nat) (p : Int × Int) (n : Int) : ((tightL (bnds t l a b) p).1 ≤ n ∧ n ≤ (tightL (bnds t l a b) p).2) ↔ ((p.1 ≤ n ∧ n ≤ p.2) ∧ explB t l a b n = true) := by
  rw [tightL_mem, explB_iff]
end Go.Proofs.YtnpajncolkafgaaGreatDoor
