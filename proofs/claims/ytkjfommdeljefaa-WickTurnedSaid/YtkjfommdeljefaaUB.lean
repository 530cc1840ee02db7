/- A region that draws its order and changes memory that was there. -/
import Derived.Test.YtkjfommdeljefaaQv
namespace Go.Proofs.Ytkjfommdeljefaa
open Go.RowKit Go.Shelf Go.Maps
attribute [local go_sem] Oper.semAt_some

/-- What holds of memory, by which of the late operations have been. -/
def sel1 (a : Bool) (M0 M1 : World → Prop) : World → Prop := if a then M1 else M0
def sel2 (a b : Bool) (M0 M1 M2 : World → Prop) : World → Prop := if b then M2 else if a then M1 else M0
def sel3 (a b c : Bool) (M0 M1 M2 M3 : World → Prop) : World → Prop := if c then M3 else if b then M2 else if a then M1 else M0
section
variable {P : Program} {ops : Array Oper} {Q : Exit → Act → World → Prop} {md : Region.Mode} {n : Nat}
theorem wpAny_spec2u (hn : ops.size = n) (fr : (Nat → Value) → Act) (u0 : Nat → Value) (B : (Nat → Bool) → World → Prop) (R : Nat → Value → World → Prop)
    (hd : ∀ i, i < n → ∀ j ∈ waits md ops i, j < i)
    (step : ∀ i, i < n → ∀ (L : Nat → Bool) (u : Nat → Value) (w : World), B L w → L i = false → (∀ j, j < n → L j = true → ∀ k ∈ waits md ops j, L k = true) → (∀ j ∈ waits md ops i, L j = true ∧ R j (u j) w) → (∀ j, j < n → L j = false → u j = u0 j) →
      wpOp P ops Q i (fun a' w' => ∃ v, a' = fr (u1 u i v) ∧ R i v w' ∧ B (setL L i) w' ∧ (∀ j v, j < n → L j = true → R j v w → R j v w')) (fr u) w)
    (done : ∀ L u w, (∀ j, j < n → L j = true) → B L w → (∀ j, j < n → R j (u j) w) → Q .normal (fr u) w) :
    ∀ (fuel : Nat) (listed : Array Bool) (u : Nat → Value) (w : World), listed.size = n → unl listed ≤ fuel → B (fun j => listed.getD j false) w → (∀ j, j < n → listed.getD j false = true → R j (u j) w) → (∀ j, j < n → listed.getD j false = true → ∀ k ∈ waits md ops j, listed.getD k false = true) → (∀ j, j < n → listed.getD j false = false → u j = u0 j) →
      wpAny P md ops Q fuel listed (fr u) w := by
  have hsame : ∀ (listed : Array Bool), listed.size = n → ∀ j, j < n → listed.getD j true = listed.getD j false := by
    intro listed hl j hj
    rw [Array.getD_eq_getD_getElem?, Array.getD_eq_getD_getElem?, Array.getElem?_eq_getElem (by omega)]; rfl
  have hnil : ∀ (listed : Array Bool), listed.size = n → Region.ready md ops listed = [] → ∀ j, j < n → listed.getD j false = true := by
    intro listed hl hr j
    induction j using Nat.strongRecOn with
    | _ j ih =>
      intro hj
      cases hb : listed.getD j false with
      | true => rfl
      | false =>
        have hmem : j ∈ Region.ready md ops listed := (ready_iff listed (by omega) j).2 ⟨by omega, by rw [hsame listed hl j hj, hb], fun k hk => ih k (hd j hj k hk) (by have := hd j hj k hk; omega)⟩
        rw [hr] at hmem; cases hmem
  intro fuel
  induction fuel with
  | zero =>
    intro listed u w hl hf hB hRl hC hU
    have hall : ∀ j, j < n → listed.getD j false = true := fun j hj => by rw [← hsame listed hl j hj]; exact unl_zero (by omega) (by omega)
    refine ⟨?_, done _ u w hall hB fun j hj => hRl j hj (hall j hj)⟩
    cases hr : Region.ready md ops listed with
    | nil => rfl
    | cons i rs =>
      have hmem : i ∈ Region.ready md ops listed := by rw [hr]; simp
      obtain ⟨h1, h2, -⟩ := (ready_iff listed (by omega) i).1 hmem
      rw [hsame listed hl i (by omega), hall i (by omega)] at h2; cases h2
  | succ fuel ih =>
    intro listed u w hl hf hB hRl hC hU
    refine ⟨fun hr => done _ u w (hnil listed hl hr) hB fun j hj => hRl j hj (hnil listed hl hr j hj), fun i hi => ?_⟩
    obtain ⟨h1, h2, h3⟩ := (ready_iff listed (by omega) i).1 hi
    have hin : i < n := by omega
    have h4 : listed.getD i false = false := by rw [← hsame listed hl i hin]; exact h2
    refine wpOp_mono ?_ (step i hin _ u w hB h4 hC (fun j hj => ⟨h3 j hj, hRl j (by have := hd i hin j hj; omega) (h3 j hj)⟩) hU)
    rintro a' w' ⟨v, rfl, hv, hB', hk⟩
    refine ih _ _ _ (by simpa using hl) (by have := unl_set (by omega) h2; omega) (by rw [getD_setL (by omega)]; exact hB') ?_ ?_ ?_
    · intro j hj hlj
      by_cases hji : j = i
      · subst hji; rw [u1_same]; exact hv
      · rw [u1_other _ _ hji]
        rw [getD_set, if_neg (by rintro ⟨h, -⟩; exact hji h)] at hlj
        exact hk j _ hj hlj (hRl j hj hlj)
    · intro j hj hlj k hk2
      have hk3 : listed.getD k false = true := by
        by_cases hji : j = i
        · subst hji; exact h3 k hk2
        · rw [getD_set, if_neg (by rintro ⟨h, -⟩; exact hji h)] at hlj
          exact hC j hj hlj k hk2
      rw [getD_set]
      split
      · rfl
      · exact hk3
    · intro j hj hlj
      by_cases hji : j = i
      · subst hji; rw [getD_set, if_pos ⟨rfl, by omega⟩] at hlj; cases hlj
      · rw [u1_other _ _ hji]
        rw [getD_set, if_neg (by rintro ⟨h, -⟩; exact hji h)] at hlj
        exact hU j hj hlj
theorem wp_region_spec2u {id : Nat} {a : Act} {w : World} (hm : P.follows .mixedOrders = true) (n : Nat) (hn : ops.size = n) (fr : (Nat → Value) → Act) (u0 : Nat → Value) (B : (Nat → Bool) → World → Prop) (R : Nat → Value → World → Prop)
    (ha : a = fr u0) (hB : B (fun _ => false) w.drew)
    (hd : ∀ i, i < n → ∀ j ∈ waits .any ops i, j < i)
    (step : ∀ i, i < n → ∀ (L : Nat → Bool) (u : Nat → Value) (w : World), B L w → L i = false → (∀ j, j < n → L j = true → ∀ k ∈ waits .any ops j, L k = true) → (∀ j ∈ waits .any ops i, L j = true ∧ R j (u j) w) → (∀ j, j < n → L j = false → u j = u0 j) →
      ∀ K : Act → World → Prop, (∀ v w', R i v w' → B (setL L i) w' → (∀ j v, j < n → L j = true → R j v w → R j v w') → K (fr (u1 u i v)) w') → wpOp P ops Q i K (fr u) w)
    (done : ∀ L u w, (∀ j, j < n → L j = true) → B L w → (∀ j, j < n → R j (u j) w) → Q .normal (fr u) w) : (Code.region id ops true).wp P Q a w := by
  subst ha
  refine wp_region_any hm ?_
  have h0 : (fun j => (Array.replicate ops.size false).getD j false) = fun _ => false := by
    funext j
    rw [Array.getD_eq_getD_getElem?, Array.getElem?_replicate]
    split <;> rfl
  refine wpAny_spec2u hn fr u0 B R hd (fun i hi L u w h1 h2 h3 h4 h8 => step i hi L u w h1 h2 h3 h4 h8 _ (fun v w' h5 h6 h7 => ⟨v, rfl, h5, h6, h7⟩)) done _ _ _ _ (by simpa using hn) ?_ (by rw [h0]; exact hB) ?_ ?_ (fun _ _ _ => rfl)
  · unfold unl
    exact Nat.le_trans List.countP_le_length (by simp)
  · intro j hj h
    rw [Array.getD_eq_getD_getElem?, Array.getElem?_replicate] at h
    split at h <;> simp at h
  · intro j hj h
    rw [Array.getD_eq_getD_getElem?, Array.getElem?_replicate] at h
    split at h <;> simp at h
end
end Go.Proofs.Ytkjfommdeljefaa
