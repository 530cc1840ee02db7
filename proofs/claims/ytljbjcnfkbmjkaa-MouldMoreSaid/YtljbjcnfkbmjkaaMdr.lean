/- A region that draws its order, by what each operation leaves in its slot, whatever came before: one walk of each operation. -/
import Derived.Test.YtljbjcnfkbmjkaaGb
namespace Go.Proofs.Ytljbjcnfkbmjkaa
open Go.RowKit Go.Shelf

/-- The operations that an operation waits for. -/
def waits (md : Region.Mode) (ops : Array Oper) (i : Nat) : List Nat := match ops[i]? with
  | some o => (o.after.toList.filter (Region.binds md)).map (·.on)
  | none => []
def u1 (u : Nat → Value) (i : Nat) (v : Value) : Nat → Value := fun j => if j = i then v else u j
theorem u1_same (u : Nat → Value) (i : Nat) (v : Value) : u1 u i v i = v := by simp [u1]
theorem u1_other (u : Nat → Value) {i j : Nat} (v : Value) (h : j ≠ i) : u1 u i v j = u j := by simp [u1, h]

section
variable {P : Program} {ops : Array Oper} {Q : Exit → Act → World → Prop} {md : Region.Mode} {n : Nat}
theorem ready_iff (listed : Array Bool) (_hl : listed.size = ops.size) (i : Nat) :
    i ∈ Region.ready md ops listed ↔ (i < ops.size ∧ listed.getD i true = false ∧ ∀ j ∈ waits md ops i, listed.getD j false = true) := by
  unfold Region.ready
  rw [List.mem_filter, List.mem_range]
  by_cases hi : i < ops.size
  · have ho : ops[i]? = some ops[i] := Array.getElem?_eq_getElem hi
    simp only [hi, true_and, ho, Option.map_some, Option.getD_some, Bool.and_eq_true, Bool.not_eq_true', waits, List.mem_map, List.mem_filter, Array.all_eq_true]
    refine and_congr_right fun _ => ?_
    constructor
    · rintro h j ⟨e, ⟨he, hb⟩, rfl⟩
      obtain ⟨k, hk, rfl⟩ := List.mem_iff_getElem.1 he
      have := h k (by simpa using hk)
      simp only [Bool.or_eq_true, Bool.not_eq_true'] at this
      rcases this with h2 | h2
      · rw [show (ops[i].after.toList[k]) = ops[i].after[k]'(by simpa using hk) by simp, h2] at hb; cases hb
      · simpa using h2
    · intro h k hk
      simp only [Bool.or_eq_true, Bool.not_eq_true']
      cases hb : Region.binds md ops[i].after[k] with
      | false => exact .inl rfl
      | true => exact .inr (h _ ⟨ops[i].after[k], ⟨by simp, hb⟩, rfl⟩)
  · simp [hi]
/-- How many have not come up. -/
def unl (listed : Array Bool) : Nat := listed.toList.countP (fun b => !b)
theorem unl_set {listed : Array Bool} {i : Nat} (hi : i < listed.size) (h : listed.getD i true = false) : unl (listed.setIfInBounds i true) + 1 = unl listed := by
  have h2 : listed[i] = false := by
    rw [Array.getD_eq_getD_getElem?, Array.getElem?_eq_getElem hi] at h; simpa using h
  unfold unl
  rw [Array.toList_setIfInBounds, List.countP_set (by simpa using hi)]
  have h3 : 0 < listed.toList.countP (fun b => !b) := List.countP_pos_iff.2 ⟨listed[i], by simp, by simp [h2]⟩
  simp only [Array.getElem_toList, h2, Bool.not_false, if_true, Bool.not_true, Bool.false_eq_true, if_false]
  omega
theorem unl_zero {listed : Array Bool} (h : unl listed = 0) {i : Nat} (hi : i < listed.size) : listed.getD i true = true := by
  unfold unl at h
  rw [List.countP_eq_zero] at h
  have := h listed[i] (by simp)
  rw [Array.getD_eq_getD_getElem?, Array.getElem?_eq_getElem hi]
  simpa using this
theorem getD_set {listed : Array Bool} {i j : Nat} (d : Bool) : (listed.setIfInBounds i true).getD j d = if j = i ∧ i < listed.size then true else listed.getD j d := by
  rw [Array.getD_eq_getD_getElem?, Array.getD_eq_getD_getElem?, Array.getElem?_setIfInBounds]
  by_cases h : i = j
  · subst h
    by_cases h2 : i < listed.size
    · simp [h2]
    · simp [h2]
  · rw [if_neg h, if_neg (by rintro ⟨h2, -⟩; exact h h2.symm)]

theorem wpAny_spec (hn : ops.size = n) (fr : (Nat → Value) → Act) (u0 : Nat → Value) (B : World → Prop) (R : Nat → Value → World → Prop)
    (hR : ∀ i v w w', i < n → R i v w → Below w.heap.size w w' → R i v w')
    (hd : ∀ i, i < n → ∀ j ∈ waits md ops i, j < i)
    (step : ∀ i, i < n → ∀ u w, B w → u i = u0 i → (∀ j ∈ waits md ops i, R j (u j) w) → (∀ j, j < n → i ∈ waits md ops j → u j = u0 j) →
      wpOp P ops Q i (fun a' w' => ∃ v, a' = fr (u1 u i v) ∧ R i v w' ∧ B w' ∧ Below w.heap.size w w') (fr u) w)
    (done : ∀ u w, B w → (∀ j, j < n → R j (u j) w) → Q .normal (fr u) w) :
    ∀ (fuel : Nat) (listed : Array Bool) (u : Nat → Value) (w : World), listed.size = n → unl listed ≤ fuel → B w → (∀ j, j < n → listed.getD j false = true → R j (u j) w) → (∀ j, j < n → listed.getD j false = false → u j = u0 j) → (∀ j, j < n → listed.getD j false = true → ∀ k ∈ waits md ops j, listed.getD k false = true) →
      wpAny P md ops Q fuel listed (fr u) w := by
  have hsame : ∀ (listed : Array Bool), listed.size = n → ∀ j, j < n → listed.getD j true = listed.getD j false := by
    intro listed hl j hj
    rw [Array.getD_eq_getD_getElem?, Array.getD_eq_getD_getElem?, Array.getElem?_eq_getElem (by omega)]; rfl
  have hnil : ∀ (listed : Array Bool), listed.size = n → Region.ready md ops listed = [] → ∀ j, j < n → listed.getD j false = true := by
    intro listed hl hr j
    induction j using Nat.strongRecOn with
    | _ j ih =>
      intro hj
      cases hb : listed.getD j false with
      | true => rfl
      | false =>
        have hmem : j ∈ Region.ready md ops listed := (ready_iff listed (by omega) j).2 ⟨by omega, by rw [hsame listed hl j hj, hb], fun k hk => ih k (hd j hj k hk) (by have := hd j hj k hk; omega)⟩
        rw [hr] at hmem; cases hmem
  intro fuel
  induction fuel with
  | zero =>
    intro listed u w hl hf hB hRl hU hC
    have hall : ∀ j, j < n → listed.getD j false = true := fun j hj => by rw [← hsame listed hl j hj]; exact unl_zero (by omega) (by omega)
    refine ⟨?_, done u w hB fun j hj => hRl j hj (hall j hj)⟩
    cases hr : Region.ready md ops listed with
    | nil => rfl
    | cons i rs =>
      have hmem : i ∈ Region.ready md ops listed := by rw [hr]; simp
      obtain ⟨h1, h2, -⟩ := (ready_iff listed (by omega) i).1 hmem
      rw [hsame listed hl i (by omega), hall i (by omega)] at h2; cases h2
  | succ fuel ih =>
    intro listed u w hl hf hB hRl hU hC
    refine ⟨fun hr => done u w hB fun j hj => hRl j hj (hnil listed hl hr j hj), fun i hi => ?_⟩
    obtain ⟨h1, h2, h3⟩ := (ready_iff listed (by omega) i).1 hi
    have hin : i < n := by omega
    have h4 : listed.getD i false = false := by rw [← hsame listed hl i hin]; exact h2
    refine wpOp_mono ?_ (step i hin u w hB (hU i hin h4) (fun j hj => hRl j (by have := hd i hin j hj; omega) (h3 j hj)) ?_)
    · rintro a' w' ⟨v, rfl, hv, hB', hb⟩
      refine ih _ _ _ (by simpa using hl) (by have := unl_set (by omega) h2; omega) hB' ?_ ?_ ?_
      · intro j hj hlj
        by_cases hji : j = i
        · subst hji; rw [u1_same]; exact hv
        · rw [u1_other _ _ hji]
          rw [getD_set, if_neg (by rintro ⟨h, -⟩; exact hji h)] at hlj
          exact hR j _ _ _ hj (hRl j hj hlj) hb
      · intro j hj hlj
        have hji : j ≠ i := by
          rintro rfl
          rw [getD_set, if_pos ⟨rfl, by omega⟩] at hlj; cases hlj
        rw [u1_other _ _ hji]
        rw [getD_set, if_neg (by rintro ⟨h, -⟩; exact hji h)] at hlj
        exact hU j hj hlj
      · intro j hj hlj k hk
        have hk2 : listed.getD k false = true := by
          by_cases hji : j = i
          · subst hji; exact h3 k hk
          · rw [getD_set, if_neg (by rintro ⟨h, -⟩; exact hji h)] at hlj
            exact hC j hj hlj k hk
        rw [getD_set]
        split
        · rfl
        · exact hk2
    · intro j hj hw
      refine hU j hj ?_
      cases hb : listed.getD j false with
      | false => rfl
      | true =>
        have := hC j hj hb i hw
        rw [h4] at this; cases this
theorem wp_region_spec {id : Nat} {a : Act} {w : World} (hm : P.follows .mixedOrders = true) (n : Nat) (hn : ops.size = n) (fr : (Nat → Value) → Act) (u0 : Nat → Value) (B : World → Prop) (R : Nat → Value → World → Prop)
    (ha : a = fr u0) (hB : B w.drew)
    (hR : ∀ i v w w', i < n → R i v w → Below w.heap.size w w' → R i v w')
    (hd : ∀ i, i < n → ∀ j ∈ waits .any ops i, j < i)
    (step : ∀ i, i < n → ∀ u w, B w → u i = u0 i → (∀ j ∈ waits .any ops i, R j (u j) w) → (∀ j, j < n → i ∈ waits .any ops j → u j = u0 j) →
      ∀ K : Act → World → Prop, (∀ v w', R i v w' → B w' → Below w.heap.size w w' → K (fr (u1 u i v)) w') → wpOp P ops Q i K (fr u) w)
    (done : ∀ u w, B w → (∀ j, j < n → R j (u j) w) → Q .normal (fr u) w) : (Code.region id ops true).wp P Q a w := by
  subst ha
  refine wp_region_any hm ?_
  refine wpAny_spec hn fr u0 B R hR hd (fun i hi u w h1 h2 h3 h4 => step i hi u w h1 h2 h3 h4 _ (fun v w' h5 h6 h7 => ⟨v, rfl, h5, h6, h7⟩)) done _ _ _ _ (by simpa using hn) ?_ hB ?_ ?_ ?_
  · unfold unl
    exact Nat.le_trans List.countP_le_length (by simp)
  · intro j hj h
    rw [Array.getD_eq_getD_getElem?, Array.getElem?_replicate] at h
    split at h <;> simp at h
  · intro j _ _; rfl
  · intro j hj h
    rw [Array.getD_eq_getD_getElem?, Array.getElem?_replicate] at h
    split at h <;> simp at h
theorem u1_eq {u : Nat → Value} {i : Nat} {v : Value} (h : u i = v) : u1 u i v = u := by
  funext j
  unfold u1
  split
  · rename_i hj; rw [hj, h]
  · rfl
theorem all_zero {S : Nat → Prop} : ∀ i, i < 0 → S i := fun _ h => absurd h (by omega)
theorem all_succ {S : Nat → Prop} {n : Nat} (h : ∀ i, i < n → S i) (hn : S n) : ∀ i, i < n + 1 → S i := fun i hi => by
  by_cases h1 : i = n
  · subst h1; exact hn
  · exact h i (by omega)
theorem k_of {K : Act → World → Prop} {a a' : Act} {w : World} (h : K a w) (e : a = a') : K a' w := e ▸ h
theorem wpOp_of {i : Nat} {o : Oper} {K : Act → World → Prop} {a : Act} {w : World} (ho : ops[i]? = some o) (hg : Region.wanted o (yielded ops a.tmps) = true) (h : o.wp P a w K Q) : wpOp P ops Q i K a w := by
  unfold wpOp
  rw [ho]
  simp only [hg, if_true]
  exact .inl h
end
end Go.Proofs.Ytljbjcnfkbmjkaa
