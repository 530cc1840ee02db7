/- WickThinnest: which wick is the thinnest one. -/
import Derived.Test.YtkjfommdeljefaaQL
import Derived.Test.YtkjfommdeljefaaQK
import Derived.Test.YtkjfommdeljefaaQU
import Derived.Test.YtkjfommdeljefaaQ9
import Derived.Test.YtkjfommdeljefaaS2
namespace Go.Proofs.Ytkjfommdeljefaa
open Go.RowKit Go.Shelf Go.Maps
attribute [local go_sem] Oper.semAt_some


theorem suitN_mem {s : Sh} {x : Wx} {c : Cd} {i : Nat} : ∀ {n : Nat}, i ∈ suitN s x c n ↔ i < n ∧ okW s x c i = true
  | 0 => by simp [suitN]
  | n + 1 => by
    rw [suitN, List.mem_append, suitN_mem (n := n)]
    by_cases h : okW s x c n = true
    · rw [if_pos h]
      simp only [List.mem_singleton]
      constructor
      · rintro (h1 | rfl)
        · exact ⟨by omega, h1.2⟩
        · exact ⟨by omega, h⟩
      · intro h1
        by_cases e : i = n
        · exact .inr e
        · exact .inl ⟨by omega, h1.2⟩
    · rw [if_neg h]
      simp only [List.not_mem_nil, or_false]
      constructor
      · intro h1; exact ⟨by omega, h1.2⟩
      · intro h1
        refine ⟨?_, h1.2⟩
        rcases Nat.lt_or_ge i n with h2 | h2
        · exact h2
        · have : i = n := by omega
          subst this; exact absurd h1.2 h
theorem fold_thin (ks : List Wk) : ∀ (l : List Nat) (b : Int), (b = -1 ∨ 0 ≤ b) → (b = -1 ∧ l = [] ∧ l.foldl (thinS ks) b = -1) ∨ (0 ≤ l.foldl (thinS ks) b ∧ (l.foldl (thinS ks) b = b ∨ ∃ i ∈ l, l.foldl (thinS ks) b = (i : Int)) ∧ (0 ≤ b → thW ks (l.foldl (thinS ks) b).toNat ≤ thW ks b.toNat) ∧ ∀ i ∈ l, thW ks (l.foldl (thinS ks) b).toNat ≤ thW ks i)
  | [], b, h => by
    rcases h with rfl | h
    · exact .inl ⟨rfl, rfl, rfl⟩
    · exact .inr ⟨h, .inl rfl, fun _ => Int.le_refl _, fun i hi => by cases hi⟩
  | i :: l, b, h => by
    rw [List.foldl_cons]
    by_cases hc : b < 0 ∨ thW ks i < thW ks b.toNat
    · have e : thinS ks b i = (i : Int) := by unfold thinS; rw [if_pos hc]
      rw [e]
      rcases fold_thin ks l (i : Int) (.inr (by omega)) with ⟨h1, _⟩ | ⟨h1, h2, h3, h4⟩
      · omega
      · have h5 := h3 (by omega)
        rw [Int.toNat_natCast] at h5
        refine .inr ⟨h1, .inr ?_, fun hb => ?_, fun j hj => ?_⟩
        · rcases h2 with h2 | ⟨j, hj, h2⟩
          · exact ⟨i, by simp, h2⟩
          · exact ⟨j, by simp [hj], h2⟩
        · rcases hc with hc | hc
          · omega
          · omega
        · rcases List.mem_cons.1 hj with rfl | hj
          · exact h5
          · exact h4 j hj
    · have e : thinS ks b i = b := by unfold thinS; rw [if_neg hc]
      have hb : 0 ≤ b := by omega
      rw [e]
      rcases fold_thin ks l b (.inr hb) with ⟨h1, _⟩ | ⟨h1, h2, h3, h4⟩
      · omega
      · refine .inr ⟨h1, ?_, h3, fun j hj => ?_⟩
        · rcases h2 with h2 | ⟨j, hj, h2⟩
          · exact .inl h2
          · exact .inr ⟨j, by simp [hj], h2⟩
        · rcases List.mem_cons.1 hj with rfl | hj
          · have := h3 hb; omega
          · exact h4 j hj
theorem okW_nil {s : Sh} {x : Wx} {c : Cd} {i : Nat} {k : Wk} (h : s.ks[i]? = some k) : okW s x c i = true ↔ faultsL s k x c = [] := by
  unfold okW; rw [h]; simp
theorem thin_law (s : Sh) (x : Wx) (c : Cd) : (thinV s.ks (suitN s x c s.ks.length) = -1 ∧ ∀ i, i < s.ks.length → okW s x c i = false) ∨ ∃ j : Nat, j < s.ks.length ∧ thinV s.ks (suitN s x c s.ks.length) = (j : Int) ∧ okW s x c j = true ∧ ∀ i, i < s.ks.length → thW s.ks i < thW s.ks j → okW s x c i = false := by
  unfold thinV
  rcases fold_thin s.ks (suitN s x c s.ks.length) (-1) (.inl rfl) with ⟨_, h2, h3⟩ | ⟨h1, h2, _, h4⟩
  · refine .inl ⟨h3, fun i hi => ?_⟩
    cases ho : okW s x c i with
    | false => rfl
    | true => have := suitN_mem.2 ⟨hi, ho⟩; rw [h2] at this; cases this
  · rcases h2 with h2 | ⟨j, hj, h2⟩
    · omega
    · have hm := suitN_mem.1 hj
      refine .inr ⟨j, hm.1, h2, hm.2, fun i hi hl => ?_⟩
      cases ho : okW s x c i with
      | false => rfl
      | true =>
        have := h4 i (suitN_mem.2 ⟨hi, ho⟩)
        rw [h2, Int.toNat_natCast] at this
        omega
end Go.Proofs.Ytkjfommdeljefaa
