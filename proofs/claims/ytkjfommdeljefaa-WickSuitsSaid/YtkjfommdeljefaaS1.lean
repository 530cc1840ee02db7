/- WickSizes: when a diameter is one of Sizes. -/
import Derived.Test.YtkjfommdeljefaaQP
import Derived.Test.YtkjfommdeljefaaQK
import Derived.Test.YtkjfommdeljefaaQU
import Derived.Test.YtkjfommdeljefaaQ9
namespace Go.Proofs.Ytkjfommdeljefaa
open Go.RowKit Go.Shelf Go.Maps
attribute [local go_sem] Oper.semAt_some


theorem splitAt_iff {h : Nat → Bool} (hm : ∀ i j, i ≤ j → h i = true → h j = true) {i : Nat} (hi : i < 2000) : splitAt h ≤ i ↔ h i = true := by
  unfold splitAt
  cases e : (List.range 2000).find? h with
  | none =>
    rw [List.find?_eq_none] at e
    have := e i (by simpa using hi)
    simp [this]; omega
  | some j =>
    rw [List.find?_range_eq_some] at e
    simp only [Option.getD_some]
    constructor
    · intro hj; exact hm j i hj e.1
    · intro hh
      rcases Nat.lt_or_ge i j with hl | hl
      · have := e.2.2 i hl; simp [hh] at this
      · exact hl
theorem canF_one {s : Sh} {k : Wk} {x : Wx} {c : Cd} (n d e : Int) (hn : n = 1 ∨ n = 2) : canF s n k x c d = canF s n k x c e := by
  rcases hn with rfl | rfl <;> simp [canF, isF]
def cdD (c : Cd) (d : Int) : Cd := ⟨c.wax, d, c.dra, c.clo, c.chi⟩
theorem canF_cd (s : Sh) (k : Wk) (x : Wx) (c : Cd) (n d e : Int) : canF s n k x (cdD c d) e = canF s n k x c e := rfl
theorem faults_nil (s : Sh) (k : Wk) (x : Wx) (c : Cd) : faultsL s k x c = [] ↔ canF s 1 k x c c.dia = false ∧ canF s 2 k x c c.dia = false ∧ canF s 3 k x c c.dia = false ∧ canF s 4 k x c c.dia = false := by
  unfold faultsL
  simp [List.filter_eq_nil_iff]
theorem sizes_law {s : Sh} {k : Wk} {x : Wx} {c : Cd} {d : Int} (hs : 0 ≤ s.plo ∧ 0 ≤ s.phi) (hd : 1 ≤ d ∧ d ≤ 2000) :
    faultsL s k x (cdD c d) = [] ↔ ¬ ((sizesV s k x c).2 < (sizesV s k x c).1) ∧ (sizesV s k x c).1 ≤ d ∧ d ≤ (sizesV s k x c).2 := by
  rw [faults_nil]
  simp only [canF_cd]
  show canF s 1 k x c d = false ∧ canF s 2 k x c d = false ∧ canF s 3 k x c d = false ∧ canF s 4 k x c d = false ↔ _
  obtain ⟨i, rfl⟩ : ∃ i : Nat, d = (i : Int) + 1 := ⟨(d - 1).toNat, by omega⟩
  have hi : i < 2000 := by omega
  have m4 := splitAt_iff (h := fun i : Nat => !canF s 4 k x c ((i : Int) + 1)) (fun a b hab ha => by
    simp only [Bool.not_eq_true'] at ha ⊢
    exact canF_runs hs.2 (by omega) ha) hi
  have m3 := splitAt_iff (h := fun i : Nat => canF s 3 k x c ((i : Int) + 1)) (fun a b hab ha => canF_tunnels hs.1 (by omega) ha) hi
  rw [canF_one 1 ((i : Int) + 1) c.dia (.inl rfl), canF_one 2 ((i : Int) + 1) c.dia (.inr rfl)]
  unfold sizesV
  cases h1 : canF s 1 k x c c.dia with
  | true => simp
  | false =>
    cases h2 : canF s 2 k x c c.dia with
    | true => simp
    | false =>
      simp only [Bool.or_false, Bool.false_eq_true, if_false, true_and]
      generalize splitAt (fun i : Nat => !canF s 4 k x c ((i : Int) + 1)) = a at *
      generalize splitAt (fun i : Nat => canF s 3 k x c ((i : Int) + 1)) = b at *
      cases h3 : canF s 3 k x c ((i : Int) + 1) <;> cases h4 : canF s 4 k x c ((i : Int) + 1) <;> simp only [h3, h4, Bool.not_true, Bool.not_false, Bool.false_eq_true, iff_false, iff_true, and_true, and_false, false_iff, true_iff, Bool.true_eq_false] at m3 m4 ⊢ <;> omega
end Go.Proofs.Ytkjfommdeljefaa
