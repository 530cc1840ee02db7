/- WickBounds: the mathematics. -/
import Derived.Test.YtkjfommdeljefaaT5
import Derived.Test.YtkjfommdeljefaaS6
namespace Go.Proofs.Ytkjfommdeljefaa
open Go.RowKit Go.Shelf Go.Maps
attribute [local go_sem] Oper.semAt_some


theorem isF_mono {s : Sh} {n : Int} {a b m : Bn} {d : Int} (h1 : a.flame ≤ b.flame ∧ b.flame ≤ m.flame) (h2 : a.pool ≤ b.pool ∧ b.pool ≤ m.pool) (h : isF s n b d = true) : (isF s n a d || isF s n m d) = true := by
  unfold isF at *
  rw [Bool.or_eq_true]
  split at h
  · rename_i e; rw [if_pos e, if_pos e]; simp only [decide_eq_true_eq] at *; right; omega
  · rename_i e
    rw [if_neg e, if_neg e]
    split at h
    · rename_i e2; rw [if_pos e2, if_pos e2]; simp only [decide_eq_true_eq] at *; left; omega
    · rename_i e2
      rw [if_neg e2, if_neg e2]
      split at h
      · rename_i e3; rw [if_pos e3, if_pos e3]; simp only [decide_eq_true_eq] at *; left; exact Int.lt_of_le_of_lt h2.1 h
      · rename_i e3; rw [if_neg e3, if_neg e3]; simp only [decide_eq_true_eq] at *; right; exact Int.lt_of_lt_of_le h h2.2
theorem faults_mem {s : Sh} {k : Wk} {x : Wx} {c : Cd} {n : Int} : n ∈ faultsL s k x c ↔ n ∈ wrongL s (burn x (weakT k x c)) c.dia ∨ n ∈ wrongL s (burn x (strongT k x c)) c.dia := by
  unfold faultsL wrongL
  simp only [List.mem_filter, canF, Bool.or_eq_true]
  constructor
  · rintro ⟨h, h1 | h1⟩
    · exact .inl ⟨h, h1⟩
    · exact .inr ⟨h, h1⟩
  · rintro (⟨h, h1⟩ | ⟨h, h1⟩)
    · exact ⟨h, .inl h1⟩
    · exact ⟨h, .inr h1⟩
theorem faults_sub {s : Sh} {k : Wk} {x : Wx} {c : Cd} {t : Tu} {n : Int} (ko : WkOk k) (xo : WxOk x) (cd : CdOk s c) (ht : TuOk k x c t) (h : n ∈ wrongL s (burn x t) c.dia) : n ∈ faultsL s k x c := by
  have h1 := burn_weak ko xo cd ht
  have h2 := burn_strong ko xo cd ht
  unfold wrongL at h
  rw [List.mem_filter] at h
  unfold faultsL
  rw [List.mem_filter]
  exact ⟨h.1, isF_mono ⟨h1.2.1, h2.2.1⟩ ⟨h1.2.2, h2.2.2⟩ h.2⟩
theorem faults_sorted (s : Sh) (k : Wk) (x : Wx) (c : Cd) {i : Nat} {a b : Int} (ha : (faultsL s k x c)[i]? = some a) (hb : (faultsL s k x c)[i + 1]? = some b) : a < b := by
  have hp : (faultsL s k x c).Pairwise (· < ·) := List.Pairwise.filter _ (show ([1, 2, 3, 4] : List Int).Pairwise (· < ·) by decide)
  obtain ⟨l1, e1⟩ := List.getElem?_eq_some_iff.1 ha
  obtain ⟨l2, e2⟩ := List.getElem?_eq_some_iff.1 hb
  have := List.pairwise_iff_getElem.1 hp i (i + 1) l1 l2 (by omega)
  rw [e1, e2] at this; exact this
theorem has_suit {s : Sh} {k : Wk} {x : Wx} {c : Cd} {q : Int} (ha : Ask s q c k x) : decide (q ∈ (suitN s x c s.ks.length).map Int.ofNat) = (((faultsL s k x c).length : Int) == 0) := by
  have h0 := ha.h0
  have hlt := (List.getElem?_eq_some_iff.1 ha.hk).1
  rw [Bool.eq_iff_iff, decide_eq_true_eq, beq_iff_eq, List.mem_map]
  constructor
  · rintro ⟨i, hi, e⟩
    obtain rfl : i = q.toNat := by rw [← e]; exact (Int.toNat_natCast i).symm
    rw [(okW_nil ha.hk).1 (suitN_mem.1 hi).2]; rfl
  · intro h
    refine ⟨q.toNat, suitN_mem.2 ⟨hlt, (okW_nil ha.hk).2 (List.eq_nil_of_length_eq_zero (by omega))⟩, ?_⟩
    show ((q.toNat : Nat) : Int) = q
    omega
end Go.Proofs.Ytkjfommdeljefaa
