/- BlendCurves: mathematics. -/
import Derived.Test.YtalghiecjhfflaaZF
namespace Go.Proofs.Ytalghiecjhfflaa
open Go.RowKit Go.Shelf Go.Maps
attribute [local go_sem] Oper.semAt_some


theorem split_eq {h : Nat → Bool} {n k : Nat} (hk : k < n) (h1 : h k = true) (h2 : ∀ j, j < k → h j = false) : splitAt h n = k := by
  rcases Nat.lt_trichotomy (splitAt h n) k with h3 | h3 | h3
  · have := splitAt_hit (h := h) (n := n) (by omega)
    rw [h2 _ h3] at this; cases this
  · exact h3
  · have := splitAt_low h3
    rw [h1] at this; cases this
theorem split_all {h : Nat → Bool} {n : Nat} (h2 : ∀ j, j < n → h j = false) : splitAt h n = n := by
  rcases Nat.lt_or_ge (splitAt h n) n with h3 | h3
  · have := splitAt_hit h3
    rw [h2 _ h3] at this; cases this
  · exact Nat.le_antisymm (splitAt_le h n) h3
theorem pts_lt {cv : List Pt} (up : cv.Pairwise fun a b => a.p < b.p) {i j : Nat} {x y : Pt} (hij : i < j) (hx : cv[i]? = some x) (hy : cv[j]? = some y) : x.p < y.p := by
  obtain ⟨h1, rfl⟩ := List.getElem?_eq_some_iff.1 hx
  obtain ⟨h2, rfl⟩ := List.getElem?_eq_some_iff.1 hy
  exact List.pairwise_iff_getElem.1 up i j h1 h2 hij
theorem upQ_no {cv : List Pt} {n : Int} {j : Nat} (hj : j < cv.length) (h : ∀ q, cv[j]? = some q → q.p < n) : upQ cv n j = false := by
  have hq : cv[j]? = some cv[j] := List.getElem?_eq_getElem hj
  have := h _ hq
  rw [upQ_at hq]
  exact decide_eq_false (by omega)
/-- At a point, below the first, above the last, between two. -/
theorem addV_pt {cv : List Pt} (up : cv.Pairwise fun a b => a.p < b.p) {n : Int} {i : Nat} {q : Pt} (hq : cv[i]? = some q) (hn : n = q.p) : addV n cv = q.a := by
  have hi := (List.getElem?_eq_some_iff.1 hq).1
  have hs : splitAt (upQ cv n) cv.length = i := split_eq hi (by rw [upQ_at hq]; exact decide_eq_true (by omega)) (fun j hj => upQ_no (by omega) (fun r hr => by have := pts_lt up hj hr hq; omega))
  rcases i with _ | e
  · exact addV_first hq hs
  · obtain ⟨a, ha⟩ : ∃ a, cv[e]? = some a := ⟨cv[e], List.getElem?_eq_getElem (by omega)⟩
    have hlt := pts_lt up (by omega) ha hq
    rw [addV_mid ha hq hs, midV, hn]
    unfold flo
    rw [Int.mul_ediv_cancel _ (by omega)]
    omega
theorem addV_lo {cv : List Pt} {n : Int} {q : Pt} (hq : cv[0]? = some q) (hn : n < q.p) : addV n cv = q.a :=
  addV_first hq (split_eq (List.getElem?_eq_some_iff.1 hq).1 (by rw [upQ_at hq]; exact decide_eq_true (by omega)) (fun j hj => absurd hj (by omega)))
theorem addV_hi {cv : List Pt} (up : cv.Pairwise fun a b => a.p < b.p) {n : Int} {e : Nat} {q : Pt} (hq : cv[e]? = some q) (he : e + 1 = cv.length) (hn : q.p < n) : addV n cv = q.a :=
  addV_last hq (by
    rw [he]
    exact split_all (fun j hj => upQ_no hj (fun r hr => by
      rcases Nat.lt_or_ge j e with h | h
      · have := pts_lt up h hr hq; omega
      · obtain rfl : j = e := by omega
        rw [hq] at hr; cases hr; exact hn))) he
theorem addV_btw {cv : List Pt} (up : cv.Pairwise fun a b => a.p < b.p) {n : Int} {e : Nat} {a b : Pt} (ha : cv[e]? = some a) (hb : cv[e + 1]? = some b) (h1 : a.p < n) (h2 : n < b.p) : min a.a b.a ≤ addV n cv ∧ addV n cv ≤ max a.a b.a := by
  have hi := (List.getElem?_eq_some_iff.1 hb).1
  have hs : splitAt (upQ cv n) cv.length = e + 1 := split_eq hi (by rw [upQ_at hb]; exact decide_eq_true (by omega)) (fun j hj => upQ_no (by omega) (fun r hr => by
    rcases Nat.lt_or_ge j e with h | h
    · have := pts_lt up h hr ha; omega
    · obtain rfl : j = e := by omega
      rw [ha] at hr; cases hr; exact h1))
  rw [addV_mid ha hb hs, midV]
  unfold flo
  generalize hd : b.a - a.a = d
  obtain ⟨x, hx⟩ : ∃ x, n - a.p = x := ⟨_, rfl⟩
  obtain ⟨D, hD⟩ : ∃ D, b.p - a.p = D := ⟨_, rfl⟩
  rw [hx, hD]
  have x1 : 0 ≤ x := by omega
  have x2 : x ≤ D := by omega
  have D0 : 0 < D := by omega
  rcases Int.le_total 0 d with h | h
  · have e1 : 0 ≤ d * x := Int.mul_nonneg h x1
    have e2 : d * x ≤ d * D := Int.mul_le_mul_of_nonneg_left x2 h
    have f1 : 0 ≤ d * x / D := Int.ediv_nonneg e1 (by omega)
    have f2 : d * x / D ≤ d := by
      have := Int.ediv_le_ediv D0 e2
      rwa [Int.mul_ediv_cancel _ (by omega)] at this
    omega
  · have e2 : d * D ≤ d * x := Int.mul_le_mul_of_nonpos_left h x2
    have e1 : d * x ≤ 0 := Int.mul_nonpos_of_nonpos_of_nonneg h x1
    have f1 : d ≤ d * x / D := by
      have := Int.ediv_le_ediv D0 e2
      rwa [Int.mul_ediv_cancel _ (by omega)] at this
    have f2 : d * x / D ≤ 0 := by
      have := Int.ediv_le_ediv D0 e1
      simpa using this
    omega
end Go.Proofs.Ytalghiecjhfflaa
