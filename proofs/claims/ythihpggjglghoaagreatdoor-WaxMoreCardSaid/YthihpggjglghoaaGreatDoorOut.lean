/- What a call made, read as what comes in. -/
import Derived.Test.YthihpggjglghoaaGreatDoorRtl
namespace Go.Proofs.YthihpggjglghoaaGreatDoor
open Go.RowKit Go.Shelf

theorem own_rowAt {α : Type} {e : TypeId} {sz B n c : Nat} {enc : α → Nat → Value} {w : World} {A : Option Addr} {l : List α} {xs : List Value} (h : w.ownsRow B e sz (.slice A n c) l.length xs)
    (hx : ∀ i x, l[i]? = some x → ∀ j, j < sz → xs[i * sz + j]? = some (enc x j)) : n = l.length ∧ RowAt sz enc w w.heap.size A l ∧ l.length ≤ c ∧ l.length ≤ maxLen := by
  rcases h.2 with ⟨hv, h0⟩ | ⟨g, cap, cur, hv, hg, hh, hle, hcap, hsz, hxs⟩
  · cases hv
    exact ⟨h0.symm, fun hl => by omega, by omega, by omega⟩
  · cases hv
    have hlt : g < w.heap.size := by
      rcases Nat.lt_or_ge g w.heap.size with h' | h'
      · exact h'
      · rw [Array.getElem?_eq_none h'] at hh; cases hh
    refine ⟨rfl, fun hl => ⟨g, 0, rfl, hlt, fun i x hi j hj => ?_⟩, hle, by omega⟩
    have h1 := hx i x hi j hj
    rw [← hxs, List.getElem?_take] at h1
    split at h1
    · rw [Array.getElem?_toList] at h1
      simp [World.cell?, hh, h1]
    · cases h1
theorem flat_two {α : Type} (f g : α → Value) : ∀ (l : List α) (i : Nat) (x : α), l[i]? = some x → (l.flatMap fun x => [f x, g x])[i * 2]? = some (f x) ∧ (l.flatMap fun x => [f x, g x])[i * 2 + 1]? = some (g x)
  | [], i, x, h => by simp at h
  | y :: l, 0, x, h => by simp at h; subst h; simp
  | y :: l, i + 1, x, h => by
    have := flat_two f g l i x (by simpa using h)
    simp only [List.flatMap_cons, List.cons_append, List.nil_append]
    rw [show (i + 1) * 2 = i * 2 + 1 + 1 by omega, show i * 2 + 1 + 1 + 1 = (i * 2 + 1) + 1 + 1 by omega]
    simpa using this
theorem pair_cells {α : Type} {enc : α → Nat → Value} {l : List α} {f g : α → Value} (h0 : ∀ x, enc x 0 = f x) (h1 : ∀ x, enc x 1 = g x) : ∀ i x, l[i]? = some x → ∀ j, j < 2 → (l.flatMap fun x => [f x, g x])[i * 2 + j]? = some (enc x j) := by
  intro i x hi j hj
  obtain ⟨a, b⟩ := flat_two f g l i x hi
  match j, hj with
  | 0, _ => rw [h0]; exact a
  | 1, _ => rw [h1]; exact b
theorem PropsOut.reads {B n c : Nat} {w : World} {A : Option Addr} {l : List Pr} (h : PropsOut B w (.slice A n c) l) : n = l.length ∧ PropsAt w w.heap.size A l ∧ l.length ≤ c ∧ l.length ≤ maxLen :=
  own_rowAt (enc := encP) h (pair_cells (fun _ => rfl) (fun _ => rfl))
theorem SpansOut.reads {B n c : Nat} {w : World} {A : Option Addr} {l : List (Int × Int)} (h : SpansOut B w (.slice A n c) l) : n = l.length ∧ SpansAt w w.heap.size A l ∧ l.length ≤ c ∧ l.length ≤ maxLen :=
  own_rowAt (enc := encS) h (pair_cells (fun _ => rfl) (fun _ => rfl))
theorem IntsOut.reads {B n c : Nat} {w : World} {A : Option Addr} {l : List Int} (h : IntsOut B w (.slice A n c) l) : n = l.length ∧ IntsAt w w.heap.size A l ∧ l.length ≤ c ∧ l.length ≤ maxLen :=
  own_rowAt (enc := encI) h (fun i x hi j hj => by
    obtain rfl : j = 0 := by omega
    rw [Nat.mul_one, Nat.add_zero, List.getElem?_map, hi]; rfl)
theorem KindsOut.reads {B n c : Nat} {w : World} {A : Option Addr} {l : List Kd} (h : KindsOut B w (.slice A n c) l) : n = l.length ∧ KindsAt w w.heap.size A l ∧ l.length ≤ c ∧ l.length ≤ maxLen := by
  obtain ⟨h1, h2, h3, h4⟩ := own_rowAt (enc := encK) h.row (pair_cells (fun _ => rfl) (fun _ => rfl))
  refine ⟨h1, ⟨h2, fun k hk => ?_⟩, h3, h4⟩
  obtain ⟨_, k2, _, k4⟩ := (h.inn k hk).1.reads
  exact ⟨k2, by unfold maxLen at k4; omega⟩
theorem tab_of_outs {B B' n m pc kc : Nat} {w : World} {pa ka : Option Addr} {t : Tab} (hp : PropsOut B w (.slice pa n pc) t.ps) (hk : KindsOut B' w (.slice ka m kc) t.ks) (hF : NamesFit t) : n = t.ps.length ∧ m = t.ks.length ∧ TabIn w pa ka pc kc t := by
  obtain ⟨p1, p2, p3, p4⟩ := hp.reads
  obtain ⟨k1, k2, k3, k4⟩ := hk.reads
  unfold maxLen at p4 k4
  exact ⟨p1, k1, ⟨p2, k2, by omega, by omega⟩, p3, k3, hF⟩
end Go.Proofs.YthihpggjglghoaaGreatDoor
