/- The kinds of a text, as a list. -/
import Derived.Test.YthihpggjglghoaaGreatDoorRtp
namespace Go.Proofs.YthihpggjglghoaaGreatDoor
open Go.RowKit Go.Shelf

theorem cutR_lt {s : ByteArray} (h : cutB s = true) : (cutR s).size < s.size := by
  have hs : s.data.toList.length = s.size := by rw [Array.length_toList]; rfl
  unfold cutB at h
  show (Lib.cut s.data.toList [10]).2.1.toArray.size < _
  rw [List.size_toArray]
  unfold Lib.cut at h ⊢
  split at h
  · rename_i hi
    rw [if_pos hi]
    simp only [List.length_drop, List.length_singleton]
    cases hl : s.data.toList with
    | nil => rw [hl] at hi; exact absurd hi (by decide)
    | cons x r => rw [← hl, hs]; have : 0 < s.size := by rw [← hs, hl]; simp
                  omega
  · simp at h
theorem kndV_some {rest : ByteArray} {x : ByteArray × List (Int × Int)} {r : ByteArray} {ws : List ByteArray} (h : kndV rest = some (x, r, ws)) : r = cutR rest ∧ ws = [] ∧ r.size < rest.size := by
  unfold kndV at h
  split at h
  · rename_i hc
    cases hw : wordsV (cutF rest) with
    | nil => rw [hw] at h; simp [kndW] at h
    | cons a t =>
      rw [hw] at h
      simp only [kndW, Option.map_eq_some_iff] at h
      obtain ⟨l, _, he⟩ := h
      simp only [Prod.mk.injEq] at he
      obtain ⟨_, rfl, rfl⟩ := he
      exact ⟨rfl, rfl, cutR_lt hc⟩
  · cases h
/-- The kinds, line by line; the first number is more than the text's size. -/
def kindsV : Nat → ByteArray → Option (List (ByteArray × List (Int × Int)))
  | 0, _ => some []
  | f + 1, rest => if rest.toList == ByteArray.toList ⟨#[]⟩ then some [] else
    match kndV rest with
    | none => none
    | some (x, r, _) => (kindsV f r).map fun l => x :: l
theorem kindsV_end {f : Nat} {rest : ByteArray} (h : (rest.toList == ByteArray.toList ⟨#[]⟩) = true) : kindsV f rest = some [] := by
  cases f with
  | zero => rfl
  | succ f => rw [kindsV, if_pos h]
theorem kindsV_stop {f : Nat} {rest : ByteArray} (h : (rest.toList == ByteArray.toList ⟨#[]⟩) = false) (hk : kndV rest = none) : kindsV (f + 1) rest = none := by
  rw [kindsV, if_neg (by rw [h]; decide), hk]
theorem kindsV_step {f : Nat} {rest r : ByteArray} {x : ByteArray × List (Int × Int)} {ws : List ByteArray} (h : (rest.toList == ByteArray.toList ⟨#[]⟩) = false) (hk : kndV rest = some (x, r, ws)) : kindsV (f + 1) rest = (kindsV f r).map fun l => x :: l := by
  rw [kindsV, if_neg (by rw [h]; decide), hk]
end Go.Proofs.YthihpggjglghoaaGreatDoor
