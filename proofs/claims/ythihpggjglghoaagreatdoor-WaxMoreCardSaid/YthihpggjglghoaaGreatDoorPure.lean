/- What the functions of layer wax come to, as plain functions of lists and numbers. -/
import Derived.Test.YthihpggjglghoaaGreatDoorName
import Derived.Test.YthihpggjglghoaaGreatDoorIdx
namespace Go.Proofs.YthihpggjglghoaaGreatDoor
open Go.RowKit

theorem idx_any {α : Type} (p : α → Bool) (l : List α) : decide (0 ≤ idx p l) = l.any p := by
  unfold idx
  cases h : l.findIdx? p with
  | none =>
    rw [List.findIdx?_eq_none_iff] at h
    symm
    simp only [Int.reduceNeg, Int.reduceLE, decide_false, List.any_eq_false]
    intro x hx
    simp [h x hx]
  | some k =>
    obtain ⟨hk, hp, _⟩ := List.findIdx?_eq_some_iff_getElem.1 h
    have : l.any p = true := List.any_eq_true.2 ⟨l[k], List.getElem_mem hk, hp⟩
    rw [this]
    simp

/-- The first number below n at which f is not 0. -/
def firstAt (f : Nat → Int) (n : Nat) : Option (Nat × Int) := ((List.range n).find? fun i => f i != 0).map fun i => (i, f i)
theorem firstAt_hit {f : Nat → Int} {n k : Nat} (h : ∀ i, i < k → f i = 0) (hk : k < n) (hf : f k ≠ 0) : firstAt f n = some (k, f k) := by
  unfold firstAt
  have : (List.range n).find? (fun i => f i != 0) = some k := by
    rw [List.find?_range_eq_some]
    exact ⟨by simp [hf], by simpa using hk, fun j hj => by simp [h j hj]⟩
  rw [this]; rfl
theorem firstAt_none {f : Nat → Int} {n : Nat} (h : ∀ i, i < n → f i = 0) : firstAt f n = none := by
  unfold firstAt
  have : (List.range n).find? (fun i => f i != 0) = none := by
    rw [List.find?_eq_none]
    intro i hi
    simp [h i (by simpa using hi)]
  rw [this]; rfl

/-- The error of a name among those before it. -/
def nameErr (bef : List ByteArray) (s : ByteArray) : Int := if nameB s then (if bef.any (fun y => y.toList == s.toList) then 5 else 0) else 6
def propErr (l : List Pr) (i : Nat) : Int :=
  match l[i]? with
  | none => 0
  | some p => if nameErr ((l.take i).map Pr.nm) p.nm ≠ 0 then nameErr ((l.take i).map Pr.nm) p.nm else if 0 ≤ p.er ∧ p.er ≤ 10000 then 0 else 7
def rangesErr (rs : List (Int × Int)) (np : Int) : Int := if (rs.length : Int) ≠ np then 3 else if rs.any beyondB then 7 else if rs.any emptyB then 2 else 0
def kindErr (l : List Kd) (np : Int) (i : Nat) : Int :=
  match l[i]? with
  | none => 0
  | some k => if nameErr ((l.take i).map Kd.nm) k.nm ≠ 0 then nameErr ((l.take i).map Kd.nm) k.nm else rangesErr k.rs np
def countsErr (t : Tab) : Int := if (1 ≤ t.ps.length ∧ t.ps.length ≤ 5) ∧ 1 ≤ t.ks.length ∧ t.ks.length ≤ 8 then (if 1 ≤ t.pu ∧ t.pu ≤ 1000 then 0 else 7) else 3
def checkOf (ce : Int) (a b : Option (Nat × Int)) : Int × Int × Int :=
  if ce ≠ 0 then (1, 0, ce) else match a with
  | some x => (2, (x.1 : Int), x.2)
  | none => match b with
    | some x => (3, (x.1 : Int), x.2)
    | none => (0, 0, 0)
/-- What Check returns. -/
def checkT (t : Tab) : Int × Int × Int := checkOf (countsErr t) (firstAt (propErr t.ps) t.ps.length) (firstAt (kindErr t.ks t.ps.length) t.ks.length)
theorem checkT_eq (t : Tab) : checkT t = checkOf (countsErr t) (firstAt (propErr t.ps) t.ps.length) (firstAt (kindErr t.ks t.ps.length) t.ks.length) := rfl
theorem checkOf_1 (ce : Int) (a b : Option (Nat × Int)) (h : ce ≠ 0) : checkOf ce a b = (1, 0, ce) := by simp [checkOf, h]
theorem checkOf_2 (x : Nat × Int) (b : Option (Nat × Int)) : checkOf 0 (some x) b = (2, (x.1 : Int), x.2) := rfl
theorem checkOf_3 (x : Nat × Int) : checkOf 0 none (some x) = (3, (x.1 : Int), x.2) := rfl
theorem checkOf_4 : checkOf 0 none none = (0, 0, 0) := rfl
/-- The error of readings. -/
def readsErr (l : List Int) (np : Int) : Int := if (l.length : Int) ≠ np then 3 else if l.any (fun n => decide (n ≠ -1 ∧ ¬ (0 ≤ n ∧ n ≤ 100000))) then 7 else 0
end Go.Proofs.YthihpggjglghoaaGreatDoor
