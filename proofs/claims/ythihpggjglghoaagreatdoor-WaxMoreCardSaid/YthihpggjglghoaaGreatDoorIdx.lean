/- wax.within, empty, beyond, find: contracts. No condition but that slices read as lists. -/
import Derived.Test.YthihpggjglghoaaGreatDoorProg
import Derived.Test.YthihpggjglghoaaGreatDoorMem
import Derived.WalkSpells
import Derived.WalkLawsBesides
import Derived.Outline
import Derived.Deep.RegionHeld3
import Derived.Deep.QuietTactic
import Derived.BigQuiet
import Derived.Shelf.Abstract
namespace Go.Proofs.YthihpggjglghoaaGreatDoor
open Go.RowKit Go.Shelf

/-- Where the first element is that p holds of, or -1. -/
def idx {α : Type} (p : α → Bool) (l : List α) : Int := match l.findIdx? p with | some k => k | none => -1
theorem idx_nil {α : Type} (p : α → Bool) : idx p [] = -1 := rfl
theorem idx_hit {α : Type} (p : α → Bool) (l : List α) (k : Nat) (x : α) (h : ∀ i y, i < k → l[i]? = some y → p y = false) (hx : l[k]? = some x) (hp : p x = true) : idx p l = k := by
  unfold idx
  have : l.findIdx? p = some k := by
    rw [List.findIdx?_eq_some_iff_getElem]
    obtain ⟨hk, e⟩ := List.getElem?_eq_some_iff.1 hx
    refine ⟨hk, by rw [e]; exact hp, fun j hj => ?_⟩
    have := h j l[j] hj (List.getElem?_eq_getElem (by omega))
    simp [this]
  rw [this]
theorem idx_none {α : Type} (p : α → Bool) (l : List α) (h : ∀ i y, i < l.length → l[i]? = some y → p y = false) : idx p l = -1 := by
  unfold idx
  have : l.findIdx? p = none := by
    rw [List.findIdx?_eq_none_iff]
    intro x hx
    obtain ⟨i, hi, e⟩ := List.getElem_of_mem hx
    exact h i x hi (by rw [List.getElem?_eq_getElem hi, e])
  rw [this]

set_option maxHeartbeats 400000 in
theorem within_any (n lo hi : Int) (w : World) :
    Calls Tryz.prog 68 #[.int .i64 n, .int .i64 lo, .int .i64 hi] w fun e w' => e = .returned (.bool (decide (lo ≤ n ∧ n ≤ hi))) ∧ w = w' := by
  go_enter Tryz.func68, Tryz.ntmps68
  go_wp2
  all_goals go_ret
  all_goals exact ⟨by simp; omega, rfl⟩

set_option maxHeartbeats 400000 in
theorem empty_any (lo hi : Int) (w : World) :
    Calls Tryz.prog 41 #[.agg #[.int .i64 lo, .int .i64 hi]] w fun e w' => e = .returned (.bool (decide (hi < lo))) ∧ Below w.heap.size w w' := by
  go_enter Tryz.func41, Tryz.ntmps41
  go_wp2
  go_ret
  exact ⟨rfl, (Below.refl _ _).alloc (Nat.le_refl _) _⟩

/-- A number of a range is no value. -/
def beyondB (x : Int × Int) : Bool := decide (¬ ((0 ≤ x.1 ∧ x.1 ≤ 100000) ∧ (0 ≤ x.2 ∧ x.2 ≤ 100000)))
set_option maxHeartbeats 400000 in
theorem beyond_any (x : Int × Int) (w : World) :
    Calls Tryz.prog 86 #[.agg #[.int .i64 x.1, .int .i64 x.2]] w fun e w' => e = .returned (.bool (beyondB x)) ∧ Below w.heap.size w w' := by
  obtain ⟨a, b⟩ := x
  go_enter Tryz.func86, Tryz.ntmps86
  go_wp2
  all_goals go_ret
  all_goals refine ⟨ret_bool ?_, (Below.refl _ _).alloc (Nat.le_refl _) _⟩
  all_goals simp_all [beyondB]
  all_goals (rw [Bool.eq_iff_iff]; simp)
def emptyB (x : Int × Int) : Bool := decide (x.2 < x.1)
theorem emptyB_any (x : Int × Int) (w : World) :
    Calls Tryz.prog 41 #[.agg #[.int .i64 x.1, .int .i64 x.2]] w fun e w' => e = .returned (.bool (emptyB x)) ∧ Below w.heap.size w w' := empty_any x.1 x.2 w

set_option maxHeartbeats 400000 in
/-- slices.IndexFunc at ranges, whatever the predicate. -/
theorem idxSpan (g : Nat) (p : Int × Int → Bool) (A : Option Addr) (c : Nat) (l : List (Int × Int)) (w : World) (hl : l.length ≤ 9223372036854775807) (hR : SpansAt w w.heap.size A l)
    (hen : ∀ args w, (callFunc g args).run Tryz.prog w = .ok (.enter g args) w)
    (hp : ∀ (W : World) (x : Int × Int), Calls Tryz.prog g #[.agg #[.int .i64 x.1, .int .i64 x.2]] W fun e w' => e = .returned (.bool (p x)) ∧ Below W.heap.size W w') :
    Calls Tryz.prog 103 #[.slice A l.length c, .func (.func g) #[] #[]] w fun e w' => e = .returned (.int .i64 (idx p l)) ∧ Below w.heap.size w w' := by
  have HP := Lib.hid hp
  clear hp
  go_enter Tryz.func103, Tryz.ntmps103
  go_wp2_with fail
  go_loopw [4, 8] (fun u i wr => ∃ k : Nat, k ≤ l.length ∧ i = .int .i64 k ∧ Below w.heap.size w wr ∧ Hid (∀ i y, i < k → l[i]? = some y → p y = false)) (fun _ i _ => l.length - (intOf i).toNat)
  case atStart => exact ⟨0, Nat.zero_le _, rfl, Below.refl _ _, fun i y hi => absurd hi (by omega)⟩
  case round =>
    obtain ⟨k, hk, rfl, hb, hno⟩ := hrel
    by_cases hlt : k < l.length
    · obtain ⟨x, hx⟩ : ∃ x, l[k]? = some x := ⟨l[k], List.getElem?_eq_getElem hlt⟩
      obtain ⟨b, o, rfl, hbB, hc1, hc2⟩ := spans_at (RowAt.below hR hb (Nat.le_refl _)) hx
      have HX := Lib.hid hx
      clear hx
      go_wp2_with fail
      refine (HP.out wr x ).mono ?_
      rintro e w1 ⟨rfl, hb1⟩
      have hb2 := hb.trans (hb1.mono hb.size)
      by_cases hpx : p x = true
      · go_wp2_with fail
        go_ret
        exact ⟨ret_i64 (idx_hit p l k x hno.out HX.out hpx).symm, hb2⟩
      · have hpx' : p x = false := by simpa using hpx
        clear hpx
        go_wp2_with fail
        go_roundw
        case rel => exact ⟨k + 1, by omega, by go_num, hb2, fun i y hi hy => by
          by_cases hik : i = k
          · subst hik; rw [HX.out] at hy; cases hy; exact hpx'
          · exact hno.out i y (by omega) hy⟩
        case measure => simp [intOf]; omega
    · go_wp2_with fail
      go_ret
      exact ⟨ret_i64 (idx_none p l (fun i y hi hy => hno.out i y (by omega) hy)).symm, hb⟩

set_option maxHeartbeats 400000 in
/-- slices.IndexFunc at properties. -/
theorem idxProp (g : Nat) (q1 q2 : Option Addr) (p : Pr → Bool) (A : Option Addr) (c : Nat) (l : List Pr) (w : World) (hl : l.length ≤ 9223372036854775807) (hR : PropsAt w w.heap.size A l)
    (hen : ∀ args w, (callFunc g args).run Tryz.prog w = .ok (.enter g args) w)
    (hp : ∀ (W : World) (x : Pr), Below w.heap.size w W → Calls Tryz.prog g #[.agg #[.string x.nm, .int .i64 x.er], .pointer q1, .pointer q2] W fun e w' => e = .returned (.bool (p x)) ∧ Below W.heap.size W w') :
    Calls Tryz.prog 127 #[.slice A l.length c, .func (.func g) #[] #[.pointer q1, .pointer q2]] w fun e w' => e = .returned (.int .i64 (idx p l)) ∧ Below w.heap.size w w' := by
  have HP := Lib.hid hp
  clear hp
  go_enter Tryz.func127, Tryz.ntmps127
  go_wp2_with fail
  go_loopw [4, 8] (fun u i wr => ∃ k : Nat, k ≤ l.length ∧ i = .int .i64 k ∧ Below w.heap.size w wr ∧ Hid (∀ i y, i < k → l[i]? = some y → p y = false)) (fun _ i _ => l.length - (intOf i).toNat)
  case atStart => exact ⟨0, Nat.zero_le _, rfl, Below.refl _ _, fun i y hi => absurd hi (by omega)⟩
  case round =>
    obtain ⟨k, hk, rfl, hb, hno⟩ := hrel
    by_cases hlt : k < l.length
    · obtain ⟨x, hx⟩ : ∃ x, l[k]? = some x := ⟨l[k], List.getElem?_eq_getElem hlt⟩
      obtain ⟨b, o, rfl, hbB, hc1, hc2⟩ := props_at (RowAt.below hR hb (Nat.le_refl _)) hx
      have HX := Lib.hid hx
      clear hx
      go_wp2_with fail
      refine (HP.out wr x hb).mono ?_
      rintro e w1 ⟨rfl, hb1⟩
      have hb2 := hb.trans (hb1.mono hb.size)
      by_cases hpx : p x = true
      · go_wp2_with fail
        go_ret
        exact ⟨ret_i64 (idx_hit p l k x hno.out HX.out hpx).symm, hb2⟩
      · have hpx' : p x = false := by simpa using hpx
        clear hpx
        go_wp2_with fail
        go_roundw
        case rel => exact ⟨k + 1, by omega, by go_num, hb2, fun i y hi hy => by
          by_cases hik : i = k
          · subst hik; rw [HX.out] at hy; cases hy; exact hpx'
          · exact hno.out i y (by omega) hy⟩
        case measure => simp [intOf]; omega
    · go_wp2_with fail
      go_ret
      exact ⟨ret_i64 (idx_none p l (fun i y hi hy => hno.out i y (by omega) hy)).symm, hb⟩

set_option maxHeartbeats 400000 in
/-- slices.IndexFunc at kinds. -/
theorem idxKind (g : Nat) (q1 q2 : Option Addr) (p : Kd → Bool) (A : Option Addr) (c : Nat) (l : List Kd) (w : World) (hl : l.length ≤ 9223372036854775807) (hR : KindsAt w w.heap.size A l)
    (hen : ∀ args w, (callFunc g args).run Tryz.prog w = .ok (.enter g args) w)
    (hp : ∀ (W : World) (x : Kd), Below w.heap.size w W → Calls Tryz.prog g #[.agg #[.string x.nm, .slice x.ad x.rs.length x.cp], .pointer q1, .pointer q2] W fun e w' => e = .returned (.bool (p x)) ∧ Below W.heap.size W w') :
    Calls Tryz.prog 129 #[.slice A l.length c, .func (.func g) #[] #[.pointer q1, .pointer q2]] w fun e w' => e = .returned (.int .i64 (idx p l)) ∧ Below w.heap.size w w' := by
  have HP := Lib.hid hp
  clear hp
  go_enter Tryz.func129, Tryz.ntmps129
  go_wp2_with fail
  go_loopw [4, 8] (fun u i wr => ∃ k : Nat, k ≤ l.length ∧ i = .int .i64 k ∧ Below w.heap.size w wr ∧ Hid (∀ i y, i < k → l[i]? = some y → p y = false)) (fun _ i _ => l.length - (intOf i).toNat)
  case atStart => exact ⟨0, Nat.zero_le _, rfl, Below.refl _ _, fun i y hi => absurd hi (by omega)⟩
  case round =>
    obtain ⟨k, hk, rfl, hb, hno⟩ := hrel
    by_cases hlt : k < l.length
    · obtain ⟨x, hx⟩ : ∃ x, l[k]? = some x := ⟨l[k], List.getElem?_eq_getElem hlt⟩
      obtain ⟨b, o, rfl, hbB, hc1, hc2, _, _⟩ := kinds_at (hR.below hb (Nat.le_refl _)) hx
      have HX := Lib.hid hx
      clear hx
      go_wp2_with fail
      refine (HP.out wr x hb).mono ?_
      rintro e w1 ⟨rfl, hb1⟩
      have hb2 := hb.trans (hb1.mono hb.size)
      by_cases hpx : p x = true
      · go_wp2_with fail
        go_ret
        exact ⟨ret_i64 (idx_hit p l k x hno.out HX.out hpx).symm, hb2⟩
      · have hpx' : p x = false := by simpa using hpx
        clear hpx
        go_wp2_with fail
        go_roundw
        case rel => exact ⟨k + 1, by omega, by go_num, hb2, fun i y hi hy => by
          by_cases hik : i = k
          · subst hik; rw [HX.out] at hy; cases hy; exact hpx'
          · exact hno.out i y (by omega) hy⟩
        case measure => simp [intOf]; omega
    · go_wp2_with fail
      go_ret
      exact ⟨ret_i64 (idx_none p l (fun i y hi hy => hno.out i y (by omega) hy)).symm, hb⟩


set_option maxHeartbeats 400000 in
theorem hasSpan (g : Nat) (p : Int × Int → Bool) (A : Option Addr) (c : Nat) (l : List (Int × Int)) (w : World) (hl : l.length ≤ 9223372036854775807) (hR : SpansAt w w.heap.size A l)
    (hen : ∀ args w, (callFunc g args).run Tryz.prog w = .ok (.enter g args) w)
    (hp : ∀ (W : World) (x : Int × Int), Calls Tryz.prog g #[.agg #[.int .i64 x.1, .int .i64 x.2]] W fun e w' => e = .returned (.bool (p x)) ∧ Below W.heap.size W w') :
    Calls Tryz.prog 85 #[.slice A l.length c, .func (.func g) #[] #[]] w fun e w' => e = .returned (.bool (decide (0 ≤ idx p l))) ∧ Below w.heap.size w w' := by
  have HP := Lib.hid hp
  clear hp
  have HR := Lib.hid hR
  clear hR
  go_enter Tryz.func85, Tryz.ntmps85
  go_wp2_with fail
  refine (idxSpan g p A c l _ hl HR.out hen HP.out).mono ?_
  rintro e w1 ⟨rfl, hb1⟩
  go_wp2_with fail
  go_ret
  exact ⟨rfl, hb1⟩

set_option maxHeartbeats 400000 in
theorem propName_any (x : Pr) (w : World) :
    Calls Tryz.prog 82 #[.agg #[.string x.nm, .int .i64 x.er]] w fun e w' => e = .returned (.string x.nm) ∧ Below w.heap.size w w' := by
  go_enter Tryz.func82, Tryz.ntmps82
  go_wp2_with fail
  go_ret
  exact ⟨rfl, (Below.refl _ _).alloc (Nat.le_refl _) _⟩
set_option maxHeartbeats 400000 in
theorem kindName_any (x : Kd) (w : World) :
    Calls Tryz.prog 84 #[.agg #[.string x.nm, .slice x.ad x.rs.length x.cp]] w fun e w' => e = .returned (.string x.nm) ∧ Below w.heap.size w w' := by
  go_enter Tryz.func84, Tryz.ntmps84
  go_wp2_with fail
  go_ret
  exact ⟨rfl, (Below.refl _ _).alloc (Nat.le_refl _) _⟩

set_option maxHeartbeats 1000000 in
theorem isProp_any (x : Pr) (s : ByteArray) (B1 B2 : Nat) (w : World) (hb1 : B1 < w.heap.size) (hb2 : B2 < w.heap.size) (h1 : w.cell? ⟨B1, 0, none⟩ = some (.func (.func 82) #[] #[])) (h2 : w.cell? ⟨B2, 0, none⟩ = some (.string s)) :
    Calls Tryz.prog 128 #[.agg #[.string x.nm, .int .i64 x.er], .pointer (some ⟨B1, 0, none⟩), .pointer (some ⟨B2, 0, none⟩)] w fun e w' => e = .returned (.bool (x.nm.toList == s.toList)) ∧ Below w.heap.size w w' := by
  have n1 : ¬ B1 = w.heap.size := by omega
  have n2 : ¬ B2 = w.heap.size := by omega
  have eg : ∀ args w, (callFunc 82 args).run Tryz.prog w = .ok (.enter 82 args) w := enters_of Tryz.func82 (by kernel_rfl) rfl
  go_enter Tryz.func128, Tryz.ntmps128
  go_wp2_with fail
  go_region_held3 (fun w' => w'.cell? ⟨B1, 0, none⟩ = some (.func (.func 82) #[] #[]) ∧ w'.cell? ⟨B2, 0, none⟩ = some (.string s) ∧ w'.cell? ⟨w.heap.size, 0, none⟩ = some (.string x.nm) ∧ w'.cell? ⟨w.heap.size, 1, none⟩ = some (.int .i64 x.er)) (first | (simp [*]; done) | (simp [go_sem, *]; done))
    (first | (go_at_call 82; refine (propName_any x _).mono ?_; rintro e w1 ⟨rfl, hb3⟩; have hk3 := kept_of hb3))
  go_wp2_with fail
  go_ret
  exact ⟨rfl, (((Below.refl _ w).alloc (Nat.le_refl _) _).drew).trans (hb3.mono (by simp))⟩

set_option maxHeartbeats 1000000 in
theorem findProp_any (A : Option Addr) (c : Nat) (l : List Pr) (s : ByteArray) (w : World) (hl : l.length ≤ 9223372036854775807) (hR : PropsAt w w.heap.size A l) :
    Calls Tryz.prog 101 #[.slice A l.length c, .string s, .func (.func 82) #[] #[]] w fun e w' => e = .returned (.int .i64 (idx (fun y => y.nm.toList == s.toList) l)) ∧ Below w.heap.size w w' := by
  have hb0 : Below w.heap.size w ((w.alloc (.cells #[.string s] 9)).alloc (.cells #[.func (.func 82) #[] #[]] 132)) := ((Below.refl _ w).alloc (Nat.le_refl _) _).alloc (by simp) _
  have HC := Lib.hid (idxProp 128 (some ⟨w.heap.size + 1, 0, none⟩) (some ⟨w.heap.size, 0, none⟩) (fun y => y.nm.toList == s.toList) A c l _ hl ((RowAt.below hR hb0 (Nat.le_refl _)).mono (by simp; omega)) (enters_of Tryz.func128 (by kernel_rfl) rfl)
    (fun W x hb => isProp_any x s (w.heap.size + 1) w.heap.size W (by have := hb.size; simp at this; omega) (by have := hb.size; simp at this; omega) ((hb.cell (p := ⟨w.heap.size + 1, 0, none⟩) (by simp)).trans (by simp)) ((hb.cell (p := ⟨w.heap.size, 0, none⟩) (by simp; omega)).trans (by simp))))
  go_enter Tryz.func101, Tryz.ntmps101
  go_wp2_with fail
  refine HC.out.mono ?_
  rintro e w1 ⟨rfl, hb1⟩
  go_wp2_with fail
  go_ret
  exact ⟨rfl, hb0.trans (hb1.mono (by simp; omega))⟩

set_option maxHeartbeats 1000000 in
theorem isKind_any (x : Kd) (s : ByteArray) (B1 B2 : Nat) (w : World) (hb1 : B1 < w.heap.size) (hb2 : B2 < w.heap.size) (h1 : w.cell? ⟨B1, 0, none⟩ = some (.func (.func 84) #[] #[])) (h2 : w.cell? ⟨B2, 0, none⟩ = some (.string s)) :
    Calls Tryz.prog 130 #[.agg #[.string x.nm, .slice x.ad x.rs.length x.cp], .pointer (some ⟨B1, 0, none⟩), .pointer (some ⟨B2, 0, none⟩)] w fun e w' => e = .returned (.bool (x.nm.toList == s.toList)) ∧ Below w.heap.size w w' := by
  have n1 : ¬ B1 = w.heap.size := by omega
  have n2 : ¬ B2 = w.heap.size := by omega
  have eg : ∀ args w, (callFunc 84 args).run Tryz.prog w = .ok (.enter 84 args) w := enters_of Tryz.func84 (by kernel_rfl) rfl
  go_enter Tryz.func130, Tryz.ntmps130
  go_wp2_with fail
  go_region_held3 (fun w' => w'.cell? ⟨B1, 0, none⟩ = some (.func (.func 84) #[] #[]) ∧ w'.cell? ⟨B2, 0, none⟩ = some (.string s) ∧ w'.cell? ⟨w.heap.size, 0, none⟩ = some (.string x.nm) ∧ w'.cell? ⟨w.heap.size, 1, none⟩ = some (.slice x.ad x.rs.length x.cp)) (first | (simp [*]; done) | (simp [go_sem, *]; done))
    (first | (go_at_call 84; refine (kindName_any x _).mono ?_; rintro e w1 ⟨rfl, hb3⟩; have hk3 := kept_of hb3))
  go_wp2_with fail
  go_ret
  exact ⟨rfl, (((Below.refl _ w).alloc (Nat.le_refl _) _).drew).trans (hb3.mono (by simp))⟩

set_option maxHeartbeats 1000000 in
theorem findKind_any (A : Option Addr) (c : Nat) (l : List Kd) (s : ByteArray) (w : World) (hl : l.length ≤ 9223372036854775807) (hR : KindsAt w w.heap.size A l) :
    Calls Tryz.prog 102 #[.slice A l.length c, .string s, .func (.func 84) #[] #[]] w fun e w' => e = .returned (.int .i64 (idx (fun y => y.nm.toList == s.toList) l)) ∧ Below w.heap.size w w' := by
  have hb0 : Below w.heap.size w ((w.alloc (.cells #[.string s] 9)).alloc (.cells #[.func (.func 84) #[] #[]] 134)) := ((Below.refl _ w).alloc (Nat.le_refl _) _).alloc (by simp) _
  have HC := Lib.hid (idxKind 130 (some ⟨w.heap.size + 1, 0, none⟩) (some ⟨w.heap.size, 0, none⟩) (fun y => y.nm.toList == s.toList) A c l _ hl ((hR.below hb0 (Nat.le_refl _)).mono (by simp; omega)) (enters_of Tryz.func130 (by kernel_rfl) rfl)
    (fun W x hb => isKind_any x s (w.heap.size + 1) w.heap.size W (by have := hb.size; simp at this; omega) (by have := hb.size; simp at this; omega) ((hb.cell (p := ⟨w.heap.size + 1, 0, none⟩) (by simp)).trans (by simp)) ((hb.cell (p := ⟨w.heap.size, 0, none⟩) (by simp; omega)).trans (by simp))))
  go_enter Tryz.func102, Tryz.ntmps102
  go_wp2_with fail
  refine HC.out.mono ?_
  rintro e w1 ⟨rfl, hb1⟩
  go_wp2_with fail
  go_ret
  exact ⟨rfl, hb0.trans (hb1.mono (by simp; omega))⟩

end Go.Proofs.YthihpggjglghoaaGreatDoor
