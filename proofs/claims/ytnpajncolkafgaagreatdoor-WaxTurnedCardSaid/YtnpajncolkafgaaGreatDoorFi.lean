/- Contracts of layer wax, a part: the reference, arguments that come in, and what the law needs of both. No statement is proved here. -/
import Derived.Test.YtnpajncolkafgaaGreatDoorOpen
import Derived.Test.YtnpajncolkafgaaGreatDoorOut
import Derived.Deep.DeepMust
import Derived.WalkKit
import Derived.ProofKit
import Derived.OpenShut
import Derived.Deep.Slices
import Derived.Lib.SmallJoins
import Derived.Test.YtnpajncolkafgaaGreatDoorDet
import Derived.Test.YtnpajncolkafgaaGreatDoorParts
import Derived.BigQuiet
import Derived.Test.YtnpajncolkafgaaGreatDoorSetsT
import Derived.Test.YtnpajncolkafgaaGreatDoorSold
import Derived.Test.YtnpajncolkafgaaGreatDoorBlk
import Derived.Test.YtnpajncolkafgaaGreatDoorWithin
import Derived.Test.YtnpajncolkafgaaGreatDoorPof
import Derived.Test.YtnpajncolkafgaaGreatDoorLine
import Derived.Test.YtnpajncolkafgaaGreatDoorCards
import Derived.Test.YtnpajncolkafgaaGreatDoorTie
import Derived.Deep.DeepHandedRow
import Derived.Deep.DeepWitnessRowRef
import Derived.Lib.LaidTab
import Derived.Stop.LaidErr
import Derived.LaidMore
import Derived.Shelf.Vars
import Derived.Lib.LaidU8
namespace Go.Proofs.YtnpajncolkafgaaGreatDoor
open Go.RowKit Go.Shelf

def inB (n lo hi : Int) : Bool := decide (lo ≤ n) && decide (n ≤ hi)
theorem inB_t {n lo hi : Int} (h1 : lo ≤ n) (h2 : n ≤ hi) : inB n lo hi = true := by simp [inB, h1, h2]
theorem inB_f {n lo hi : Int} (h : ¬ (lo ≤ n ∧ n ≤ hi)) : inB n lo hi = false := by
  unfold inB
  rw [Bool.and_eq_false_iff, decide_eq_false_iff_not, decide_eq_false_iff_not]
  omega
theorem inB_iff {n lo hi : Int} : inB n lo hi = true ↔ (lo ≤ n ∧ n ≤ hi) := by
  unfold inB
  rw [Bool.and_eq_true, decide_eq_true_eq, decide_eq_true_eq]
theorem rin_any (n lo hi : Int) (w : World) :
    Calls Tryz.prog 53 #[.int .i64 n, .int .i64 lo, .int .i64 hi] w fun e w' => e = .returned (.bool (inB n lo hi)) ∧ w' = w := by
  by_cases h1 : lo ≤ n
  · by_cases h2 : n ≤ hi
    · have H := Lib.hid (inB_t h1 h2)
      go_enter Tryz.func53, Tryz.ntmps53
      go_wp2
      go_ret
      exact ⟨ret_bool H.out.symm, rfl⟩
    · have H := Lib.hid (inB_f (n := n) (lo := lo) (hi := hi) (by omega))
      go_enter Tryz.func53, Tryz.ntmps53
      go_wp2
      go_ret
      exact ⟨ret_bool H.out.symm, rfl⟩
  · have H := Lib.hid (inB_f (n := n) (lo := lo) (hi := hi) (by omega))
    go_enter Tryz.func53, Tryz.ntmps53
    go_wp2
    go_ret
    exact ⟨ret_bool H.out.symm, rfl⟩

theorem nameRest_last : ∀ (l : List UInt8) (b : Nat), nameRest b l = true → ∀ x, l.getLast? = some x → x.toNat ≠ 45
  | [], _, _, x, hx => by simp at hx
  | [c], b, h, x, hx => by
    simp at hx
    subst hx
    intro e
    simp [nameRest, e] at h
  | c :: d :: l, b, h, x, hx => by
    rw [List.getLast?_cons_cons] at hx
    unfold nameRest at h
    split at h
    · exact nameRest_last (d :: l) _ h x hx
    · split at h
      · exact nameRest_last (d :: l) _ h x hx
      · cases h
/-- The byte before place k; a hyphen before the first one. -/
def befAt (s : ByteArray) (k : Nat) : Nat := if k = 0 then 45 else ((s.data.toList[k - 1]?).map UInt8.toNat).getD 45
theorem rest_step {s : ByteArray} {k : Nat} (h : k < s.size) : nameRest (befAt s k) (s.data.toList.drop k) = (if 97 ≤ (s[k]'h).toNat ∧ (s[k]'h).toNat ≤ 122 then nameRest (befAt s (k + 1)) (s.data.toList.drop (k + 1)) else if (s[k]'h).toNat = 45 ∧ befAt s k ≠ 45 then nameRest (befAt s (k + 1)) (s.data.toList.drop (k + 1)) else false) := by
  have hb : befAt s (k + 1) = (s[k]'h).toNat := by
    unfold befAt
    rw [if_neg (by omega), Nat.add_sub_cancel, List.getElem?_eq_getElem (by simpa using h)]
    rfl
  rw [drop_cons s k h, nameRest, hb]
  split
  · rfl
  · split
    · rename_i h2; rw [h2.1]
    · rfl
theorem bef_succ {s : ByteArray} {k : Nat} (h : k < s.size) : befAt s (k + 1) = (s[k]'h).toNat := by
  unfold befAt
  rw [if_neg (by omega), Nat.add_sub_cancel, List.getElem?_eq_getElem (by simpa using h)]
  rfl
theorem rest_end {s : ByteArray} (h : 0 < s.size) (hl : (s[s.size - 1]'(by omega)).toNat ≠ 45) : nameRest (befAt s s.size) (s.data.toList.drop s.size) = true := by
  have h1 := bef_succ (s := s) (k := s.size - 1) (by omega)
  rw [show s.size - 1 + 1 = s.size by omega] at h1
  rw [List.drop_of_length_le (by simp), nameRest, h1]
  simpa using hl
theorem nameB_len {s : ByteArray} (h : ¬ (1 ≤ s.size ∧ s.size ≤ 20)) : nameB s = false := by
  unfold nameB
  by_cases h2 : s.size ≤ 20
  · have h0 : s.data.toList = [] := by
      apply List.eq_nil_of_length_eq_zero
      have : s.data.toList.length = s.size := by simp
      omega
    rw [h0]
    simp [nameRest]
  · simp [h2]
theorem nameB_first {s : ByteArray} (h : 0 < s.size) (h0 : (s[0]'h).toNat = 45) : nameB s = false := by
  unfold nameB
  have hd := drop_cons s 0 h
  rw [List.drop_zero] at hd
  rw [hd, nameRest, if_neg (by omega), if_neg (by simp)]
  simp
theorem nameB_last {s : ByteArray} (h : 0 < s.size) (h0 : (s[s.size - 1]'(by omega)).toNat = 45) : nameB s = false := by
  unfold nameB
  rw [Bool.and_eq_false_iff]
  right
  cases hn : nameRest 45 s.data.toList with
  | false => rfl
  | true =>
    refine absurd h0 (nameRest_last _ _ hn _ ?_)
    rw [List.getLast?_eq_getElem?, List.getElem?_eq_getElem (by simp; omega)]
    simp
    rfl
theorem nameB_rest {s : ByteArray} (h2 : s.size ≤ 20) : nameB s = nameRest (befAt s 0) (s.data.toList.drop 0) := by
  unfold nameB
  rw [List.drop_zero]
  simp [h2, befAt]
end Go.Proofs.YtnpajncolkafgaaGreatDoor

namespace Go.Proofs.YtnpajncolkafgaaGreatDoor
open Go.RowKit Go.Shelf

set_option maxRecDepth 100000 in
set_option maxHeartbeats 2000000 in
theorem rname_any (s : ByteArray) (w : World) (hmax : s.size ≤ 9223372036854775807) :
    Calls Tryz.prog 19 #[.string s] w fun e w' => e = .returned (.bool (nameB s)) ∧ w' = w := by
  by_cases hl : 1 ≤ s.size ∧ s.size ≤ 20
  · obtain ⟨hl1, hl2⟩ := hl
    have hin : inB (s.size : Int) 1 20 = true := inB_t (by omega) (by omega)
    by_cases h0 : (s[0]'hl1).toNat = 45
    · have H := Lib.hid (nameB_first hl1 h0)
      have hq : (((s[0]'hl1).toNat : Int) == 45) = true := by simp; omega
      clear h0
      go_enter Tryz.func19, Tryz.ntmps19
      go_wp2_with (go_at_call 53; refine (rin_any _ _ _ _).mono ?_; rintro e w' ⟨rfl, rfl⟩)
      go_ret
      exact ⟨ret_bool H.out.symm, rfl⟩
    · have hq : (((s[0]'hl1).toNat : Int) == 45) = false := by simp; omega
      by_cases h1 : (s[s.size - 1]'(by omega)).toNat = 45
      · have H := Lib.hid (nameB_last hl1 h1)
        have hq1 : (((s[s.size - 1]'(by omega)).toNat : Int) == 45) = true := by simp; omega
        clear h0 h1
        go_enter Tryz.func19, Tryz.ntmps19
        go_wp2_with (go_at_call 53; refine (rin_any _ _ _ _).mono ?_; rintro e w' ⟨rfl, rfl⟩)
        go_ret
        exact ⟨ret_bool H.out.symm, rfl⟩
      · have hq1 : (((s[s.size - 1]'(by omega)).toNat : Int) == 45) = false := by simp; omega
        have HE := Lib.hid (rest_end hl1 h1)
        have H0 := Lib.hid (nameB_rest hl2)
        have HF := Lib.hid h0
        clear h0 h1
        go_enter Tryz.func19, Tryz.ntmps19
        go_wp2_with (go_at_call 53; refine (rin_any _ _ _ _).mono ?_; rintro e w' ⟨rfl, rfl⟩)
        go_loop [3] (fun i => ∃ k : Nat, k ≤ s.size ∧ i = .int .i64 k ∧ Hid (nameRest (befAt s k) (s.data.toList.drop k) = nameB s)) (fun i => s.size - (intOf i).toNat)
        case atStart => exact ⟨0, by omega, rfl, H0.out.symm⟩
        case round =>
          obtain ⟨k, hk, rfl, HR⟩ := hrel
          by_cases hlt : k < s.size
          · have HS := Lib.hid (rest_step hlt)
            have bd1 : ((s[k]'hlt).toNat : Int) ≤ 255 := by have := (s[k]'hlt).toNat_lt; omega
            have bd0 : (0 : Int) ≤ ((s[k]'hlt).toNat : Int) := by omega
            by_cases hlet : 97 ≤ (s[k]'hlt).toNat ∧ (s[k]'hlt).toNat ≤ 122
            · have HN : Hid (nameRest (befAt s (k + 1)) (s.data.toList.drop (k + 1)) = nameB s) := by
                show _ = _
                rw [← HR.out, HS.out, if_pos hlet]
              have f1 : (((s[k]'hlt).toNat : Int) != 45) = true := by simp; omega
              have f2 : (((s[k]'hlt).toNat : Int) == 45) = false := by simp; omega
              have f3 : inB ((s[k]'hlt).toNat : Int) 97 122 = true := inB_t (by omega) (by omega)
              clear hlet HS HR
              by_cases hk0 : 0 < k
              all_goals
                go_wp2_with (go_at_call 53; refine (rin_any _ _ _ _).mono ?_; rintro e w' ⟨rfl, rfl⟩)
                go_round
                case rel => exact ⟨k + 1, by omega, by go_num, HN⟩
                case measure => simp [intOf]; omega
            · by_cases hc : (s[k]'hlt).toNat = 45
              · have hk0 : 0 < k := by
                  rcases Nat.eq_zero_or_pos k with h | h
                  · subst h; exact absurd hc HF.out
                  · exact h
                have hbf := bef_succ (s := s) (k := k - 1) (by omega)
                rw [show k - 1 + 1 = k by omega] at hbf
                have f1 : (((s[k]'hlt).toNat : Int) != 45) = false := by simp; omega
                have f2 : (((s[k]'hlt).toNat : Int) == 45) = true := by simp; omega
                by_cases hp : (s[k - 1]'(by omega)).toNat = 45
                · have f3 : (((s[k - 1]'(by omega)).toNat : Int) == 45) = true := by simp; omega
                  have HN := Lib.hid (show nameB s = false by rw [← HR.out, HS.out, if_neg hlet, if_neg (by rw [hbf]; omega)])
                  clear hlet HS HR hc hp hbf
                  go_wp2_with (go_at_call 53; refine (rin_any _ _ _ _).mono ?_; rintro e w' ⟨rfl, rfl⟩)
                  go_ret
                  exact ⟨ret_bool HN.out.symm, rfl⟩
                · have f3 : (((s[k - 1]'(by omega)).toNat : Int) == 45) = false := by simp; omega
                  have HN : Hid (nameRest (befAt s (k + 1)) (s.data.toList.drop (k + 1)) = nameB s) := by
                    show _ = _
                    rw [← HR.out, HS.out, if_neg hlet, if_pos ⟨hc, by rw [hbf]; exact hp⟩]
                  clear hlet HS HR hc hp hbf
                  go_wp2_with (go_at_call 53; refine (rin_any _ _ _ _).mono ?_; rintro e w' ⟨rfl, rfl⟩)
                  go_round
                  case rel => exact ⟨k + 1, by omega, by go_num, HN⟩
                  case measure => simp [intOf]; omega
              · have HN := Lib.hid (show nameB s = false by rw [← HR.out, HS.out, if_neg hlet, if_neg (fun h => hc h.1)])
                have f1 : (((s[k]'hlt).toNat : Int) != 45) = true := by simp; omega
                have f3 : inB ((s[k]'hlt).toNat : Int) 97 122 = false := inB_f (by omega)
                clear hlet HS HR hc
                go_wp2_with (go_at_call 53; refine (rin_any _ _ _ _).mono ?_; rintro e w' ⟨rfl, rfl⟩)
                go_ret
                exact ⟨ret_bool HN.out.symm, rfl⟩
          · have hke : k = s.size := by omega
            have HN := Lib.hid (show nameB s = true by rw [← HR.out, hke]; exact HE.out)
            clear hke HR
            go_wp2_with (go_at_call 53; refine (rin_any _ _ _ _).mono ?_; rintro e w' ⟨rfl, rfl⟩)
            go_ret
            exact ⟨ret_bool HN.out.symm, rfl⟩
  · have hin : inB (s.size : Int) 1 20 = false := inB_f (by omega)
    have H := Lib.hid (nameB_len hl)
    clear hl
    go_enter Tryz.func19, Tryz.ntmps19
    go_wp2_with (go_at_call 53; refine (rin_any _ _ _ _).mono ?_; rintro e w' ⟨rfl, rfl⟩)
    go_ret
    exact ⟨ret_bool H.out.symm, rfl⟩
end Go.Proofs.YtnpajncolkafgaaGreatDoor

namespace Go.Proofs.YtnpajncolkafgaaGreatDoor
open Go.RowKit Go.Shelf

theorem any_take_all {α : Type} (p : α → Bool) (l : List α) (k : Nat) (hk : k = l.length) (h : (l.take k).any p = false) : l.any p = false := by
  rw [hk, List.take_length] at h; exact h
theorem any_take_step {α : Type} (p : α → Bool) (l : List α) (k : Nat) (x : α) (hx : l[k]? = some x) : (l.take (k + 1)).any p = ((l.take k).any p || p x) := by
  rw [List.take_add_one, hx]; simp
set_option maxRecDepth 100000 in
set_option maxHeartbeats 2000000 in
theorem rnamed_any {w : World} {A : Option Addr} {c : Nat} {bef : List ByteArray} (s : ByteArray) (hmax : s.size ≤ 9223372036854775807) (hb : StrsAt w w.heap.size A bef) (hl : bef.length ≤ 9223372036854775807) :
    Calls Tryz.prog 54 #[.string s, .slice A bef.length c] w fun e w' => e = .returned (.int .i64 (nameErr bef s)) ∧ w' = w := by
  cases hn : nameB s with
  | false =>
    have H := Lib.hid (show nameErr bef s = 6 by simp [nameErr, hn])
    have HC := Lib.hid (rname_any s w hmax)
    have HN := Lib.hid hn
    clear hn
    go_enter Tryz.func54, Tryz.ntmps54
    go_wp2_with fail
    refine HC.out.mono ?_
    rintro e w' ⟨rfl, rfl⟩
    rw [HN.out]
    go_wp2_with fail
    go_ret
    exact ⟨ret_i64 H.out.symm, rfl⟩
  | true =>
    have HC := Lib.hid (rname_any s w hmax)
    have HN := Lib.hid hn
    clear hn
    go_enter Tryz.func54, Tryz.ntmps54
    go_wp2_with fail
    refine HC.out.mono ?_
    rintro e w' ⟨rfl, rfl⟩
    rw [HN.out]
    go_wp2_with fail
    go_loop [5] (fun i => ∃ k : Nat, k ≤ bef.length ∧ i = .int .i64 k ∧ Hid ((bef.take k).any (fun y => y.toList == s.toList) = false)) (fun i => bef.length - (intOf i).toNat)
    case atStart => exact ⟨0, by omega, rfl, by show _ = _; simp⟩
    case round =>
      obtain ⟨k, hk, rfl, HR⟩ := hrel
      by_cases hlt : k < bef.length
      · obtain ⟨y, hy⟩ : ∃ y, bef[k]? = some y := ⟨bef[k], List.getElem?_eq_getElem hlt⟩
        obtain ⟨b, o, rfl, _, hcell⟩ := strs_at hb hy
        cases heq : (y.toList == s.toList) with
        | true =>
          have H := Lib.hid (show nameErr bef s = 5 by
            have h1 : bef.any (fun y => y.toList == s.toList) = true := List.any_eq_true.2 ⟨y, List.mem_of_getElem? hy, heq⟩
            simp [nameErr, HN.out, h1])
          clear hy
          go_wp2_with fail
          go_ret
          exact ⟨ret_i64 H.out.symm, rfl⟩
        | false =>
          have HR' : Hid ((bef.take (k + 1)).any (fun y => y.toList == s.toList) = false) := by
            show _ = _
            rw [any_take_step _ _ _ _ hy, HR.out, heq]; rfl
          clear hy HR
          go_wp2_with fail
          go_round
          case rel => exact ⟨k + 1, by omega, by go_num, HR'⟩
          case measure => simp [intOf]; omega
      · have H := Lib.hid (show nameErr bef s = 0 by
          have h1 := any_take_all _ _ k (by omega) HR.out
          simp [nameErr, HN.out, h1])
        clear HR
        go_wp2_with fail
        go_ret
        exact ⟨ret_i64 H.out.symm, rfl⟩

/-- The error of a range. -/
def spanErr (x : Int × Int) (a b : Int) : Int := if inB x.1 a b = false ∨ inB x.2 a b = false then 7 else if x.2 < x.1 then 2 else 0
theorem rspan_any (x : Int × Int) (a b : Int) (w : World) :
    Calls Tryz.prog 87 #[.agg #[.int .i64 x.1, .int .i64 x.2], .int .i64 a, .int .i64 b] w fun e w' => e = .returned (.int .i64 (spanErr x a b)) ∧ Below w.heap.size w w' := by
  obtain ⟨lo, hi⟩ := x
  have hb : Below w.heap.size w (w.alloc (.cells #[.int .i64 lo, .int .i64 hi] 35)) := (Below.refl _ w).alloc (Nat.le_refl _) _
  cases h1 : inB lo a b with
  | false =>
    have H := Lib.hid (show spanErr (lo, hi) a b = 7 by simp [spanErr, h1])
    go_enter Tryz.func87, Tryz.ntmps87
    go_wp2_with (go_at_call 53; refine (rin_any _ _ _ _).mono ?_; rintro e w' ⟨rfl, rfl⟩)
    go_ret
    exact ⟨ret_i64 H.out.symm, hb⟩
  | true =>
    cases h2 : inB hi a b with
    | false =>
      have H := Lib.hid (show spanErr (lo, hi) a b = 7 by simp [spanErr, h2])
      go_enter Tryz.func87, Tryz.ntmps87
      go_wp2_with (go_at_call 53; refine (rin_any _ _ _ _).mono ?_; rintro e w' ⟨rfl, rfl⟩)
      go_ret
      exact ⟨ret_i64 H.out.symm, hb⟩
    | true =>
      by_cases hlt : hi < lo
      · have H := Lib.hid (show spanErr (lo, hi) a b = 2 by simp [spanErr, h1, h2, hlt])
        go_enter Tryz.func87, Tryz.ntmps87
        go_wp2_with (go_at_call 53; refine (rin_any _ _ _ _).mono ?_; rintro e w' ⟨rfl, rfl⟩)
        go_ret
        exact ⟨ret_i64 H.out.symm, hb⟩
      · have H := Lib.hid (show spanErr (lo, hi) a b = 0 by simp [spanErr, h1, h2, hlt])
        go_enter Tryz.func87, Tryz.ntmps87
        go_wp2_with (go_at_call 53; refine (rin_any _ _ _ _).mono ?_; rintro e w' ⟨rfl, rfl⟩)
        go_ret
        exact ⟨ret_i64 H.out.symm, hb⟩
theorem spanErr_eq (x : Int × Int) : spanErr x 0 100000 = if beyondB x then 7 else if emptyB x then 2 else 0 := by
  have hb : (inB x.1 0 100000 = false ∨ inB x.2 0 100000 = false) ↔ beyondB x = true := by
    unfold beyondB
    rw [decide_eq_true_eq]
    have e1 : inB x.1 0 100000 = false ↔ ¬ (0 ≤ x.1 ∧ x.1 ≤ 100000) := by rw [← inB_iff]; simp
    have e2 : inB x.2 0 100000 = false ↔ ¬ (0 ≤ x.2 ∧ x.2 ≤ 100000) := by rw [← inB_iff]; simp
    rw [e1, e2]
    omega
  unfold spanErr
  by_cases h : beyondB x = true
  · rw [if_pos (hb.2 h), if_pos h]
  · rw [if_neg (fun e => h (hb.1 e)), if_neg h]
    by_cases h2 : x.2 < x.1
    · rw [if_pos h2, if_pos (by simp [emptyB, h2])]
    · rw [if_neg h2, if_neg (by simp [emptyB, h2])]
/-- The worst error of the first ranges. -/
def worstV (l : List (Int × Int)) : Int := if l.any emptyB then 2 else 0

set_option maxRecDepth 100000 in
set_option maxHeartbeats 2000000 in
theorem rranges_any {w : World} {A : Option Addr} {c : Nat} {l : List (Int × Int)} (np : Nat) (hs : SpansAt w w.heap.size A l) (hl : l.length ≤ 9223372036854775807) (hn : np ≤ 9223372036854775807) :
    Calls Tryz.prog 55 #[.slice A l.length c, .int .i64 np] w fun e w' => e = .returned (.int .i64 (rangesErr l np)) ∧ Below w.heap.size w w' := by
  by_cases hlen : np = l.length
  · subst hlen
    have H0 := Lib.hid (show rangesErr l l.length = if l.any beyondB then 7 else if l.any emptyB then 2 else 0 by simp [rangesErr])
    have HS := Lib.hid hs
    clear hs hn
    go_enter Tryz.func55, Tryz.ntmps55
    go_wp2_with fail
    go_loopw [5, 6] (fun v i wr => ∃ k : Nat, k ≤ l.length ∧ i = .int .i64 k ∧ ∃ z : Int, v = .int .i64 z ∧ Hid (z = worstV (l.take k)) ∧ Hid ((l.take k).any beyondB = false) ∧ Below w.heap.size w wr) (fun _ i _ => l.length - (intOf i).toNat)
    case atStart => exact ⟨0, by omega, rfl, 0, rfl, by show _ = _; simp [worstV], by show _ = _; simp, Below.refl _ _⟩
    case round =>
      obtain ⟨k, hk, rfl, z, rfl, HW, HB, hb⟩ := hrel
      by_cases hlt : k < l.length
      · obtain ⟨x, hx⟩ : ∃ x, l[k]? = some x := ⟨l[k], List.getElem?_eq_getElem hlt⟩
        obtain ⟨b, o, rfl, _, c1, c2⟩ := spans_at (RowAt.below HS.out hb (Nat.le_refl _)) hx
        have HX := Lib.hid hx
        have HE := Lib.hid (spanErr_eq x)
        clear hx
        go_wp2_with fail
        refine (rspan_any x 0 100000 _).mono ?_
        rintro e w1 ⟨rfl, hb1⟩
        have hbb := hb.trans (hb1.mono hb.size)
        rw [HE.out]
        cases h1 : beyondB x with
        | true =>
          have H := Lib.hid (show rangesErr l l.length = 7 by
            have h2 : l.any beyondB = true := List.any_eq_true.2 ⟨x, List.mem_of_getElem? HX.out, h1⟩
            rw [H0.out, if_pos h2])
          clear H0 HX HE HW HB hb hb1 c1 c2 h1
          simp only [if_true]
          go_wp2_with fail
          go_ret
          exact ⟨ret_i64 H.out.symm, hbb⟩
        | false =>
          have HB' : Hid ((l.take (k + 1)).any beyondB = false) := by
            show _ = _
            rw [any_take_step _ _ _ _ HX.out, HB.out, h1]; rfl
          cases h2 : emptyB x with
          | true =>
            have HW' : Hid ((2 : Int) = worstV (l.take (k + 1))) := by
              show _ = _
              unfold worstV
              rw [any_take_step _ _ _ _ HX.out, h2]; simp
            clear H0 HX HE HW HB hb hb1 c1 c2 h1 h2
            simp only [if_true, Bool.false_eq_true, if_false]
            go_wp2_with fail
            go_roundw
            case rel => exact ⟨k + 1, by omega, by go_num, 2, rfl, HW', HB', hbb⟩
            case measure => simp [intOf]; omega
          | false =>
            have HW' : Hid (z = worstV (l.take (k + 1))) := by
              show _ = _
              rw [HW.out]
              unfold worstV
              rw [any_take_step _ _ _ _ HX.out, h2, Bool.or_false]
            clear H0 HX HE HW HB hb hb1 c1 c2 h1 h2
            simp only [Bool.false_eq_true, if_false]
            go_wp2_with fail
            go_roundw
            case rel => exact ⟨k + 1, by omega, by go_num, z, rfl, HW', HB', hbb⟩
            case measure => simp [intOf]; omega
      · have H := Lib.hid (show rangesErr l l.length = z by
          have h1 := any_take_all _ _ k (by omega) HB.out
          have h2 := HW.out
          rw [show l.take k = l by rw [List.take_of_length_le (by omega)]] at h2
          rw [H0.out, h1, h2]; rfl)
        clear H0 HW HB
        go_wp2_with fail
        go_ret
        exact ⟨ret_i64 H.out.symm, hb⟩
  · have H := Lib.hid (show rangesErr l np = 3 by
      unfold rangesErr
      rw [if_pos (by omega)])
    have f1 : ((l.length : Int) != (np : Int)) = true := by
      have h : (l.length : Int) ≠ (np : Int) := fun e => hlen (by omega)
      simpa using h
    have f2 : (l.length != np) = true := by
      have h : l.length ≠ np := fun e => hlen e.symm
      simpa using h
    clear hlen
    go_enter Tryz.func55, Tryz.ntmps55
    go_wp2_with fail
    go_ret
    exact ⟨ret_i64 H.out.symm, Below.refl _ _⟩
end Go.Proofs.YtnpajncolkafgaaGreatDoor

namespace Go.Proofs.YtnpajncolkafgaaGreatDoor
open Go.RowKit Go.Shelf

theorem infoStr9 : (Tryz.prog.info? 9).map (fun i => (i.zero, i.size, i.bytes)) = some (some (.string ⟨#[]⟩), 1, 16) := by kernel_rfl
theorem StrsOut.reads {B n c : Nat} {w : World} {A : Option Addr} {l : List ByteArray} (h : StrsOut B w (.slice A n c) l) : n = l.length ∧ StrsAt w w.heap.size A l ∧ l.length ≤ c ∧ l.length ≤ maxLen :=
  own_rowAt (enc := encB) h (fun i x hi j hj => by
    obtain rfl : j = 0 := by omega
    rw [Nat.mul_one, Nat.add_zero, List.getElem?_map, hi]; rfl)
/-- Between two rounds of ref.Check. -/
structure CkI (w wr : World) (pa ka : Option Addr) (pc kc : Nat) (t : Tab) (v : Value) (l : List ByteArray) : Prop where
  own : StrsOut (w.heap.size + 1) wr v l
  box : Blk wr w.heap.size 25 #[.slice pa t.ps.length pc, .slice ka t.ks.length kc, .int .i64 t.pu]
  bel : Below w.heap.size w wr
  tab : TabIn wr pa ka pc kc t
theorem CkI.on {w wr wr' : World} {pa ka : Option Addr} {pc kc : Nat} {t : Tab} {v : Value} {l : List ByteArray} (h : CkI w wr pa ka pc kc t v l) (hb : Below wr.heap.size wr wr') : CkI w wr' pa ka pc kc t v l :=
  ⟨own_below h.own hb, h.box.on hb, h.bel.trans (hb.mono h.bel.size), h.tab.on hb⟩
theorem CkI.more {w wr w1 : World} {pa ka : Option Addr} {pc kc : Nat} {t : Tab} {v v1 : Value} {l : List ByteArray} {x : ByteArray} {o : Obj} (h : CkI w wr pa ka pc kc t v l)
    (hown : w1.ownsRow (w.heap.size + 1) 9 1 v1 (l.length + 1) (l.map Value.string ++ [.string x])) (hgrow : (wr.alloc o).grownBy w1 v.ownBlock) (h0 : TabIn w pa ka pc kc t) : CkI w w1 pa ka pc kc t v1 (l ++ [x]) := by
  have hb : Below w.heap.size w w1 := (h.bel.alloc h.bel.size o).grown hgrow (by have := h.bel.size; simp; omega) (fun r e => by have := (World.ownsRow.lt h.own r e).1; omega)
  refine ⟨?_, ?_, hb, h0.on hb⟩
  · show w1.ownsRow _ _ _ _ _ _
    simpa using hown
  · exact (hgrow.block _ (h.box.alloc o).lt (fun e => by have := (World.ownsRow.lt h.own _ e.symm).1; omega)).trans (h.box.alloc o)
theorem CkI.nil {w wr : World} {pa ka : Option Addr} {pc kc : Nat} {t : Tab} {v : Value} {l : List ByteArray} (h : CkI w wr pa ka pc kc t v l) : CkI w wr pa ka pc kc t (.slice none 0 0) [] := ⟨World.ownsRow_nil _ _ _ _, h.box, h.bel, h.tab⟩

theorem propErr_at {l : List Pr} {k : Nat} {x : Pr} (h : l[k]? = some x) : propErr l k = if nameErr ((l.take k).map Pr.nm) x.nm ≠ 0 then nameErr ((l.take k).map Pr.nm) x.nm else if inB x.er 0 10000 then 0 else 7 := by
  unfold propErr
  rw [h]
  simp only [inB_iff]
theorem kindErr_at {l : List Kd} {k : Nat} {x : Kd} {np : Int} (h : l[k]? = some x) : kindErr l np k = if nameErr ((l.take k).map Kd.nm) x.nm ≠ 0 then nameErr ((l.take k).map Kd.nm) x.nm else rangesErr x.rs np := by
  unfold kindErr
  rw [h]
theorem map_take_one {α β : Type} (f : α → β) {l : List α} {k : Nat} {x : α} (h : l[k]? = some x) : (l.take (k + 1)).map f = (l.take k).map f ++ [f x] := by
  rw [List.take_add_one, h]; simp
theorem counts_ok {t : Tab} (h : countsErr t = 0) : (1 ≤ t.ps.length ∧ t.ps.length ≤ 5) ∧ (1 ≤ t.ks.length ∧ t.ks.length ≤ 8) ∧ (1 ≤ t.pu ∧ t.pu ≤ 1000) := by
  unfold countsErr at h
  split at h
  · rename_i h1
    split at h
    · rename_i h2; exact ⟨h1.1, h1.2, h2⟩
    · simp at h
  · simp at h

theorem own_len {B k : Nat} {w : World} {v : Value} {l : List ByteArray} (h : StrsOut B w v l) (hl : l.length = k) : w.ownsRow B 9 1 v k (l.map Value.string) := by subst hl; exact h

set_option maxRecDepth 100000 in
set_option maxHeartbeats 4000000 in
theorem rcheck_ok {w : World} {pa ka : Option Addr} {pc kc : Nat} {t : Tab} (h : TabIn w pa ka pc kc t) (hc : countsErr t = 0) (R : Int × Int × Int) (hR : R = checkOf 0 (firstAt (propErr t.ps) t.ps.length) (firstAt (kindErr t.ks t.ps.length) t.ks.length)) :
    Calls Tryz.prog 17 #[.agg #[.slice pa t.ps.length pc, .slice ka t.ks.length kc, .int .i64 t.pu]] w fun e w' => e = .returned (.tuple #[.int .i64 R.1, .int .i64 R.2.1, .int .i64 R.2.2]) ∧ Below w.heap.size w w' := by
  obtain ⟨i0, hi0, hz0, hz1, hz2⟩ := info_parts infoStr9
  obtain ⟨⟨n1, n2⟩, ⟨m1, m2⟩, p1, p2⟩ := counts_ok hc
  have q1 : inB (t.ps.length : Int) 1 5 = true := inB_t (by omega) (by omega)
  have q2 : inB (t.ks.length : Int) 1 8 = true := inB_t (by omega) (by omega)
  have q3 : inB t.pu 1 1000 = true := inB_t p1 p2
  have HE := Lib.hid hR
  have H0 := Lib.hid h
  have hA := (Below.refl _ w).alloc (Nat.le_refl _) (.cells #[.slice pa t.ps.length pc, .slice ka t.ks.length kc, .int .i64 t.pu] 25)
  have HI : Hid (CkI w (w.alloc (.cells #[.slice pa t.ps.length pc, .slice ka t.ks.length kc, .int .i64 t.pu] 25)) pa ka pc kc t (.slice none 0 0) []) := ⟨World.ownsRow_nil _ _ _ _, Blk.new _ _ _, hA, h.on hA⟩
  clear hR h hc hA
  go_enter Tryz.func17, Tryz.ntmps17
  go_wp2_with (go_at_call 53; refine (rin_any _ _ _ _).mono ?_; rintro e w' ⟨rfl, rfl⟩)
  go_loopw [5, 6] (fun v i wr => ∃ k : Nat, k ≤ t.ps.length ∧ i = .int .i64 k ∧ Hid (CkI w wr pa ka pc kc t v ((t.ps.take k).map Pr.nm)) ∧ Hid (∀ i, i < k → propErr t.ps i = 0)) (fun _ i _ => t.ps.length - (intOf i).toNat)
  case atStart => exact ⟨0, by omega, rfl, HI, fun i hi => absurd hi (by omega)⟩
  case round =>
    obtain ⟨k, hk, rfl, HK, HN⟩ := hrel
    have hlen : ((t.ps.take k).map Pr.nm).length = k := by simp; omega
    obtain ⟨A, c, hv⟩ := own_slice HK.out.own
    rw [hlen] at hv
    subst hv
    obtain ⟨x0, x1, x2, _, _, _, _⟩ := HK.out.box.three
    have hbw := HK.out.bel
    by_cases hlt : k < t.ps.length
    · obtain ⟨x, hx⟩ : ∃ x, t.ps[k]? = some x := ⟨t.ps[k], List.getElem?_eq_getElem hlt⟩
      obtain ⟨b, o, rfl, _, c0, c1⟩ := props_at HK.out.tab.tab.ps hx
      have s2 := HK.out.own.reads.2.1
      have s4 := HK.out.own.reads.2.2.2
      have HX := Lib.hid hx
      have HP := Lib.hid (propErr_at hx)
      have hC := rnamed_any (c := c) x.nm (HK.out.tab.fit.1 x (List.mem_of_getElem? hx)) s2 (by unfold maxLen at s4; omega)
      rw [hlen] at hC
      have HC := Lib.hid hC
      have HO := Lib.hid HK.out.own
      have HL := Lib.hid hlen
      clear hx s2 s4 hC hlen
      go_wp2_with fail
      refine HC.out.mono ?_
      rintro e w1 ⟨rfl, he⟩
      obtain rfl : wr = w1 := he.symm
      clear HC
      generalize nameErr ((t.ps.take k).map Pr.nm) x.nm = z at *
      by_cases hz : z = 0
      · subst hz
        cases hin : inB x.er 0 10000 with
        | true =>
          have HZ := Lib.hid (show propErr t.ps k = 0 by rw [HP.out, hin]; simp)
          clear HP
          go_wp2_with (first
            | (go_at_call 53; refine (rin_any _ _ _ _).mono ?_; rintro e w' ⟨rfl, rfl⟩)
            | (at_builtin; go_must (refine wpList_append_lies _ rfl _ _ 94 rfl (w.heap.size + 1) 9 i0 (.string ⟨#[]⟩) 1 16 Tryz.underlying94 hi0 hz0 hz1 hz2 rfl (by decide) (.slice A k c) k (((t.ps.take k).map Pr.nm).map Value.string) rfl (World.ownsRow.alloc (own_len HO.out HL.out) _) _ 1 1 [.string x.nm] rfl rfl ?c1 ?c2 (by decide) ?c3 ?c4 ?c5 _ rfl ?_)))
          case c1 =>
            intro j u hj
            match j, hj with
            | 0, hj => simp at hj; subst hj; simp [Addr.add]
          case c2 => intro u hu; simp at hu; subst hu; rfl
          case c3 => unfold maxLen; omega
          case c4 => omega
          case c5 => have := hbw.size; have := HK.out.box.lt; simp; omega
          · intro g cap w2 hown hgrow hat hglt
            have HK' : Hid (CkI w w2 (some ⟨b, o, none⟩) ka pc kc t (.slice (some ⟨g, 0, none⟩) (k + 1) cap) ((t.ps.take (k + 1)).map Pr.nm)) := by
              show CkI _ _ _ _ _ _ _ _ _
              rw [map_take_one _ HX.out]
              exact HK.out.more (by rw [HL.out, show ((t.ps.take k).map Pr.nm).map Value.string = List.take k (List.map (Value.string ∘ Pr.nm) t.ps) by simp [List.map_take]]; exact hown) hgrow H0.out
            obtain ⟨x0, x1, x2, _, _, _, _⟩ := HK'.out.box.three
            clear hown hgrow hat hglt
            go_wp2_with fail
            go_roundw
            case rel => exact ⟨k + 1, by omega, by go_num, HK', fun i hi => by
              by_cases hik : i = k
              · subst hik; exact HZ.out
              · exact HN.out i (by omega)⟩
            case measure => simp [intOf]; omega
        | false =>
          have HR : Hid (R = (2, (k : Int), 7)) := by
            have hq : propErr t.ps k = 7 := by rw [HP.out, hin]; simp
            show R = _
            rw [HE.out, firstAt_hit (k := k) HN.out hlt (by rw [hq]; decide), hq, checkOf_2]
          clear HP
          go_wp2_with (go_at_call 53; refine (rin_any _ _ _ _).mono ?_; rintro e w' ⟨rfl, rfl⟩)
          go_ret3
          exact ⟨ret3 HR.out, hbw⟩
      · have hz1 : (z != 0) = true := by simpa using hz
        have hz2 : (z == 0) = false := by simpa using hz
        have HR : Hid (R = (2, (k : Int), z)) := by
          have hq : propErr t.ps k = z := by rw [HP.out, if_pos hz]
          show R = _
          rw [HE.out, firstAt_hit (k := k) HN.out hlt (by rw [hq]; exact hz), hq, checkOf_2]
        clear HP hz
        go_wp2_with (go_at_call 53; refine (rin_any _ _ _ _).mono ?_; rintro e w' ⟨rfl, rfl⟩)
        go_ret3
        exact ⟨ret3 HR.out, hbw⟩
    · have HE2 := Lib.hid (show R = checkOf 0 none (firstAt (kindErr t.ks t.ps.length) t.ks.length) by rw [HE.out, firstAt_none (fun i hi => HN.out i (by omega))])
      have HK0 := Lib.hid HK.out.nil
      clear HE HN
      go_wp2_with fail
      obtain ⟨wo, rfl⟩ : ∃ wo : World, wo = wr := ⟨_, rfl⟩
      clear x0 x1 x2 hbw HK
      go_loopw [5, 8] (fun v i wr => ∃ k : Nat, k ≤ t.ks.length ∧ i = .int .i64 k ∧ Hid (CkI w wr pa ka pc kc t v ((t.ks.take k).map Kd.nm)) ∧ Hid (∀ i, i < k → kindErr t.ks t.ps.length i = 0)) (fun _ i _ => t.ks.length - (intOf i).toNat)
      case atStart => exact ⟨0, by omega, rfl, HK0, fun i hi => absurd hi (by omega)⟩
      case round =>
        obtain ⟨m, hm, rfl, HK, HN⟩ := hrel
        have hlen : ((t.ks.take m).map Kd.nm).length = m := by simp; omega
        obtain ⟨A2, c2, hv⟩ := own_slice HK.out.own
        rw [hlen] at hv
        subst hv
        obtain ⟨x0, x1, x2, _, _, _, _⟩ := HK.out.box.three
        have hbw := HK.out.bel
        by_cases hlt2 : m < t.ks.length
        · obtain ⟨x, hx⟩ : ∃ x, t.ks[m]? = some x := ⟨t.ks[m], List.getElem?_eq_getElem hlt2⟩
          obtain ⟨b, o, rfl, _, c0, c1, hsp, hspl⟩ := kinds_at HK.out.tab.tab.ks hx
          have s2 := HK.out.own.reads.2.1
          have s4 := HK.out.own.reads.2.2.2
          have HX := Lib.hid hx
          have HP := Lib.hid (kindErr_at (np := (t.ps.length : Int)) hx)
          have hC := rnamed_any (c := c2) x.nm (HK.out.tab.fit.2 x (List.mem_of_getElem? hx)) s2 (by unfold maxLen at s4; omega)
          rw [hlen] at hC
          have HC := Lib.hid hC
          have HO := Lib.hid HK.out.own
          have HL := Lib.hid hlen
          have HRG := Lib.hid (fun (W : World) (hW : Below wr.heap.size wr W) => rranges_any (w := W) (c := x.cp) t.ps.length ((RowAt.below hsp hW (Nat.le_refl _)).mono hW.size) hspl (by omega))
          clear hx s2 s4 hC hlen hsp hspl
          go_wp2_with fail
          refine HC.out.mono ?_
          rintro e w1 ⟨rfl, he⟩
          subst he
          clear HC
          generalize nameErr ((t.ks.take m).map Kd.nm) x.nm = z at *
          by_cases hz : z = 0
          · subst hz
            go_wp2_with fail
            go_region_held3 (fun w' => w'.cell? ⟨w.heap.size, 0, none⟩ = some (.slice pa t.ps.length pc) ∧ w'.cell? ⟨w.heap.size, 1, none⟩ = some (.slice (some ⟨b, o, none⟩) t.ks.length kc) ∧ w'.cell? ⟨b, o + m * 2 + 1, none⟩ = some (.slice x.ad x.rs.length x.cp))
              (first | (simp [*]; done) | (simp [go_sem, *]; done) | (go_split_ands; exact ⟨hk3 _ _ x0, hk3 _ _ x1, hk3 _ _ c1⟩))
              ((go_at_call 55; refine (HRG.out _ ((Below.refl _ w1).drew)).mono ?_; rintro e w3 ⟨rfl, hb3⟩; have hk3 := kept_of hb3))
            have HK3 := Lib.hid (HK.out.on (show Below w1.heap.size w1 w3 from ((Below.refl _ w1).drew).trans hb3))
            have hbw3 := HK3.out.bel
            have HO3 := Lib.hid HK3.out.own
            have HX3 := Lib.hid (kinds_at HK3.out.tab.tab.ks HX.out)
            obtain ⟨x0, x1, x2, _, _, _, _⟩ := HK3.out.box.three
            have d0 : w3.cell? ⟨b, o + m * 2, none⟩ = some (.string x.nm) := hk3 ⟨b, o + m * 2, none⟩ _ c0
            clear hb3 hk3 HRG c0 c1 HO HX3
            generalize rangesErr x.rs (t.ps.length : Int) = q at *
            by_cases hq : q = 0
            · subst hq
              have HZ := Lib.hid (show kindErr t.ks t.ps.length m = 0 by rw [HP.out]; simp)
              clear HP
              go_wp2_with (at_builtin; refine wpList_append_lies _ rfl _ _ 94 rfl (w.heap.size + 1) 9 i0 (.string ⟨#[]⟩) 1 16 Tryz.underlying94 hi0 hz0 hz1 hz2 rfl (by decide) (.slice A2 m c2) m (((t.ks.take m).map Kd.nm).map Value.string) rfl (World.ownsRow.alloc (own_len HO3.out HL.out) _) _ 1 1 [.string x.nm] rfl rfl ?c1 ?c2 (by decide) ?c3 ?c4 ?c5 _ rfl ?_)
              case c1 =>
                intro j u hj
                match j, hj with
                | 0, hj => simp at hj; subst hj; simp [Addr.add]
              case c2 => intro u hu; simp at hu; subst hu; rfl
              case c3 => unfold maxLen; omega
              case c4 => omega
              case c5 => have := hbw3.size; have := HK3.out.box.lt; simp; omega
              · intro g cap w2 hown hgrow hat hglt
                have HK' : Hid (CkI w w2 pa (some ⟨b, o, none⟩) pc kc t (.slice (some ⟨g, 0, none⟩) (m + 1) cap) ((t.ks.take (m + 1)).map Kd.nm)) := by
                  show CkI _ _ _ _ _ _ _ _ _
                  rw [map_take_one _ HX.out]
                  exact HK3.out.more (by rw [HL.out, show ((t.ks.take m).map Kd.nm).map Value.string = List.take m (List.map (Value.string ∘ Kd.nm) t.ks) by simp [List.map_take]]; exact hown) hgrow H0.out
                obtain ⟨x0, x1, x2, _, _, _, _⟩ := HK'.out.box.three
                clear hown hgrow hat hglt
                go_wp2_with fail
                go_roundw
                case rel => exact ⟨m + 1, by omega, by go_num, HK', fun i hi => by
                  by_cases hik : i = m
                  · subst hik; exact HZ.out
                  · exact HN.out i (by omega)⟩
                case measure => simp [intOf]; omega
            · have hz1 : (q != 0) = true := by simpa using hq
              have HR : Hid (R = (3, (m : Int), q)) := by
                have hqq : kindErr t.ks t.ps.length m = q := by rw [HP.out, if_neg (by simp)]
                show R = _
                rw [HE2.out, firstAt_hit (k := m) HN.out hlt2 (by rw [hqq]; exact hq), hqq, checkOf_3]
              clear HP hq
              go_wp2_with fail
              go_ret3
              exact ⟨ret3 HR.out, hbw3⟩
          · have hz1 : (z != 0) = true := by simpa using hz
            have hz2 : (z == 0) = false := by simpa using hz
            have HR : Hid (R = (3, (m : Int), z)) := by
              have hq : kindErr t.ks t.ps.length m = z := by rw [HP.out, if_pos hz]
              show R = _
              rw [HE2.out, firstAt_hit (k := m) HN.out hlt2 (by rw [hq]; exact hz), hq, checkOf_3]
            clear HP hz HRG
            go_wp2_with fail
            go_ret3
            exact ⟨ret3 HR.out, hbw⟩
        · have HR := Lib.hid (show R = (0, 0, 0) by rw [HE2.out, firstAt_none (fun i hi => HN.out i (by omega)), checkOf_4])
          clear HN
          go_wp2_with fail
          go_ret3
          exact ⟨ret3 HR.out, hbw⟩

theorem counts_no {t : Tab} (h : countsErr t ≠ 0) : (inB (t.ps.length : Int) 1 5 = false ∧ countsErr t = 3) ∨ (inB (t.ps.length : Int) 1 5 = true ∧ inB (t.ks.length : Int) 1 8 = false ∧ countsErr t = 3) ∨ (inB (t.ps.length : Int) 1 5 = true ∧ inB (t.ks.length : Int) 1 8 = true ∧ inB t.pu 1 1000 = false ∧ countsErr t = 7) := by
  by_cases h1 : 1 ≤ t.ps.length ∧ t.ps.length ≤ 5
  · have q1 : inB (t.ps.length : Int) 1 5 = true := inB_t (by omega) (by omega)
    by_cases h2 : 1 ≤ t.ks.length ∧ t.ks.length ≤ 8
    · have q2 : inB (t.ks.length : Int) 1 8 = true := inB_t (by omega) (by omega)
      by_cases h3 : 1 ≤ t.pu ∧ t.pu ≤ 1000
      · exact absurd (by unfold countsErr; rw [if_pos ⟨h1, h2⟩, if_pos h3]) h
      · exact .inr (.inr ⟨q1, q2, inB_f h3, by unfold countsErr; rw [if_pos ⟨h1, h2⟩, if_neg h3]⟩)
    · exact .inr (.inl ⟨q1, inB_f (by omega), by unfold countsErr; rw [if_neg (fun e => h2 e.2)]⟩)
  · exact .inl ⟨inB_f (by omega), by unfold countsErr; rw [if_neg (fun e => h1 e.1)]⟩
set_option maxRecDepth 100000 in
set_option maxHeartbeats 1000000 in
theorem rcheck_any {w : World} {pa ka : Option Addr} {pc kc : Nat} {t : Tab} (h : TabIn w pa ka pc kc t) :
    Calls Tryz.prog 17 #[.agg #[.slice pa t.ps.length pc, .slice ka t.ks.length kc, .int .i64 t.pu]] w fun e w' => e = .returned (.tuple #[.int .i64 (checkT t).1, .int .i64 (checkT t).2.1, .int .i64 (checkT t).2.2]) ∧ Below w.heap.size w w' := by
  by_cases hc : countsErr t = 0
  · exact rcheck_ok h hc _ (by rw [checkT_eq, hc])
  · have hp := h.tab.lp
    have hk := h.tab.lk
    have hA := (Below.refl _ w).alloc (Nat.le_refl _) (.cells #[.slice pa t.ps.length pc, .slice ka t.ks.length kc, .int .i64 t.pu] 25)
    have hR : checkT t = (1, 0, countsErr t) := by rw [checkT_eq, checkOf_1 _ _ _ hc]
    rw [hR]
    rcases counts_no hc with ⟨q1, hq⟩ | ⟨q1, q2, hq⟩ | ⟨q1, q2, q3, hq⟩
    all_goals
      rw [hq]
      clear hR hc hq h
      go_enter Tryz.func17, Tryz.ntmps17
      go_wp2_with (go_at_call 53; refine (rin_any _ _ _ _).mono ?_; rintro e w' ⟨rfl, rfl⟩)
      go_ret3
      exact ⟨rfl, hA⟩
end Go.Proofs.YtnpajncolkafgaaGreatDoor

namespace Go.Proofs.YtnpajncolkafgaaGreatDoor
open Go.ChangeShapes Go.WideShapes Go.RowKit Go.Deep Go.Joins

theorem plain_of {w : World} {a : Addr} {v : Value} (h : w.cell? a = some v) : a = ⟨a.block, a.off, none⟩ := by
  obtain ⟨b, o, s⟩ := a
  have hs : s = none := by simpa using World.cell?_spot h
  subst hs
  rfl
section
variable {H : Type} {enc : TypeId × Value → H} {W W' : World}

theorem open_rows {α : Type} [Inhabited α] {t e : TypeId} {sz fuel : Nat} {c0 : Value} {x : DataW H × List MemPlace} {en : α → Nat → Value} {Q : α → Prop} (ht : Tryz.prog.underlying t = some (.slice e)) (hsz : Tryz.prog.cellsOf e = sz) (hpos : 0 < sz)
    (h : DataW.trod enc Tryz.prog W 0 (fun _ => true) true fuel t [c0] = some x)
    (hel : ∀ (n : Nat) (cs : List Value) (y : DataW H × List MemPlace), cs.length = sz → DataW.trod enc Tryz.prog W 0 (fun _ => true) true n e cs = some y → ∃ z : α, (∀ j, j < sz → cs[j]? = some (en z j)) ∧ Q z) :
    ∃ (A : Option Addr) (l : List α) (c : Nat), c0 = .slice A l.length c ∧ RowAt sz en W W.heap.size A l ∧ l.length ≤ c ∧ l.length ≤ maxLen ∧ ∀ z ∈ l, Q z := by
  rcases open_slice ht h with ⟨hcs, _⟩ | ⟨a, len, cap, m, n, D, Pl, hcs, _, hl, hm, hmm, _, hx⟩
  · simp only [List.cons.injEq, and_true] at hcs
    subst hcs
    exact ⟨none, [], 0, rfl, RowAt.nil, by simp, by simp, fun z hz => by simp at hz⟩
  · simp only [List.cons.injEq, and_true] at hcs
    subst hcs
    have hmc : m = cap := by rw [hmm]; simp
    obtain ⟨f, hf⟩ := choose_lt (α := α) (n := len) (p := fun i z => (∀ j, j < sz → W.cell? (a.add (i * sz + j)) = some (en z j)) ∧ Q z) (fun i hi => by
      obtain ⟨cs, h1, h2⟩ := hx i (by omega)
      rw [hsz] at h1
      obtain ⟨_, hlen, hc⟩ := World.cells?_some h1
      obtain ⟨z, hz, hq⟩ := hel n cs _ hlen h2
      refine ⟨z, fun j hj => ?_, hq⟩
      have h3 := hc j hj
      rw [add_add] at h3
      rw [h3]
      exact hz j hj)
    refine ⟨some a, (List.range len).map f, cap, by simp, fun hp => ?_, by simpa using hl, by simp; omega, fun z hz => ?_⟩
    · have hlen0 : 0 < len := by simpa using hp
      have hc0 := (hf 0 hlen0).1 0 hpos
      have hpl : a = ⟨a.block, a.off, none⟩ := by
        have h0 : W.cell? a = some (en (f 0) 0) := by simpa [Addr.add] using hc0
        exact plain_of h0
      refine ⟨a.block, a.off, by rw [← hpl], ?_, fun i z hi j hj => ?_⟩
      · rcases Nat.lt_or_ge a.block W.heap.size with h' | h'
        · exact h'
        · rw [hpl] at hc0
          simp only [Nat.zero_mul, Nat.add_zero, Addr.add, World.cell?] at hc0
          rw [Array.getElem?_eq_none (by simpa using h')] at hc0
          cases hc0
      · rw [List.getElem?_map] at hi
        obtain ⟨i', hi', rfl⟩ := Option.map_eq_some_iff.1 hi
        obtain ⟨hlt, hii⟩ := List.getElem?_eq_some_iff.1 hi'
        simp at hlt hii
        subst hii
        have h3 := (hf i hlt).1 j hj
        rw [hpl, add_plain] at h3
        rw [Nat.add_assoc]
        exact h3
    · obtain ⟨i, hi, rfl⟩ := List.mem_map.1 hz
      exact (hf i (by simpa using hi)).2

instance : Inhabited Pr := ⟨⟨⟨#[]⟩, 0⟩⟩
instance : Inhabited Kd := ⟨⟨⟨#[]⟩, none, 0, []⟩⟩
theorem el_int (n : Nat) (cs : List Value) (y : DataW H × List MemPlace) (_ : cs.length = 1) (h : DataW.trod enc Tryz.prog W 0 (fun _ => true) true n 3 cs = some y) : ∃ z : Int, (∀ j, j < 1 → cs[j]? = some (encI z j)) ∧ (Lit.int .i64 z).wf = true := by
  obtain ⟨z, rfl, _, hw⟩ := DataW.trod_int Tryz.underlying3 h
  exact ⟨z, fun j hj => by obtain rfl : j = 0 := by omega
                           rfl, hw⟩
set_option maxRecDepth 100000 in
theorem el_span (n : Nat) (cs : List Value) (y : DataW H × List MemPlace) (hl : cs.length = 2) (h : DataW.trod enc Tryz.prog W 0 (fun _ => true) true n 35 cs = some y) : ∃ z : Int × Int, (∀ j, j < 2 → cs[j]? = some (encS z j)) ∧ True := by
  obtain ⟨y0, y1, m, _, _, h0, h1⟩ := trod_struct2 Tryz.underlying35 h
  match cs, hl with
  | [u0, u1], _ =>
    obtain ⟨a, ea, _⟩ := DataW.trod_int Tryz.underlying3 (show DataW.trod enc Tryz.prog W 0 (fun _ => true) true m 3 [u0] = some y0 from h0)
    obtain ⟨b, eb, _⟩ := DataW.trod_int Tryz.underlying3 (show DataW.trod enc Tryz.prog W 0 (fun _ => true) true m 3 [u1] = some y1 from h1)
    simp only [List.cons.injEq, and_true] at ea eb
    subst ea; subst eb
    exact ⟨(a, b), fun j hj => by match j, hj with
      | 0, _ => rfl
      | 1, _ => rfl, trivial⟩
set_option maxRecDepth 100000 in
theorem el_prop (n : Nat) (cs : List Value) (y : DataW H × List MemPlace) (hl : cs.length = 2) (h : DataW.trod enc Tryz.prog W 0 (fun _ => true) true n 79 cs = some y) : ∃ z : Pr, (∀ j, j < 2 → cs[j]? = some (encP z j)) ∧ z.nm.size ≤ maxLen := by
  obtain ⟨y0, y1, m, _, _, h0, h1⟩ := trod_struct2 Tryz.underlying79 h
  match cs, hl with
  | [u0, u1], _ =>
    obtain ⟨a, ea, _, hs⟩ := DataW.trod_string Tryz.underlying9 (show DataW.trod enc Tryz.prog W 0 (fun _ => true) true m 9 [u0] = some y0 from h0)
    obtain ⟨b, eb, _⟩ := DataW.trod_int Tryz.underlying3 (show DataW.trod enc Tryz.prog W 0 (fun _ => true) true m 3 [u1] = some y1 from h1)
    simp only [List.cons.injEq, and_true] at ea eb
    subst ea; subst eb
    exact ⟨⟨a, b⟩, fun j hj => by match j, hj with
      | 0, _ => rfl
      | 1, _ => rfl, hs⟩
theorem c_int : Tryz.prog.cellsOf 3 = 1 := by kernel_rfl
theorem c_span : Tryz.prog.cellsOf 35 = 2 := by kernel_rfl
theorem c_prop : Tryz.prog.cellsOf 79 = 2 := by kernel_rfl
theorem c_kind : Tryz.prog.cellsOf 77 = 2 := by kernel_rfl
theorem c_tab : Tryz.prog.cellsOf 25 = 3 := by kernel_rfl
set_option maxRecDepth 100000 in
theorem el_kind (n : Nat) (cs : List Value) (y : DataW H × List MemPlace) (hl : cs.length = 2) (h : DataW.trod enc Tryz.prog W 0 (fun _ => true) true n 77 cs = some y) : ∃ z : Kd, (∀ j, j < 2 → cs[j]? = some (encK z j)) ∧ (z.nm.size ≤ maxLen ∧ SpansAt W W.heap.size z.ad z.rs ∧ z.rs.length ≤ maxLen ∧ z.rs.length ≤ z.cp) := by
  obtain ⟨y0, y1, m, _, _, h0, h1⟩ := trod_struct2 Tryz.underlying77 h
  match cs, hl with
  | [u0, u1], _ =>
    obtain ⟨a, ea, _, hs⟩ := DataW.trod_string Tryz.underlying9 (show DataW.trod enc Tryz.prog W 0 (fun _ => true) true m 9 [u0] = some y0 from h0)
    obtain ⟨A, l, c, eb, hr, hc, hm, _⟩ := open_rows (α := Int × Int) (en := encS) Tryz.underlying75 c_span (by omega) (show DataW.trod enc Tryz.prog W 0 (fun _ => true) true m 75 [u1] = some y1 from h1) el_span
    simp only [List.cons.injEq, and_true] at ea
    subst ea; subst eb
    exact ⟨⟨a, A, c, l⟩, fun j hj => by match j, hj with
      | 0, _ => rfl
      | 1, _ => rfl, hs, hr, hm, hc⟩
set_option maxRecDepth 100000 in
/-- A list of ints that came in. -/
theorem open_ints_in {v : Value} {d : DataW H} {p : List MemPlace} (h : DataW.Trod enc Tryz.prog W 0 (fun _ => true) true 32 v d p) (hv : ∃ A l c, v = .slice A l c) : ∃ A l c, v = .slice A l.length c ∧ IntsIn W A l ∧ ∀ z ∈ l, (Lit.int .i64 z).wf = true := by
  obtain ⟨A0, l0, c0, rfl⟩ := hv
  obtain ⟨fuel, hf⟩ := h
  obtain ⟨A, l, c, e, hr, hc, hm, hq⟩ := open_rows (α := Int) (en := encI) Tryz.underlying32 c_int (by omega) (show DataW.trod enc Tryz.prog W 0 (fun _ => true) true fuel 32 [.slice A0 l0 c0] = some (d, p) by simpa [Value.cells] using hf) el_int
  exact ⟨A, l, c, e, ⟨hr, by unfold maxLen at hm; omega⟩, hq⟩
set_option maxRecDepth 100000 in
/-- A table that came in. -/
theorem open_table {v : Value} {d : DataW H} {p : List MemPlace} {b0 : Nat} (hv : Value.okWide Tryz.prog W .any b0 25 v) (h : DataW.Trod enc Tryz.prog W 0 (fun _ => true) true 25 v d p) :
    ∃ pa pc ka kc t, v = .agg #[.slice pa t.ps.length pc, .slice ka t.ks.length kc, .int .i64 t.pu] ∧ TabIn W pa ka pc kc t := by
  obtain ⟨v0, v1, v2, y0, y1, y2, n, rfl, _, _, h0, h1, h2⟩ := open_agg3 Tryz.underlying25 (by kernel_rfl) c_tab hv h
  obtain ⟨pa, ps, pc, rfl, hp, hpc, hpm, hpq⟩ := open_rows (α := Pr) (en := encP) Tryz.underlying22 c_prop (by omega) h0 el_prop
  obtain ⟨ka, ks, kc, rfl, hk, hkc, hkm, hkq⟩ := open_rows (α := Kd) (en := encK) Tryz.underlying23 c_kind (by omega) h1 el_kind
  obtain ⟨z, ez, _⟩ := DataW.trod_int Tryz.underlying3 h2
  simp only [List.cons.injEq, and_true] at ez
  subst ez
  unfold maxLen at hpm hkm hpq hkq
  refine ⟨pa, pc, ka, kc, ⟨ps, ks, z⟩, rfl, ⟨hp, ⟨hk, fun k hkk => ⟨(hkq k hkk).2.1, by have := (hkq k hkk).2.2.1; omega⟩⟩, by show ps.length ≤ _; omega, by show ks.length ≤ _; omega⟩, hpc, hkc, fun p hpp => by have := hpq p hpp; omega, fun k hkk => by have := (hkq k hkk).1; omega⟩
set_option maxRecDepth 100000 in
theorem laidOut : laidOutB Tryz.prog = true := by kernel_rfl
/-- The arguments read on as they did. -/
theorem trodAll_below {P : Program} (hl : laidOutB P = true) (hb : Below W.heap.size W W') (ts : List TypeId) : ∀ (vs : List Value) (ds : List (DataW H)) (ps : List MemPlace), (ts.all fun t => P.readableRec t && decide (t < P.types.size)) = true →
    DataW.TrodAll enc P W 0 (fun _ => true) true ts vs ds ps → (∀ x ∈ ps, x.block < W.heap.size) → DataW.TrodAll enc P W' 0 (fun b => decide (b < W.heap.size)) true ts vs ds ps := by
  induction ts with
  | nil =>
    intro vs ds ps _ h _
    obtain ⟨rfl, rfl, rfl⟩ := trodAll_nil h
    exact trodAll_mk0
  | cons t ts ih =>
    intro vs ds ps ht h hlt
    obtain ⟨v, vs', d, ds', p, q, rfl, rfl, rfl, h1, h2⟩ := trodAll_cons h
    simp only [List.all_cons, Bool.and_eq_true, decide_eq_true_eq] at ht
    exact trodAll_cons_mk (Below.trod hl ht.1.1 ht.1.2 h1 hb (fun x hx => hlt x (by simp [hx]))) (ih vs' ds' q ht.2 h2 (fun x hx => hlt x (by simp [hx])))
end
end Go.Proofs.YtnpajncolkafgaaGreatDoor

namespace Go.Proofs.YtnpajncolkafgaaGreatDoor
open Go.RowKit Go.Shelf

theorem mul_in {n z : Int} (hn : 0 ≤ n ∧ n ≤ 1000) (hz : 0 ≤ z ∧ z ≤ 100000) : 0 ≤ n * z ∧ n * z ≤ 100000000 := by
  refine ⟨Int.mul_nonneg hn.1 hz.1, ?_⟩
  have h := Int.mul_le_mul hn.2 hz.2 hz.1 (by omega)
  omega

set_option maxRecDepth 100000 in
set_option maxHeartbeats 2000000 in
theorem rvalue_any {w : World} {pa ka : Option Addr} {pc kc : Nat} {t : Tab} (h : TabIn w pa ka pc kc t) (k a b : Nat) (n : Int) {xa xb : Kd} {sa sb : Int × Int} (hxa : t.ks[a]? = some xa) (hxb : t.ks[b]? = some xb) (hsa : xa.rs[k]? = some sa) (hsb : xb.rs[k]? = some sb)
    (hn : 0 ≤ n ∧ n ≤ 1000) (ha1 : 0 ≤ sa.1 ∧ sa.1 ≤ 100000) (ha2 : 0 ≤ sa.2 ∧ sa.2 ≤ 100000) (hb1 : 0 ≤ sb.1 ∧ sb.1 ≤ 100000) (hb2 : 0 ≤ sb.2 ∧ sb.2 ≤ 100000) :
    Calls Tryz.prog 47 #[.agg #[.slice pa t.ps.length pc, .slice ka t.ks.length kc, .int .i64 t.pu], .int .i64 k, .int .i64 a, .int .i64 b, .int .i64 n] w fun e w' => e = .returned (.agg #[.int .i64 (n * sa.1 + (1000 - n) * sb.1), .int .i64 (n * sa.2 + (1000 - n) * sb.2)]) ∧ Below w.heap.size w w' := by
  have hlk := h.tab.lk
  have hlp := h.tab.lp
  have hW := (((Below.refl _ w).alloc (Nat.le_refl _) (.cells #[.slice pa t.ps.length pc, .slice ka t.ks.length kc, .int .i64 t.pu] 25))).alloc (by simp) (.cells #[.int .i64 0, .int .i64 0] 35)
  have X := (Blk.new w 25 #[.slice pa t.ps.length pc, .slice ka t.ks.length kc, .int .i64 t.pu]).alloc (.cells #[.int .i64 0, .int .i64 0] 35)
  have Y := Blk.new1 w 35 #[.int .i64 0, .int .i64 0] (.cells #[.slice pa t.ps.length pc, .slice ka t.ks.length kc, .int .i64 t.pu] 25)
  have hT := h.on hW
  have HA := Lib.hid (List.getElem?_eq_some_iff.1 hxa).1
  have HB := Lib.hid (List.getElem?_eq_some_iff.1 hxb).1
  have hka := (List.getElem?_eq_some_iff.1 hxa).1
  have hkb := (List.getElem?_eq_some_iff.1 hxb).1
  have i1 := (List.getElem?_eq_some_iff.1 hsa).1
  have i2 := (List.getElem?_eq_some_iff.1 hsb).1
  have m1 := mul_in hn ha1
  have m2 := mul_in hn ha2
  have m3 := mul_in (n := 1000 - n) (by omega) hb1
  have m4 := mul_in (n := 1000 - n) (by omega) hb2
  have q0 : IntKind.i64.wrap (1000 - n) = 1000 - n := IntWalk.i64_in _ (by omega)
  have q1 : IntKind.i64.wrap (n * sa.1) = n * sa.1 := IntWalk.i64_in _ (by omega)
  have q2 : IntKind.i64.wrap (n * sa.2) = n * sa.2 := IntWalk.i64_in _ (by omega)
  have q3 : IntKind.i64.wrap ((1000 - n) * sb.1) = (1000 - n) * sb.1 := IntWalk.i64_in _ (by omega)
  have q4 : IntKind.i64.wrap ((1000 - n) * sb.2) = (1000 - n) * sb.2 := IntWalk.i64_in _ (by omega)
  have q5 : IntKind.i64.wrap (n * sa.1 + (1000 - n) * sb.1) = n * sa.1 + (1000 - n) * sb.1 := IntWalk.i64_in _ (by omega)
  have q6 : IntKind.i64.wrap (n * sa.2 + (1000 - n) * sb.2) = n * sa.2 + (1000 - n) * sb.2 := IntWalk.i64_in _ (by omega)
  clear h
  go_enter Tryz.func47, Tryz.ntmps47
  go_upto_region 1 with (fail)
  generalize (w.alloc (.cells #[.slice pa t.ps.length pc, .slice ka t.ks.length kc, .int .i64 t.pu] 25)).alloc (.cells #[.int .i64 0, .int .i64 0] 35) = wr at *
  obtain ⟨kb, ko, rfl, hkB, _, ka2, hra, ha3⟩ := kinds_at hT.tab.ks hxa
  obtain ⟨kb', ko', ek, hkB', _, kb2, hrb, hb3⟩ := kinds_at hT.tab.ks hxb
  obtain ⟨ab, ao, ea, haB, a1, a2⟩ := spans_at hra hsa
  obtain ⟨bb, bo, eb, hbB, b1, b2⟩ := spans_at hrb hsb
  cases ek
  rw [ea] at ka2
  rw [eb] at kb2
  obtain ⟨x0, x1, x2, _, _, _, hXl⟩ := X.three
  obtain ⟨y0, y1, fy0, fy1, hYl⟩ := Y.two
  have HY := Lib.hid Y
  have HXA := Lib.hid (And.intro hxa hxb)
  have HSA := Lib.hid (And.intro hsa hsb)
  have HRA := Lib.hid (And.intro hra hrb)
  have EA := Lib.hid (And.intro ea eb)
  have HT := Lib.hid hT
  clear hxa hxb hsa hsb hra hrb ea eb hT X Y
  go_cut [11, 12] (fun s11 s12 wx => ∃ X Y : Nat, s11 = .pointer (some ⟨X, 0, none⟩) ∧ s12 = .pointer (some ⟨Y, 0, none⟩) ∧ wx.cell? ⟨X, 0, none⟩ = some (.int .i64 sa.1) ∧ wx.cell? ⟨X, 1, none⟩ = some (.int .i64 sa.2) ∧ wx.cell? ⟨Y, 0, none⟩ = some (.int .i64 sb.1) ∧ wx.cell? ⟨Y, 1, none⟩ = some (.int .i64 sb.2) ∧ Below wr.heap.size wr wx)
  case first =>
    go_region_held3 (fun w' => w'.cell? ⟨w.heap.size, 1, none⟩ = some (.slice (some ⟨kb, ko, none⟩) t.ks.length kc) ∧ w'.cell? ⟨kb, ko + a * 2 + 1, none⟩ = some (.slice (some ⟨ab, ao, none⟩) xa.rs.length xa.cp) ∧ w'.cell? ⟨kb, ko + b * 2 + 1, none⟩ = some (.slice (some ⟨bb, bo, none⟩) xb.rs.length xb.cp) ∧
      w'.cell? ⟨ab, ao + k * 2, none⟩ = some (.int .i64 sa.1) ∧ w'.cell? ⟨ab, ao + k * 2 + 1, none⟩ = some (.int .i64 sa.2) ∧ w'.cell? ⟨bb, bo + k * 2, none⟩ = some (.int .i64 sb.1) ∧ w'.cell? ⟨bb, bo + k * 2 + 1, none⟩ = some (.int .i64 sb.2))
      (first | (simp [*]; done) | (simp [go_sem, *]; done)) (first | fail)
    · go_wp2_with fail
      go_meet
      exact ⟨wr.heap.size, wr.heap.size + 1, rfl, rfl, by simp, by simp, by simp, by simp, (((Below.refl _ wr).alloc (Nat.le_refl _) _).alloc (by simp) _).drew⟩
    · go_wp2_with fail
      go_meet
      exact ⟨wr.heap.size + 1, wr.heap.size, rfl, rfl, by simp, by simp, by simp, by simp, (((Below.refl _ wr).alloc (Nat.le_refl _) _).alloc (by simp) _).drew⟩
  case rest =>
    obtain ⟨X, Y, rfl, rfl, x0', x1', y0', y1', hbx⟩ := hcut
    have Y2 := HY.out.on hbx
    have hbw := hW.trans (hbx.mono hW.size)
    clear y0 y1 x0 x1 x2 a1 a2 b1 b2 ka2 kb2
    obtain ⟨z0, z1, fy0, fy1, hYl⟩ := Y2.two
    go_wp2_with fail
    refine bodyPost_ret (v := .agg #[.int .i64 (n * sa.1 + (1000 - n) * sb.1), .int .i64 (n * sa.2 + (1000 - n) * sb.2)]) ?_ rfl ⟨rfl, ?_⟩
    · simp [results, Tryz.results47, go_sem, z0, z1]
    · exact (hbw.setCell (by simp) _).setCell (by simp) _
end Go.Proofs.YtnpajncolkafgaaGreatDoor

namespace Go.Proofs.YtnpajncolkafgaaGreatDoor

/-- One property of n parts of y, the others of x, and of x alone: may both be read alike? -/
def comB (x y : Int × Int) (er n : Int) : Bool :=
  decide (max (n * y.1 + (1000 - n) * x.1 - 1000 * er) (1000 * x.1 - 1000 * er) ≤ min (n * y.2 + (1000 - n) * x.2 + 1000 * er) (1000 * x.2 + 1000 * er))

theorem mul_sub_one (n x y : Int) : n * y + (1000 - n) * x = n * (y - x) + 1000 * x := by
  rw [Int.sub_mul, Int.mul_sub]; omega
theorem com_found {x y : Int × Int} {er n : Int} (hx : 0 ≤ x.1 ∧ x.1 ≤ x.2) (hy : 0 ≤ y.1 ∧ y.1 ≤ y.2) (he : 0 ≤ er) (hn : 1 ≤ n ∧ n ≤ 1000) : comB x y er n = decide (n < foundV x y er) := by
  unfold comB foundV
  rw [decide_eq_decide]
  have h1 := mul_sub_one n x.1 y.1
  have h2 := mul_sub_one n x.2 y.2
  have h3 : n * y.1 ≤ n * y.2 := Int.mul_le_mul_of_nonneg_left hy.2 (by omega)
  have h4 : (1000 - n) * x.1 ≤ (1000 - n) * x.2 := Int.mul_le_mul_of_nonneg_left hx.2 (by omega)
  have h5 : n * (y.2 - x.2) = -(n * (x.2 - y.2)) := by rw [← Int.mul_neg]; congr 1; omega
  have hg : n * max (y.1 - x.1) (x.2 - y.2) = max (n * (y.1 - x.1)) (n * (x.2 - y.2)) := by
    by_cases hm : y.1 - x.1 ≤ x.2 - y.2
    · rw [Int.max_eq_right hm, Int.max_eq_right (Int.mul_le_mul_of_nonneg_left hm (by omega))]
    · rw [Int.max_eq_left (by omega), Int.max_eq_left (Int.mul_le_mul_of_nonneg_left (by omega) (by omega))]
  generalize max (y.1 - x.1) (x.2 - y.2) = g at *
  generalize n * (y.1 - x.1) = A at *
  generalize n * (x.2 - y.2) = B at *
  generalize n * (y.2 - x.2) = B' at *
  generalize n * y.1 = C at *
  generalize n * y.2 = D at *
  generalize (1000 - n) * x.1 = E at *
  generalize (1000 - n) * x.2 = F at *
  have key : (max (C + E - 1000 * er) (1000 * x.1 - 1000 * er) ≤ min (D + F + 1000 * er) (1000 * x.2 + 1000 * er)) ↔ n * g ≤ 1000 * (x.2 - x.1 + 2 * er) := by
    rw [hg]
    omega
  rw [key]
  by_cases h0 : g ≤ 0
  · rw [if_pos h0]
    have := Int.mul_le_mul_of_nonneg_left h0 (show 0 ≤ n by omega)
    rw [Int.mul_zero] at this
    constructor
    · intro _; omega
    · intro _; omega
  · rw [if_neg h0]
    have := Int.le_ediv_iff_mul_le (a := n) (b := 1000 * (x.2 - x.1 + 2 * er)) (c := g) (by omega)
    rw [← this]
    omega
theorem foundV_pos (x y : Int × Int) (er : Int) (hx : x.1 ≤ x.2) (he : 0 ≤ er) : 1 ≤ foundV x y er := by
  unfold foundV
  split
  · omega
  · have := Int.ediv_nonneg (a := 1000 * (x.2 - x.1 + 2 * er)) (b := max (y.1 - x.1) (x.2 - y.2)) (by omega) (by omega)
    omega
theorem leastK_pos (ps : List Pr) (xa xb : List (Int × Int)) (ha : ∀ r ∈ xa, r.1 ≤ r.2) (hp : ∀ p ∈ ps, 0 ≤ p.er) : ∀ k, 1 ≤ leastK ps xa xb k
  | 0 => by simp [leastK]
  | k + 1 => by
    rw [leastK_succ]
    have h := leastK_pos ps xa xb ha hp k
    have h2 : 1 ≤ foundAt ps xa xb k := by
      unfold foundAt
      split
      · next h1 h2 h3 => exact foundV_pos _ _ _ (ha _ (List.mem_of_getElem? h1)) (hp _ (List.mem_of_getElem? h3))
      · omega
    omega
/-- One property more. -/
theorem com_step {ps : List Pr} {xa xb : List (Int × Int)} {k : Nat} {x y : Int × Int} {p : Pr} {n : Int} (h1 : xa[k]? = some x) (h2 : xb[k]? = some y) (h3 : ps[k]? = some p) (hx : 0 ≤ x.1 ∧ x.1 ≤ x.2) (hy : 0 ≤ y.1 ∧ y.1 ≤ y.2) (he : 0 ≤ p.er) (hn : 1 ≤ n ∧ n ≤ 1000) :
    decide (n < leastK ps xa xb (k + 1)) = (decide (n < leastK ps xa xb k) && comB x y p.er n) := by
  rw [com_found hx hy he hn, leastK_succ, ← Bool.decide_and, decide_eq_decide]
  unfold foundAt
  rw [h1, h2, h3]
  dsimp only
  omega
end Go.Proofs.YtnpajncolkafgaaGreatDoor

namespace Go.Proofs.YtnpajncolkafgaaGreatDoor
open Go.RowKit Go.Shelf

def badB (n : Int) : Bool := decide (n ≠ -1 ∧ ¬ (0 ≤ n ∧ n ≤ 100000))
theorem badB_one : badB (-1) = false := rfl
theorem badB_in {n : Int} (h : n ≠ -1) : badB n = !inB n 0 100000 := by
  unfold badB
  rw [Bool.eq_iff_iff, decide_eq_true_eq, Bool.not_eq_true', ← Bool.not_eq_true, inB_iff]
  exact ⟨fun h => h.2, fun g => ⟨h, g⟩⟩
theorem lookErr_1 {t : Tab} {l : List Int} (h : (checkT t).2.2 ≠ 0) : lookErr t l = (checkT t).2.2 := by unfold lookErr; rw [if_pos h]
theorem lookErr_2 {t : Tab} {l : List Int} (h : (checkT t).2.2 = 0) (hl : l.length ≠ t.ps.length) : lookErr t l = 3 := by
  unfold lookErr readsErr
  rw [if_neg (by simpa using h), if_pos (by omega)]
theorem lookErr_3 {t : Tab} {l : List Int} (h : (checkT t).2.2 = 0) (hl : l.length = t.ps.length) : lookErr t l = if l.any badB then 7 else 0 := by
  unfold lookErr readsErr badB
  rw [if_neg (by simpa using h), if_neg (by omega)]

/-- Between two rounds of Readings. -/
def ReadI (t : Tab) (l : List Int) (k : Nat) (z : Int) : Prop := (z = 0 ∧ (l.take k).any badB = false) ∨ (z = 7 ∧ lookErr t l = 7)

set_option maxRecDepth 100000 in
set_option maxHeartbeats 2000000 in
theorem rreadings_any {w : World} {pa ka ra : Option Addr} {pc kc rc : Nat} {t : Tab} {l : List Int} (h : RdIn w pa ka ra pc kc t l) :
    Calls Tryz.prog 44 #[.agg #[.slice pa t.ps.length pc, .slice ka t.ks.length kc, .int .i64 t.pu], .slice ra l.length rc] w fun e w' => e = .returned (.int .i64 (lookErr t l)) ∧ Below w.heap.size w w' := by
  have hp := h.tab.tab.lp
  have hk := h.tab.tab.lk
  have hl := h.rds.len
  have hA := (Below.refl _ w).alloc (Nat.le_refl _) (.cells #[.slice pa t.ps.length pc, .slice ka t.ks.length kc, .int .i64 t.pu] 25)
  have HA := Lib.hid hA
  have H1 := rcheck_any (h.tab.on hA)
  have X0 := Lib.hid (Blk.new w 25 #[.slice pa t.ps.length pc, .slice ka t.ks.length kc, .int .i64 t.pu])
  have HR := Lib.hid h.rds
  clear h hA
  by_cases h0 : (checkT t).2.2 = 0
  · by_cases h3 : l.length = t.ps.length
    · have H0 := Lib.hid (lookErr_3 h0 h3)
      rw [h0] at H1
      generalize (checkT t).1 = c1 at H1
      generalize (checkT t).2.1 = c2 at H1
      have H1 := Lib.hid H1
      have f1 : ((l.length : Int) != (t.ps.length : Int)) = false := by
        have h : (l.length : Int) = (t.ps.length : Int) := by omega
        simpa using h
      have f2 : (l.length != t.ps.length) = false := by simpa using h3
      clear h3 h0
      go_enter Tryz.func44, Tryz.ntmps44
      go_wp2_with fail
      refine H1.out.mono ?_
      rintro e w1 ⟨rfl, hb⟩
      have X1 := Lib.hid (X0.out.on hb)
      have HW1 := Lib.hid (HA.out.trans (hb.mono (by simp)))
      obtain ⟨x0, x1, x2, _, _, _, _⟩ := X1.out.three
      clear hb
      go_wp2_with fail
      go_loopw [7, 8] (fun v i wr => ∃ k : Nat, k ≤ l.length ∧ i = .int .i64 k ∧ ∃ z : Int, v = .int .i64 z ∧ ReadI t l k z ∧ Below w.heap.size w wr) (fun _ i _ => l.length - (intOf i).toNat)
      case atStart => exact ⟨0, by omega, rfl, 0, rfl, by left; exact ⟨rfl, by simp⟩, HW1.out⟩
      case round =>
        obtain ⟨k, hk, rfl, z, rfl, HZ, hb⟩ := hrel
        rcases HZ with ⟨rfl, hT⟩ | ⟨rfl, h7⟩
        · have HT := Lib.hid hT
          clear hT
          by_cases hlt : k < l.length
          · obtain ⟨x, hx⟩ : ∃ x, l[k]? = some x := ⟨l[k], List.getElem?_eq_getElem hlt⟩
            obtain ⟨b1, o1, rfl, _, hc1⟩ := ints_at (RowAt.below HR.out.at_ hb (Nat.le_refl _)) hx
            have HX := Lib.hid hx
            clear hx x0 x1 x2
            cases hbad : badB x with
            | false =>
              have HT' : ReadI t l (k + 1) 0 := by
                left
                refine ⟨rfl, ?_⟩
                rw [any_take_step _ _ _ _ HX.out, HT.out, hbad]; rfl
              by_cases hx1 : x = -1
              · subst hx1
                clear HT HX hbad
                go_wp2_with (go_at_call 53; refine (rin_any _ _ _ _).mono ?_; rintro e w' ⟨rfl, rfl⟩)
                go_roundw
                case rel => exact ⟨k + 1, by omega, by go_num, 0, rfl, HT', hb⟩
                case measure => simp [intOf]; omega
              · have hne : (x != -1) = true := by simpa using hx1
                have hin : inB x 0 100000 = true := by
                  have h := badB_in hx1
                  rw [hbad] at h
                  simpa using h.symm
                clear HT HX hbad
                go_wp2_with (go_at_call 53; refine (rin_any _ _ _ _).mono ?_; rintro e w' ⟨rfl, rfl⟩)
                go_roundw
                case rel => exact ⟨k + 1, by omega, by go_num, 0, rfl, HT', hb⟩
                case measure => simp [intOf]; omega
            | true =>
              have hx1 : x ≠ -1 := by rintro rfl; rw [badB_one] at hbad; cases hbad
              have hne : (x != -1) = true := by simpa using hx1
              have hin : inB x 0 100000 = false := by
                have h := badB_in hx1
                rw [hbad] at h
                simpa using h.symm
              have HT' : ReadI t l (k + 1) 7 := by
                right
                refine ⟨rfl, ?_⟩
                rw [H0.out, if_pos (List.any_eq_true.2 ⟨x, List.mem_of_getElem? HX.out, hbad⟩)]
              clear HT HX hbad
              go_wp2_with (go_at_call 53; refine (rin_any _ _ _ _).mono ?_; rintro e w' ⟨rfl, rfl⟩)
              go_roundw
              case rel => exact ⟨k + 1, by omega, by go_num, 7, rfl, HT', hb⟩
              case measure => simp [intOf]; omega
          · have H := Lib.hid (show lookErr t l = 0 by
              have h := HT.out
              rw [List.take_of_length_le (by omega)] at h
              rw [H0.out, h]; rfl)
            clear H0 HT
            go_wp2_with fail
            go_ret
            exact ⟨ret_i64 H.out.symm, hb⟩
        · have H := Lib.hid h7
          clear H0 h7
          by_cases hlt : k < l.length
          · go_wp2_with fail
            go_ret
            exact ⟨ret_i64 H.out.symm, hb⟩
          · go_wp2_with fail
            go_ret
            exact ⟨ret_i64 H.out.symm, hb⟩
    · have f1 : ((l.length : Int) != (t.ps.length : Int)) = true := by
        have h : (l.length : Int) ≠ (t.ps.length : Int) := fun e => h3 (by omega)
        simpa using h
      have f2 : (l.length != t.ps.length) = true := by simpa using h3
      rw [lookErr_2 h0 h3]
      rw [h0] at H1
      generalize (checkT t).1 = c1 at H1
      generalize (checkT t).2.1 = c2 at H1
      have H1 := Lib.hid H1
      clear h3 h0
      go_enter Tryz.func44, Tryz.ntmps44
      go_wp2_with fail
      refine H1.out.mono ?_
      rintro e w1 ⟨rfl, hb⟩
      have X1 := Lib.hid (X0.out.on hb)
      have HW1 := Lib.hid (HA.out.trans (hb.mono (by simp)))
      obtain ⟨x0, x1, x2, _, _, _, _⟩ := X1.out.three
      clear hb
      go_wp2_with fail
      go_loopw [7, 8] (fun v i wr => v = .int .i64 3 ∧ i = .int .i64 0 ∧ Below w.heap.size w wr) (fun _ _ _ => 0)
      case atStart => exact ⟨rfl, rfl, HW1.out⟩
      case round =>
        obtain ⟨rfl, rfl, hb⟩ := hrel
        by_cases hlt : 0 < l.length
        · go_wp2_with fail
          go_ret
          exact ⟨rfl, hb⟩
        · go_wp2_with fail
          go_ret
          exact ⟨rfl, hb⟩
  · rw [lookErr_1 h0]
    generalize (checkT t).1 = c1 at H1
    generalize (checkT t).2.1 = c2 at H1
    generalize (checkT t).2.2 = z at *
    have H1 := Lib.hid H1
    have hz1 : (z == 0) = false := by simpa using h0
    clear h0
    go_enter Tryz.func44, Tryz.ntmps44
    go_wp2_with fail
    refine H1.out.mono ?_
    rintro e w1 ⟨rfl, hb⟩
    have X1 := Lib.hid (X0.out.on hb)
    have HW1 := Lib.hid (HA.out.trans (hb.mono (by simp)))
    obtain ⟨x0, x1, x2, _, _, _, _⟩ := X1.out.three
    clear hb
    go_wp2_with fail
    go_loopw [7, 8] (fun v i wr => v = .int .i64 z ∧ i = .int .i64 0 ∧ Below w.heap.size w wr) (fun _ _ _ => 0)
    case atStart => exact ⟨rfl, rfl, HW1.out⟩
    case round =>
      obtain ⟨rfl, rfl, hb⟩ := hrel
      by_cases hlt : 0 < l.length
      · go_wp2_with fail
        go_ret
        exact ⟨rfl, hb⟩
      · go_wp2_with fail
        go_ret
        exact ⟨rfl, hb⟩
end Go.Proofs.YtnpajncolkafgaaGreatDoor

namespace Go.Proofs.YtnpajncolkafgaaGreatDoor
open Go.RowKit Go.Shelf

set_option maxHeartbeats 1000000 in
theorem bit_any (k : Nat) (hk : k ≤ 8) (w : World) :
    Calls Tryz.prog 42 #[.int .i64 k] w fun e w' => e = .returned (.int .i64 ((2 ^ k : Nat) : Int)) ∧ w' = w := by
  go_enter Tryz.func42, Tryz.ntmps42
  go_wp2_with fail
  go_loopw [3, 4] (fun v i wr => ∃ j p : Nat, j ≤ k ∧ i = .int .i64 j ∧ v = .int .i64 p ∧ p ≤ 256 ∧ Hid (p = 2 ^ j) ∧ wr = w) (fun _ i _ => k - (intOf i).toNat)
  case atStart => exact ⟨0, 1, by omega, rfl, rfl, by omega, by show _ = _; simp, rfl⟩
  case round =>
    obtain ⟨j, p, hj, rfl, rfl, hp, HP, rfl⟩ := hrel
    by_cases hlt : j < k
    · have HP' : Hid (2 * p = 2 ^ (j + 1)) := by
        show _ = _
        rw [HP.out, Nat.pow_succ]; omega
      have hp' : 2 * p ≤ 256 := by
        rw [HP'.out]
        exact Nat.le_trans (Nat.pow_le_pow_right (by omega) (show j + 1 ≤ 8 by omega)) (by decide)
      clear HP
      go_wp2_with fail
      go_roundw
      case rel => exact ⟨j + 1, 2 * p, by omega, by go_num, by go_num, hp', HP', trivial⟩
      case measure => simp [intOf]; omega
    · have H := Lib.hid (show (p : Int) = ((2 ^ k : Nat) : Int) by
        rw [HP.out, show j = k by omega])
      clear HP
      go_wp2_with fail
      go_ret
      exact ⟨ret_i64 H.out, rfl⟩

set_option maxHeartbeats 1000000 in
theorem lin_any {w : World} {A : Option Addr} {c : Nat} {l : List Int} (n : Int) (hl : IntsIn w A l) :
    Calls Tryz.prog 43 #[.slice A l.length c, .int .i64 n] w fun e w' => e = .returned (.bool (decide (n ∈ l))) ∧ w' = w := by
  have hll := hl.len
  go_enter Tryz.func43, Tryz.ntmps43
  go_wp2_with fail
  go_loopw [5] (fun i wr => ∃ k : Nat, k ≤ l.length ∧ i = .int .i64 k ∧ Hid (n ∉ l.take k) ∧ wr = w) (fun i _ => l.length - (intOf i).toNat)
  case atStart => exact ⟨0, by omega, rfl, by show ¬ _; simp, rfl⟩
  case round =>
    obtain ⟨k, hk, rfl, HT, rfl⟩ := hrel
    by_cases hlt : k < l.length
    · obtain ⟨x, hx⟩ : ∃ x, l[k]? = some x := ⟨l[k], List.getElem?_eq_getElem hlt⟩
      obtain ⟨b1, o1, rfl, _, hc1⟩ := ints_at hl.at_ hx
      have HX := Lib.hid hx
      clear hx
      by_cases hxy : x = n
      · have H := Lib.hid (show decide (n ∈ l) = true by
          rw [decide_eq_true_eq, ← hxy]
          exact List.mem_of_getElem? HX.out)
        have he : (x == n) = true := by simpa using hxy
        clear HT HX
        go_wp2_with fail
        go_ret
        exact ⟨ret_bool H.out.symm, rfl⟩
      · have he : (x == n) = false := by simpa using hxy
        have HT' : Hid (n ∉ l.take (k + 1)) := by
          show ¬ _
          rw [List.take_add_one, HX.out]
          intro h
          rcases List.mem_append.1 h with h | h
          · exact HT.out h
          · simp at h
            exact hxy h.symm
        clear HT HX hxy
        go_wp2_with fail
        go_roundw
        case rel => exact ⟨k + 1, by omega, by go_num, HT', trivial⟩
        case measure => simp [intOf]; omega
    · have H := Lib.hid (show decide (n ∈ l) = false by
        rw [decide_eq_false_iff_not]
        have h := HT.out
        rwa [List.take_of_length_le (by omega)] at h)
      clear HT
      go_wp2_with fail
      go_ret
      exact ⟨ret_bool H.out.symm, rfl⟩
end Go.Proofs.YtnpajncolkafgaaGreatDoor

namespace Go.Proofs.YtnpajncolkafgaaGreatDoor

theorem applyB_mem (f l : Int) (p : Int × Int) (n : Int) : ((applyB f l p).1 ≤ n ∧ n ≤ (applyB f l p).2) ↔ ((p.1 ≤ n ∧ n ≤ p.2) ∧ f * n ≤ l) := by
  unfold applyB
  by_cases h : 0 < f
  · rw [if_pos h]
    have := Int.le_ediv_iff_mul_le (a := n) (b := l) h
    rw [Int.mul_comm] at this
    simp only
    omega
  · rw [if_neg h]
    by_cases h2 : f < 0
    · rw [if_pos h2]
      have := Int.le_ediv_iff_mul_le (a := -n) (b := l) (show 0 < -f by omega)
      rw [Int.neg_mul_neg, Int.mul_comm] at this
      simp only
      omega
    · rw [if_neg h2]
      have hf : f = 0 := by omega
      subst hf
      rw [Int.zero_mul]
      by_cases h3 : l < 0
      · rw [if_pos h3]; simp only; omega
      · rw [if_neg h3]; omega
theorem tightL_mem (bs : List (Int × Int)) : ∀ (p : Int × Int) (n : Int), ((tightL bs p).1 ≤ n ∧ n ≤ (tightL bs p).2) ↔ ((p.1 ≤ n ∧ n ≤ p.2) ∧ ∀ b ∈ bs, b.1 * n ≤ b.2) := by
  induction bs with
  | nil => intro p n; simp [tightL]
  | cons b bs ih =>
    intro p n
    have h : tightL (b :: bs) p = tightL bs (applyB b.1 b.2 p) := rfl
    rw [h, ih, applyB_mem]
    simp only [List.forall_mem_cons, and_assoc]

/-- Whether a mixture with n parts of a explains reading i. -/
def explAt (ps : List Pr) (xa xb : List (Int × Int)) (l : List Int) (n : Int) (i : Nat) : Bool :=
  match l[i]?, xa[i]?, xb[i]?, ps[i]? with
  | some r, some x, some y, some p => decide (r = -1 ∨ (n * x.1 + (1000 - n) * y.1 ≤ 1000 * (r + p.er) ∧ 1000 * (r - p.er) ≤ n * x.2 + (1000 - n) * y.2))
  | _, _, _, _ => true
def explB (t : Tab) (l : List Int) (a b : Nat) (n : Int) : Bool := (List.range l.length).all (explAt t.ps ((t.ks[a]?.map Kd.rs).getD []) ((t.ks[b]?.map Kd.rs).getD []) l n)
theorem explAt_iff (ps : List Pr) (xa xb : List (Int × Int)) (l : List Int) (n : Int) (i : Nat) : explAt ps xa xb l n i = true ↔ ∀ b ∈ boundsAt ps xa xb l i, b.1 * n ≤ b.2 := by
  unfold explAt boundsAt
  cases l[i]? with
  | none => simp
  | some r =>
    cases xa[i]? with
    | none => simp
    | some x =>
      cases xb[i]? with
      | none => simp
      | some y =>
        cases ps[i]? with
        | none => simp
        | some p =>
          simp only
          by_cases h : r = -1
          · rw [if_pos h]; simp [h]
          · rw [if_neg h]
            simp only [bound2, List.forall_mem_cons, decide_eq_true_eq, h, false_or]
            have e1 : (x.1 - y.1) * n = n * x.1 - n * y.1 := by rw [Int.mul_comm, Int.mul_sub]
            have e2 : (y.2 - x.2) * n = n * y.2 - n * x.2 := by rw [Int.mul_comm, Int.mul_sub]
            have e3 : (1000 - n) * y.1 = 1000 * y.1 - n * y.1 := by rw [Int.sub_mul]
            have e4 : (1000 - n) * y.2 = 1000 * y.2 - n * y.2 := by rw [Int.sub_mul]
            rw [e1, e2, e3, e4]
            constructor
            · rintro ⟨h1, h2⟩
              exact ⟨by omega, by omega, by simp⟩
            · rintro ⟨h1, h2, _⟩
              exact ⟨by omega, by omega⟩
theorem explB_iff (t : Tab) (l : List Int) (a b : Nat) (n : Int) : explB t l a b n = true ↔ ∀ x ∈ bnds t l a b, x.1 * n ≤ x.2 := by
  unfold explB bnds boundsK
  rw [List.all_eq_true]
  constructor
  · intro h x hx
    rw [List.mem_flatMap] at hx
    obtain ⟨i, hi, hx⟩ := hx
    exact (explAt_iff _ _ _ _ _ _).1 (h i hi) x hx
  · intro h i hi
    exact (explAt_iff _ _ _ _ _ _).2 fun x hx => h x (List.mem_flatMap.2 ⟨i, hi, hx⟩)
/-- What is left of a range of parts are those that explain the readings. -/
theorem tight_expl (t : Tab) (l : List Int) (a b : Nat) (p : Int × Int) (n : Int) : ((tightL (bnds t l a b) p).1 ≤ n ∧ n ≤ (tightL (bnds t l a b) p).2) ↔ ((p.1 ≤ n ∧ n ≤ p.2) ∧ explB t l a b n = true) := by
  rw [tightL_mem, explB_iff]
end Go.Proofs.YtnpajncolkafgaaGreatDoor

namespace Go.Proofs.YtnpajncolkafgaaGreatDoor

/-- What is found ahead of n, where just L to H hold. -/
def hullS (L H n : Int) : (Int × Int) × Bool := if L ≤ H ∧ L < n then ((L, min H (n - 1)), true) else ((0, 0), false)
theorem hull_start {L H low : Int} (hb : L ≤ H → low ≤ L) : hullS L H low = ((0, 0), false) := by
  unfold hullS
  rw [if_neg]
  rintro ⟨h1, h2⟩
  have := hb h1
  omega
theorem hull_out {L H n : Int} (hp : ¬ (L ≤ n ∧ n ≤ H)) : hullS L H (n + 1) = hullS L H n := by
  unfold hullS
  by_cases h1 : L ≤ H ∧ L < n
  · rw [if_pos h1, if_pos ⟨h1.1, by omega⟩]
    rw [show min H (n + 1 - 1) = min H (n - 1) by omega]
  · rw [if_neg h1, if_neg (by omega)]
theorem hull_first {L H n : Int} (hp : L ≤ n ∧ n ≤ H) (hf : (hullS L H n).2 = false) : (hullS L H n).1 = (0, 0) ∧ hullS L H (n + 1) = ((n, n), true) := by
  unfold hullS at *
  by_cases h1 : L ≤ H ∧ L < n
  · rw [if_pos h1] at hf; cases hf
  · rw [if_neg h1, if_pos (by omega)]
    refine ⟨rfl, ?_⟩
    rw [show L = n by omega, show min H (n + 1 - 1) = n by omega]
theorem hull_more {L H n : Int} (hp : L ≤ n ∧ n ≤ H) (hf : (hullS L H n).2 = true) : hullS L H (n + 1) = (((hullS L H n).1.1, n), true) := by
  unfold hullS at *
  by_cases h1 : L ≤ H ∧ L < n
  · rw [if_pos h1, if_pos (by omega), show min H (n + 1 - 1) = n by omega]
  · rw [if_neg h1] at hf; cases hf
theorem hull_end {L H high : Int} (hb : L ≤ H → H ≤ high) : hullS L H (high + 1) = if L ≤ H then ((L, H), true) else ((0, 0), false) := by
  unfold hullS
  by_cases h1 : L ≤ H
  · have := hb h1
    rw [if_pos ⟨h1, by omega⟩, if_pos h1, show min H (high + 1 - 1) = H by omega]
  · rw [if_neg (by omega), if_neg h1]
/-- What ref.Parts returns. -/
def partsR (t : Tab) (l : List Int) (a b : Nat) (low high : Int) : (Int × Int) × Bool :=
  if (tightL (bnds t l a b) (low, high)).1 ≤ (tightL (bnds t l a b) (low, high)).2 then (tightL (bnds t l a b) (low, high), true) else ((0, 0), false)
theorem tight_in (t : Tab) (l : List Int) (a b : Nat) (low high : Int) : (tightL (bnds t l a b) (low, high)).1 ≤ (tightL (bnds t l a b) (low, high)).2 → low ≤ (tightL (bnds t l a b) (low, high)).1 ∧ (tightL (bnds t l a b) (low, high)).2 ≤ high := by
  intro h
  have h1 := (tight_expl t l a b (low, high) (tightL (bnds t l a b) (low, high)).1).1 ⟨by omega, h⟩
  have h2 := (tight_expl t l a b (low, high) (tightL (bnds t l a b) (low, high)).2).1 ⟨h, by omega⟩
  exact ⟨h1.1.1, h2.1.2⟩
theorem tight_at (t : Tab) (l : List Int) (a b : Nat) {low high n : Int} (hn : low ≤ n ∧ n ≤ high) : explB t l a b n = true ↔ ((tightL (bnds t l a b) (low, high)).1 ≤ n ∧ n ≤ (tightL (bnds t l a b) (low, high)).2) :=
  ⟨fun h => (tight_expl t l a b (low, high) n).2 ⟨hn, h⟩, fun h => ((tight_expl t l a b (low, high) n).1 h).2⟩

/-- One property tells: beyond pure alone. -/
theorem told_found {x y : Int × Int} {er n : Int} (hx : 0 ≤ x.1 ∧ x.1 ≤ x.2) (hy : 0 ≤ y.1 ∧ y.1 ≤ y.2) (he : 0 ≤ er) (hn : 1 ≤ n ∧ n ≤ 1000) :
    (1000 * (x.2 + er) < n * y.1 + (1000 - n) * x.1 - 1000 * er ∨ n * y.2 + (1000 - n) * x.2 + 1000 * er < 1000 * (x.1 - er)) ↔ foundV x y er ≤ n := by
  have h := com_found hx hy he hn
  unfold comB at h
  rw [decide_eq_decide] at h
  have h3 : n * y.1 ≤ n * y.2 := Int.mul_le_mul_of_nonneg_left hy.2 (by omega)
  have h4 : (1000 - n) * x.1 ≤ (1000 - n) * x.2 := Int.mul_le_mul_of_nonneg_left hx.2 (by omega)
  have h5 : foundV x y er ≤ n ↔ ¬ n < foundV x y er := by omega
  rw [h5, ← h]
  generalize n * y.1 = C at *
  generalize n * y.2 = D at *
  generalize (1000 - n) * x.1 = E at *
  generalize (1000 - n) * x.2 = F at *
  omega
/-- The least of the parts ahead of n that are told. -/
theorem least_step {ps : List Pr} {xa xb : List (Int × Int)} {k : Nat} {x y : Int × Int} {p : Pr} (h1 : xa[k]? = some x) (h2 : xb[k]? = some y) (h3 : ps[k]? = some p) (n : Int) : leastK ps xa xb (k + 1) ≤ n ↔ leastK ps xa xb k ≤ n ∨ foundV x y p.er ≤ n := by
  rw [leastK_succ]
  unfold foundAt
  rw [h1, h2, h3]
  dsimp only
  omega
theorem least_mono (ps : List Pr) (xa xb : List (Int × Int)) (k : Nat) : ∀ m, leastK ps xa xb (k + m) ≤ leastK ps xa xb k
  | 0 => Int.le_refl _
  | m + 1 => by
    have := least_mono ps xa xb k m
    rw [show k + (m + 1) = k + m + 1 by omega, leastK_succ]
    omega
end Go.Proofs.YtnpajncolkafgaaGreatDoor

namespace Go.Proofs.YtnpajncolkafgaaGreatDoor
open Go.RowKit Go.Shelf

/-- What holds through the rounds. -/
structure ExI (w : World) (tc : Array Value) (W : World) : Prop where
  tb : Blk W w.heap.size 25 tc
  b : Below w.heap.size w W
theorem ExI.on {w W W' : World} {tc : Array Value} (h : ExI w tc W) (hb : Below W.heap.size W W') : ExI w tc W' := ⟨h.tb.on hb, h.b.trans (hb.mono h.b.size)⟩

/-- The readings ahead of i. -/
def explV (t : Tab) (l : List Int) (xa xb : List (Int × Int)) (n : Int) (i : Nat) : Bool := (List.range i).all (explAt t.ps xa xb l n)
theorem explV_succ {t : Tab} {l : List Int} {xa xb : List (Int × Int)} {n : Int} {i : Nat} {r : Int} {x y : Int × Int} {p : Pr} (hr : l[i]? = some r) (hx : xa[i]? = some x) (hy : xb[i]? = some y) (hp : t.ps[i]? = some p) :
    explV t l xa xb n (i + 1) = (explV t l xa xb n i && decide (r = -1 ∨ (n * x.1 + (1000 - n) * y.1 ≤ 1000 * (r + p.er) ∧ 1000 * (r - p.er) ≤ n * x.2 + (1000 - n) * y.2))) := by
  unfold explV
  rw [List.range_succ, List.all_append]
  simp [explAt, hr, hx, hy, hp]
theorem explV_all {t : Tab} {l : List Int} {xa xb : List (Int × Int)} {n : Int} {i : Nat} (hi : i < l.length) (h : explV t l xa xb n (i + 1) = false) : explV t l xa xb n l.length = false := by
  unfold explV at *
  rw [List.all_eq_false] at *
  obtain ⟨x, hx, h2⟩ := h
  exact ⟨x, List.mem_range.2 (by have := List.mem_range.1 hx; omega), h2⟩

set_option maxRecDepth 100000 in
set_option maxHeartbeats 4000000 in
theorem rexplains_any {w : World} {pa ka ra : Option Addr} {pc kc rc : Nat} {t : Tab} {l : List Int} (h : SamIn w pa ka ra pc kc t l) (a b : Nat) (ha : a < t.ks.length) (hb : b < t.ks.length) (n : Int) (hn : 0 ≤ n ∧ n ≤ 1000) :
    Calls Tryz.prog 41 #[.agg #[.slice pa t.ps.length pc, .slice ka t.ks.length kc, .int .i64 t.pu], .slice ra l.length rc, .int .i64 a, .int .i64 b, .int .i64 n] w fun e w' => e = .returned (.bool (explB t l a b n)) ∧ Below w.heap.size w w' := by
  have hp := h.tab.tab.lp
  have hk := h.tab.tab.lk
  have hl := h.rds.len
  obtain ⟨xa, hxa⟩ : ∃ x, t.ks[a]? = some x := ⟨t.ks[a], List.getElem?_eq_getElem ha⟩
  obtain ⟨xb, hxb⟩ : ∃ x, t.ks[b]? = some x := ⟨t.ks[b], List.getElem?_eq_getElem hb⟩
  have HE := Lib.hid (show explB t l a b n = explV t l xa.rs xb.rs n l.length by unfold explB explV; rw [hxa, hxb]; rfl)
  have HXA := Lib.hid (And.intro hxa hxb)
  have hln : l.length = t.ps.length := by have := reads_len h.rok; omega
  have HLN := Lib.hid (And.intro hln (And.intro (h.val.rl xa (List.mem_of_getElem? hxa)) (h.val.rl xb (List.mem_of_getElem? hxb))))
  have HRS := Lib.hid (And.intro (h.val.rs xa (List.mem_of_getElem? hxa)) (And.intro (h.val.rs xb (List.mem_of_getElem? hxb)) h.val.er))
  have HRD := Lib.hid (reads_ok h.rok)
  have I0 : ExI w #[.slice pa t.ps.length pc, .slice ka t.ks.length kc, .int .i64 t.pu] (w.alloc (.cells #[.slice pa t.ps.length pc, .slice ka t.ks.length kc, .int .i64 t.pu] 25)) := ⟨Blk.new w _ _, (Below.refl _ w).alloc (Nat.le_refl _) _⟩
  have HI := Lib.hid I0
  have HT := Lib.hid h
  clear h I0 hxa hxb hln
  go_enter Tryz.func41, Tryz.ntmps41
  go_wp2_with fail
  go_loopw [11] (fun i wr => ∃ p : Nat, p ≤ l.length ∧ i = .int .i64 p ∧ Hid (explV t l xa.rs xb.rs n p = true) ∧ ExI w #[.slice pa t.ps.length pc, .slice ka t.ks.length kc, .int .i64 t.pu] wr) (fun i _ => l.length - (intOf i).toNat)
  case atStart => exact ⟨0, by omega, rfl, by show _ = _; rfl, HI.out⟩
  case round =>
    obtain ⟨p, hpl, rfl, HV, hI⟩ := hrel
    obtain ⟨x0, x1, x2, _, _, _, hxl⟩ := hI.tb.three
    by_cases hlt : p < l.length
    · obtain ⟨r, hr⟩ : ∃ x, l[p]? = some x := ⟨l[p], List.getElem?_eq_getElem hlt⟩
      obtain ⟨sa, hsa⟩ : ∃ x, xa.rs[p]? = some x := ⟨xa.rs[p]'(by rw [HLN.out.2.1, ← HLN.out.1]; exact hlt), List.getElem?_eq_getElem _⟩
      obtain ⟨sb, hsb⟩ : ∃ x, xb.rs[p]? = some x := ⟨xb.rs[p]'(by rw [HLN.out.2.2, ← HLN.out.1]; exact hlt), List.getElem?_eq_getElem _⟩
      obtain ⟨q, hq⟩ : ∃ x, t.ps[p]? = some x := ⟨t.ps[p]'(by rw [← HLN.out.1]; exact hlt), List.getElem?_eq_getElem _⟩
      have hT := HT.out.on hI.b
      have ga := HRS.out.1 sa (List.mem_of_getElem? hsa)
      have gb := HRS.out.2.1 sb (List.mem_of_getElem? hsb)
      have ge := HRS.out.2.2 q (List.mem_of_getElem? hq)
      have gr := HRD.out r (List.mem_of_getElem? hr)
      have hstep := explV_succ (n := n) hr hsa hsb hq
      rw [HV.out, Bool.true_and] at hstep
      obtain ⟨rb, ro, rfl, hrB, c0⟩ := ints_at hT.rds.at_ hr
      obtain ⟨pb, po, rfl, hpB, _, c3⟩ := props_at hT.tab.tab.ps hq
      have hpt : p < t.ps.length := by rw [← HLN.out.1]; exact hlt
      by_cases hr1 : r = -1
      · subst hr1
        have HS := Lib.hid (show explV t l xa.rs xb.rs n (p + 1) = true by rw [hstep]; simp)
        clear hstep hr hsa hsb hq hT
        go_wp2_with fail
        go_roundw
        case rel => exact ⟨p + 1, by omega, by go_num, HS, hI⟩
        case measure => simp [intOf]; omega
      · have hne : (r == -1) = false := by simpa using hr1
        have hvl := fun (W : World) (hW : Below w.heap.size w W) => rvalue_any (HT.out.on hW).tab p a b n HXA.out.1 HXA.out.2 hsa hsb hn (by omega) (by omega) (by omega) (by omega)
        have b1 := mul_in (n := n) (z := sa.1) (by omega) (by omega)
        have b2 := mul_in (n := n) (z := sa.2) (by omega) (by omega)
        have b3 := mul_in (n := 1000 - n) (z := sb.1) (by omega) (by omega)
        have b4 := mul_in (n := 1000 - n) (z := sb.2) (by omega) (by omega)
        have b5 : 0 ≤ n * sa.1 + (1000 - n) * sb.1 ∧ n * sa.1 + (1000 - n) * sb.1 ≤ 200000000 := by omega
        have b6 : 0 ≤ n * sa.2 + (1000 - n) * sb.2 ∧ n * sa.2 + (1000 - n) * sb.2 ≤ 200000000 := by omega
        clear b1 b2 b3 b4
        generalize n * sa.1 + (1000 - n) * sb.1 = V1 at *
        generalize n * sa.2 + (1000 - n) * sb.2 = V2 at *
        have hstep2 : explV t l xa.rs xb.rs n (p + 1) = (decide (V1 ≤ 1000 * (r + q.er)) && decide (1000 * (r - q.er) ≤ V2)) := by
          rw [hstep, ← Bool.decide_and]; simp [hr1]
        have HVL := Lib.hid hvl
        have HS := Lib.hid hstep2
        have k1 : IntKind.i64.wrap (r + q.er) = r + q.er := IntWalk.i64_in _ (by omega)
        have k2 : IntKind.i64.wrap (1000 * (r + q.er)) = 1000 * (r + q.er) := IntWalk.i64_in _ (by omega)
        have k3 : IntKind.i64.wrap (r - q.er) = r - q.er := IntWalk.i64_in _ (by omega)
        have k4 : IntKind.i64.wrap (1000 * (r - q.er)) = 1000 * (r - q.er) := IntWalk.i64_in _ (by omega)
        clear hvl hstep hstep2 HV hr hsa hsb hq hT hr1
        have n1 : w.heap.size ≠ wr.heap.size := by omega
        have n4 : pb ≠ wr.heap.size := by omega
        go_upto_region 5 with (fail)
        go_cut [12, 13] (fun s12 s13 wx => ∃ X : Nat, s12 = .pointer (some ⟨X, 0, none⟩) ∧ s13 = .int .i64 q.er ∧ wx.cell? ⟨X, 0, none⟩ = some (.int .i64 V1) ∧ wx.cell? ⟨X, 1, none⟩ = some (.int .i64 V2) ∧ Below wr.heap.size wr wx)
        case first =>
          go_region_held3 (fun w' => w'.cell? ⟨w.heap.size, 0, none⟩ = some (.slice (some ⟨pb, po, none⟩) t.ps.length pc) ∧ w'.cell? ⟨w.heap.size, 1, none⟩ = some (.slice ka t.ks.length kc) ∧ w'.cell? ⟨w.heap.size, 2, none⟩ = some (.int .i64 t.pu) ∧ w'.cell? ⟨pb, po + p * 2 + 1, none⟩ = some (.int .i64 q.er))
            (first | (simp [*]; done) | (simp [go_sem, *]; done)) (first | (go_at_call 47; refine (HVL.out _ (by repeat (first | exact hI.b | apply Below.drew | refine Below.alloc ?_ (by first | omega | (simp; omega)) _))).mono ?_; rintro e w3 ⟨rfl, hb3⟩; have hk3 := kept_of hb3; have q0 : wr.heap.size ≤ w3.heap.size := (by have := hb3.size; simp at this; omega); have q1 : w.heap.size < w3.heap.size := (by have := hb3.size; simp at this; omega); have q4 : pb < w3.heap.size := (by have := hb3.size; simp at this; omega); (try (have B1 : Blk w3 wr.heap.size 35 #[.int .i64 0, .int .i64 0] := Blk.on (by exact Blk.new _ _ _) hb3; obtain ⟨y10, y11, fy10, fy11, ly1⟩ := B1.two))) | fail)
          all_goals (go_wp2_with fail)
          all_goals go_meet
          all_goals refine ⟨_, rfl, rfl, ?_, ?_, ?_⟩
          all_goals first
            | (simp [*]; done)
            | (simp [go_sem, *]; done)
            | (repeat (first | exact Below.refl _ _ | apply below_drewN' | apply Below.drew | refine Below.setCell ?_ (by first | omega | (simp; done) | (simp; omega)) _ | refine Below.alloc ?_ (by first | omega | (simp; done) | (simp; omega)) _ | refine Below.trans ?_ (hb3.mono (by first | omega | (simp; done) | (simp; omega)))))
        case rest =>
          obtain ⟨X, rfl, rfl, d0, d1, hbx⟩ := hcut
          have hI2 := hI.on hbx
          have c0' : wc.cell? ⟨rb, ro + p, none⟩ = some (.int .i64 r) := (hbx.cell (p := ⟨rb, ro + p, none⟩) hrB).trans c0
          clear x0 x1 x2 c3 c0 n1 n4
          cases h1 : decide (V1 ≤ 1000 * (r + q.er)) with
          | false =>
            have HF := Lib.hid (show explB t l a b n = false by
              rw [HE.out]
              exact explV_all hlt (by rw [HS.out, h1]; rfl))
            have g1 : 1000 * (r + q.er) < V1 := by have := of_decide_eq_false h1; omega
            clear HS h1
            go_wp2_with fail
            go_quiet (fail)
            go_wp2_with fail
            go_ret
            exact ⟨ret_bool HF.out.symm, by repeat (first | exact hI2.b | apply below_drewN')⟩
          | true =>
            have g1 : ¬ 1000 * (r + q.er) < V1 := by have := of_decide_eq_true h1; omega
            cases h2 : decide (1000 * (r - q.er) ≤ V2) with
            | false =>
              have HF := Lib.hid (show explB t l a b n = false by
                rw [HE.out]
                exact explV_all hlt (by rw [HS.out, h1, h2]; rfl))
              have g2 : V2 < 1000 * (r - q.er) := by have := of_decide_eq_false h2; omega
              clear HS h1 h2
              go_wp2_with fail
              go_quiet (fail)
              go_wp2_with fail
              go_ret
              exact ⟨ret_bool HF.out.symm, by repeat (first | exact hI2.b | apply below_drewN')⟩
            | true =>
              have g2 : ¬ V2 < 1000 * (r - q.er) := by have := of_decide_eq_true h2; omega
              have HS' := Lib.hid (show explV t l xa.rs xb.rs n (p + 1) = true by rw [HS.out, h1, h2]; rfl)
              clear HS h1 h2
              go_wp2_with fail
              go_quiet (fail)
              go_wp2_with fail
              go_roundw
              case rel => exact ⟨p + 1, by omega, by go_num, HS', hI2.on (by repeat (first | exact Below.refl _ _ | apply below_drewN'))⟩
              case measure => simp [intOf]; omega
    · have HF := Lib.hid (show explB t l a b n = true by
        rw [HE.out]
        have h := HV.out
        rwa [show p = l.length by omega] at h)
      clear HV HE
      go_wp2_with fail
      go_ret
      exact ⟨ret_bool HF.out.symm, hI.b⟩
end Go.Proofs.YtnpajncolkafgaaGreatDoor

namespace Go.Proofs.YtnpajncolkafgaaGreatDoor
open Go.RowKit Go.Shelf

/-- What holds through the rounds. -/
structure PaI (w : World) (tc : Array Value) (S : Int × Int) (W : World) : Prop where
  tb : Blk W w.heap.size 25 tc
  rb : Blk W (w.heap.size + 1) 35 #[.int .i64 0, .int .i64 0]
  ob : Blk W (w.heap.size + 1 + 1) 35 #[.int .i64 S.1, .int .i64 S.2]
  b : Below w.heap.size w W
theorem PaI.on {w W W' : World} {tc : Array Value} {S : Int × Int} (h : PaI w tc S W) (hb : Below W.heap.size W W') : PaI w tc S W' := ⟨h.tb.on hb, h.rb.on hb, h.ob.on hb, h.b.trans (hb.mono h.b.size)⟩
theorem PaI.hi {w W : World} {tc : Array Value} {S : Int × Int} (h : PaI w tc S W) (n : Int) : PaI w tc (S.1, n) (W.setCell ⟨w.heap.size + 1 + 1, 1, none⟩ (.int .i64 n)) :=
  ⟨h.tb.far (by show _ ≠ _; simp; omega) _, h.rb.far (by show _ ≠ _; simp) _, h.ob.set_ 1 _, h.b.setCell (by simp; omega) _⟩
theorem PaI.lo {w W : World} {tc : Array Value} {S : Int × Int} (h : PaI w tc S W) (n : Int) : PaI w tc (n, S.2) (W.setCell ⟨w.heap.size + 1 + 1, 0, none⟩ (.int .i64 n)) :=
  ⟨h.tb.far (by show _ ≠ _; simp; omega) _, h.rb.far (by show _ ≠ _; simp) _, h.ob.set_ 0 _, h.b.setCell (by simp; omega) _⟩

set_option maxRecDepth 100000 in
set_option maxHeartbeats 4000000 in
theorem rparts_any {w : World} {pa ka ra : Option Addr} {pc kc rc : Nat} {t : Tab} {l : List Int} (h : SamIn w pa ka ra pc kc t l) (a b : Nat) (ha : a < t.ks.length) (hb : b < t.ks.length) (low high : Int) (hlo : 0 ≤ low) (hhi : high ≤ 1000) (hlh : low ≤ high + 1) :
    Calls Tryz.prog 46 #[.agg #[.slice pa t.ps.length pc, .slice ka t.ks.length kc, .int .i64 t.pu], .slice ra l.length rc, .int .i64 a, .int .i64 b, .int .i64 low, .int .i64 high] w fun e w' => e = .returned (.tuple #[.agg #[.int .i64 (partsR t l a b low high).1.1, .int .i64 (partsR t l a b low high).1.2], .bool (partsR t l a b low high).2]) ∧ Below w.heap.size w w' := by
  have hp := h.tab.tab.lp
  have hk := h.tab.tab.lk
  have hl := h.rds.len
  have HIN := Lib.hid (tight_in t l a b low high)
  have HAT := Lib.hid (fun (n : Int) (hn : low ≤ n ∧ n ≤ high) => tight_at t l a b hn)
  have hpr : partsR t l a b low high = if (tightL (bnds t l a b) (low, high)).1 ≤ (tightL (bnds t l a b) (low, high)).2 then (((tightL (bnds t l a b) (low, high)).1, (tightL (bnds t l a b) (low, high)).2), true) else ((0, 0), false) := rfl
  generalize partsR t l a b low high = R at *
  generalize tightL (bnds t l a b) (low, high) = P at *
  obtain ⟨L, H⟩ := P
  have HPR := Lib.hid hpr
  clear hpr
  have I0 : PaI w #[.slice pa t.ps.length pc, .slice ka t.ks.length kc, .int .i64 t.pu] (0, 0) (((w.alloc (.cells #[.slice pa t.ps.length pc, .slice ka t.ks.length kc, .int .i64 t.pu] 25)).alloc (.cells #[.int .i64 0, .int .i64 0] 35)).alloc (.cells #[.int .i64 0, .int .i64 0] 35)) :=
    ⟨((Blk.new w _ _).alloc _).alloc _, (Blk.new1 w _ _ _).alloc _, Blk.new2 w _ _ _ _, (((Below.refl _ w).alloc (Nat.le_refl _) _).alloc (by simp) _).alloc (by simp; omega) _⟩
  have HI := Lib.hid I0
  have HEX := Lib.hid (fun (W : World) (hW : Below w.heap.size w W) (n : Int) (hn : 0 ≤ n ∧ n ≤ 1000) => rexplains_any (rc := rc) (h.on hW) a b ha hb n hn)
  clear h I0
  go_enter Tryz.func46, Tryz.ntmps46
  go_wp2_with fail
  go_loopw [15, 16] (fun v i wr => ∃ n : Int, low ≤ n ∧ n ≤ high + 1 ∧ i = .int .i64 n ∧ v = .bool (hullS L H n).2 ∧ PaI w #[.slice pa t.ps.length pc, .slice ka t.ks.length kc, .int .i64 t.pu] (hullS L H n).1 wr) (fun _ i _ => (high + 1 - intOf i).toNat)
  case atStart =>
    have h0 := hull_start (L := L) (H := H) (low := low) (fun e => (HIN.out e).1)
    exact ⟨low, by omega, by omega, rfl, by rw [h0], by rw [h0]; exact HI.out⟩
  case round =>
    obtain ⟨n, hn1, hn2, rfl, rfl, hI⟩ := hrel
    obtain ⟨x0, x1, x2, _, _, _, hxl⟩ := hI.tb.three
    obtain ⟨z0, z1, zf0, zf1, hzl⟩ := hI.rb.two
    obtain ⟨y0, y1, yf0, yf1, hyl⟩ := hI.ob.two
    by_cases hlt : n ≤ high
    · have hE := HEX.out _ hI.b n (by omega)
      have hat := HAT.out n (by omega)
      generalize explB t l a b n = E at *
      have HE := Lib.hid hE
      have HA := Lib.hid hat
      clear hE hat
      generalize hS : hullS L H n = S at *
      obtain ⟨⟨S1, S2⟩, S3⟩ := S
      have HS := Lib.hid hS
      clear hS
      dsimp only at *
      go_wp2_with fail
      refine HE.out.mono ?_
      rintro e w1 ⟨rfl, hb1⟩
      have hI1 := hI.on hb1
      obtain ⟨y0, y1, yf0, yf1, hyl⟩ := hI1.ob.two
      clear hb1 x0 x1 x2 z0 z1 HE
      cases E with
      | false =>
        have HN := Lib.hid (show hullS L H (n + 1) = ((S1, S2), S3) by rw [hull_out (fun e => by have := HA.out.2 e; cases this), HS.out])
        go_wp2_with fail
        go_roundw
        case rel => exact ⟨n + 1, by omega, by omega, by go_num, by rw [HN.out], by rw [HN.out]; exact hI1⟩
        case measure => simp [intOf]; omega
      | true =>
        have hin := HA.out.1 rfl
        cases S3 with
        | false =>
          have h1 := hull_first hin (by rw [HS.out])
          have HN := Lib.hid h1.2
          clear h1
          go_wp2_with fail
          go_roundw
          case rel => exact ⟨n + 1, by omega, by omega, by go_num, by rw [HN.out], by rw [HN.out]; exact (hI1.lo n).hi n⟩
          case measure => simp [intOf]; omega
        | true =>
          have HN := Lib.hid (show hullS L H (n + 1) = ((S1, n), true) by rw [hull_more hin (by rw [HS.out]), HS.out])
          go_wp2_with fail
          go_roundw
          case rel => exact ⟨n + 1, by omega, by omega, by go_num, by rw [HN.out], by rw [HN.out]; exact hI1.hi n⟩
          case measure => simp [intOf]; omega
    · have hne : n = high + 1 := by omega
      have hend := hull_end (L := L) (H := H) (high := high) (fun e => (HIN.out e).2)
      rw [← hne] at hend
      have HR := Lib.hid (hend.trans HPR.out.symm)
      generalize hullS L H n = S at *
      obtain ⟨⟨S1, S2⟩, S3⟩ := S
      clear hend hne
      dsimp only at *
      clear HPR
      go_wp2_with fail
      refine bodyPost_ret (v := .tuple #[.agg #[.int .i64 S1, .int .i64 S2], .bool S3]) ?_ rfl ⟨congrArg (fun R : (Int × Int) × Bool => Ending.returned (.tuple #[.agg #[.int .i64 R.1.1, .int .i64 R.1.2], .bool R.2])) HR.out, ?_⟩
      · simp [results, Tryz.results46, go_sem, z0, z1]
      · exact (hI.b.setCell (by simp) _).setCell (by simp) _
end Go.Proofs.YtnpajncolkafgaaGreatDoor

namespace Go.Proofs.YtnpajncolkafgaaGreatDoor

theorem mem_inner {nk : Nat} {ok : Nat → Nat → Bool} {a : Fin nk} (x : Fin nk × Fin nk) : ∀ m, m ≤ nk → (x ∈ innerF nk ok a m ↔ x.1 = a ∧ x.2.1 < m ∧ a.1 ≤ x.2.1 ∧ ok a.1 x.2.1 = true)
  | 0, _ => by simp [innerF]
  | m + 1, h => by
    rw [innerF, List.mem_append, mem_inner x m (by omega), dif_pos (by omega)]
    have hone : (x ∈ (if a.1 ≤ m ∧ ok a.1 m = true then [(a, (⟨m, by omega⟩ : Fin nk))] else [])) ↔ x.1 = a ∧ x.2.1 = m ∧ a.1 ≤ m ∧ ok a.1 m = true := by
      obtain ⟨x1, x2⟩ := x
      split
      · next hc => simp [hc, Fin.ext_iff]
      · next hc =>
        constructor
        · intro h; cases h
        · rintro ⟨_, _, h1, h2⟩; exact absurd ⟨h1, h2⟩ hc
    rw [hone]
    constructor
    · rintro (⟨h1, h2, h3, h4⟩ | ⟨h1, h2, h3, h4⟩)
      · exact ⟨h1, by omega, h3, h4⟩
      · exact ⟨h1, by omega, by omega, by rw [h2]; exact h4⟩
    · rintro ⟨h1, h2, h3, h4⟩
      by_cases hm : x.2.1 = m
      · right; exact ⟨h1, hm, by omega, by rw [← hm]; exact h4⟩
      · left; exact ⟨h1, by omega, h3, h4⟩
theorem mem_outer {nk : Nat} {ok : Nat → Nat → Bool} (x : Fin nk × Fin nk) : ∀ k, k ≤ nk → (x ∈ outerF nk ok k ↔ x.1.1 < k ∧ x.1.1 ≤ x.2.1 ∧ ok x.1.1 x.2.1 = true)
  | 0, _ => by simp [outerF]
  | k + 1, h => by
    rw [outerF, List.mem_append, mem_outer x k (by omega), dif_pos (by omega), mem_inner x nk (by omega)]
    have hx2 := x.2.2
    constructor
    · rintro (⟨h1, h2, h3⟩ | ⟨h1, h2, h3, h4⟩)
      · exact ⟨by omega, h2, h3⟩
      · rw [h1]
        exact ⟨by simp, h3, h4⟩
    · rintro ⟨h1, h2, h3⟩
      by_cases hk : x.1.1 = k
      · right
        exact ⟨Fin.ext hk, hx2, by show k ≤ _; omega, by show ok k _ = true; rw [← hk]; exact h3⟩
      · left; exact ⟨by omega, h2, h3⟩

theorem pow_bit (k i : Nat) : (2 ^ k).testBit i = decide (k = i) := Nat.testBit_two_pow
theorem pairSet_alone {n : Nat} (x : Fin n × Fin n) (k : Nat) (h : pairSet x = 2 ^ k) : x.1.1 = k ∧ x.2.1 = k := by
  have h1 : ∀ i, (pairSet x).testBit i = decide (k = i) := fun i => by rw [h, pow_bit]
  have h2 : ∀ i, (decide (x.1.1 = i) || decide (x.2.1 = i)) = decide (k = i) := fun i => by
    rw [← h1 i, pairSet, Nat.testBit_or, pow_bit, pow_bit]
  have a := h2 x.1.1
  have b := h2 x.2.1
  simp at a b
  exact ⟨a.symm, b.symm⟩
theorem pairOk_expl (t : Tab) (l : List Int) (k : Nat) : pairOk t l k k = explB t l k k 1000 := by
  rw [Bool.eq_iff_iff]
  have h := fun n => tight_expl t l k k (1000, 1000) n
  unfold pairOk partsV
  rw [if_pos rfl]
  generalize tightL (bnds t l k k) (1000, 1000) = p at *
  constructor
  · intro h1
    have h2 : p.1 ≤ p.2 := by simp at h1; omega
    have h3 := (h p.1).1 ⟨by omega, h2⟩
    have h4 : p.1 = 1000 := by have := h3.1; dsimp only at this; omega
    rw [h4] at h3
    exact h3.2
  · intro h1
    have h3 := (h 1000).2 ⟨⟨by dsimp only; omega, by dsimp only; omega⟩, h1⟩
    simp; omega
theorem alone_set (t : Tab) (l : List Int) (k : Nat) (hk : k < t.ks.length) (h8 : t.ks.length ≤ 8) : decide (((2 ^ k : Nat) : Int) ∈ setsV t l) = explB t l k k 1000 := by
  rw [← pairOk_expl, Bool.eq_iff_iff, decide_eq_true_eq]
  have hlt : 2 ^ k < 256 := Nat.lt_of_le_of_lt (Nat.pow_le_pow_right (by omega) (show k ≤ 7 by omega)) (by decide)
  have h1 : ((2 ^ k : Nat) : Int) ∈ setsV t l ↔ 2 ^ k ∈ setList t l := by
    unfold setsV
    rw [List.mem_map]
    constructor
    · rintro ⟨s, hs, e⟩
      have e2 : s = 2 ^ k := by exact_mod_cast e
      rw [← e2]
      simpa using (List.mem_filter.1 hs).2
    · intro h
      exact ⟨2 ^ k, List.mem_filter.2 ⟨List.mem_range.2 hlt, by simpa using h⟩, rfl⟩
  rw [h1]
  unfold setList
  rw [List.mem_map]
  constructor
  · rintro ⟨x, hx, e⟩
    obtain ⟨e1, e2⟩ := pairSet_alone x k e
    have h := ((mem_outer x _ (Nat.le_refl _)).1 hx).2.2
    rwa [e1, e2] at h
  · intro h
    refine ⟨(⟨k, hk⟩, ⟨k, hk⟩), (mem_outer _ _ (Nat.le_refl _)).2 ⟨hk, Nat.le_refl _, h⟩, ?_⟩
    simp [pairSet]

/-- One reading beside a kind. -/
theorem alone_at {ps : List Pr} {xs : List (Int × Int)} {l : List Int} {i : Nat} {r : Int} {x : Int × Int} {p : Pr} (hr : l[i]? = some r) (hx : xs[i]? = some x) (hp : ps[i]? = some p) :
    explAt ps xs xs l 1000 i = decide (r = -1 ∨ (x.1 - p.er ≤ r ∧ r ≤ x.2 + p.er)) := by
  unfold explAt
  rw [hr, hx, hp]
  dsimp only
  rw [decide_eq_decide]
  omega
end Go.Proofs.YtnpajncolkafgaaGreatDoor

namespace Go.Proofs.YtnpajncolkafgaaGreatDoor

theorem explAt_sym (ps : List Pr) (xa xb : List (Int × Int)) (l : List Int) (n : Int) (i : Nat) : explAt ps xa xb l n i = explAt ps xb xa l (1000 - n) i := by
  unfold explAt
  cases l[i]? with
  | none => rfl
  | some r =>
    cases xa[i]? with
    | none => cases xb[i]? <;> rfl
    | some x =>
      cases xb[i]? with
      | none => rfl
      | some y =>
        cases ps[i]? with
        | none => rfl
        | some p =>
          dsimp only
          rw [show (1000 : Int) - (1000 - n) = n by omega, Int.add_comm (n * x.1), Int.add_comm (n * x.2)]
theorem explB_sym (t : Tab) (l : List Int) (a b : Nat) (n : Int) : explB t l a b n = explB t l b a (1000 - n) := by
  unfold explB
  congr 1
  funext i
  exact explAt_sym _ _ _ _ _ _

/-- The range of a pair's parts: those that explain. -/
theorem partsV_in (t : Tab) (l : List Int) (a b : Nat) (n : Int) : ((partsV t l a b).1 ≤ n ∧ n ≤ (partsV t l a b).2) ↔ ((if a = b then n = 1000 else 1 ≤ n ∧ n ≤ 999) ∧ explB t l a b n = true) := by
  unfold partsV
  rw [tight_expl]
  by_cases h : a = b
  · rw [if_pos h, if_pos h]
    constructor
    · rintro ⟨⟨h1, h2⟩, h3⟩; exact ⟨by dsimp only at h1 h2; omega, h3⟩
    · rintro ⟨h1, h3⟩; exact ⟨⟨by dsimp only; omega, by dsimp only; omega⟩, h3⟩
  · rw [if_neg h, if_neg h]
theorem pairOk_some {t : Tab} {l : List Int} {a b : Nat} (h : pairOk t l a b = true) : ∃ n : Int, (if a = b then n = 1000 else 1 ≤ n ∧ n ≤ 999) ∧ explB t l a b n = true := by
  unfold pairOk at h
  refine ⟨(partsV t l a b).1, (partsV_in t l a b _).1 ⟨Int.le_refl _, ?_⟩⟩
  simp at h
  exact h
theorem pairOk_of {t : Tab} {l : List Int} {a b : Nat} {n : Int} (hn : if a = b then n = 1000 else 1 ≤ n ∧ n ≤ 999) (h : explB t l a b n = true) : pairOk t l a b = true := by
  have h1 := (partsV_in t l a b n).2 ⟨hn, h⟩
  unfold pairOk
  simp
  omega
theorem partsR_true {t : Tab} {l : List Int} {a b : Nat} {low high n : Int} (hn : low ≤ n ∧ n ≤ high) (h : explB t l a b n = true) : (partsR t l a b low high).2 = true := by
  have h1 := (tight_at t l a b hn).1 h
  unfold partsR
  rw [if_pos (by omega)]

/-- An end is reached: with this kind in it, or without. -/
def endM (t : Tab) (l : List Int) (a : Nat) (e : Int) (j m : Nat) : Bool := (partsR t l j m 0 1000).2 && (decide (j ≠ a) && decide (m ≠ a)) && decide (e = 0)
def endA (t : Tab) (l : List Int) (a : Nat) (e : Int) (j : Nat) : Bool := decide (j ≠ a ∨ e = 1000) && explB t l a j e
def endT (t : Tab) (l : List Int) (a : Nat) (e : Int) (j : Nat) : Bool := endA t l a e j || (List.range t.ks.length).any (endM t l a e j)
def endK (t : Tab) (l : List Int) (a : Nat) (e : Int) (k : Nat) : Bool := (List.range k).any (endT t l a e)
/-- .. after the first m of the others. -/
def endI (t : Tab) (l : List Int) (a : Nat) (e : Int) (k m : Nat) : Bool := endK t l a e k || endA t l a e k || (List.range m).any (endM t l a e k)
theorem endI_zero (t : Tab) (l : List Int) (a : Nat) (e : Int) (k : Nat) : endI t l a e k 0 = (endK t l a e k || endA t l a e k) := by simp [endI]
theorem endI_succ (t : Tab) (l : List Int) (a : Nat) (e : Int) (k m : Nat) : endI t l a e k (m + 1) = (endI t l a e k m || endM t l a e k m) := by
  unfold endI
  rw [List.range_succ, List.any_append]
  simp [Bool.or_assoc]
theorem endI_end (t : Tab) (l : List Int) (a : Nat) (e : Int) (k : Nat) : endI t l a e k t.ks.length = endK t l a e (k + 1) := by
  unfold endI endK
  rw [List.range_succ, List.any_append]
  simp [endT, Bool.or_assoc]

/-- What a pair says of a kind. -/
def ofP (t : Tab) (l : List Int) (kind : Nat) (x : Fin t.ks.length × Fin t.ks.length) : Int × Int := if kind = x.1.1 then partsV t l x.1.1 x.2.1 else if kind = x.2.1 then partsV t l x.2.1 x.1.1 else (0, 0)
theorem ofStep_eq (t : Tab) (l : List Int) (kind : Nat) (all : Int × Int) (x : Fin t.ks.length × Fin t.ks.length) : ofStep t l kind all x = (min all.1 (ofP t l kind x).1, max all.2 (ofP t l kind x).2) := rfl
theorem fold_ends (t : Tab) (l : List Int) (kind : Nat) (xs : List (Fin t.ks.length × Fin t.ks.length)) : ∀ (acc : Int × Int),
    ((xs.foldl (ofStep t l kind) acc).1 = acc.1 ∨ ∃ x ∈ xs, (xs.foldl (ofStep t l kind) acc).1 = (ofP t l kind x).1) ∧ ((xs.foldl (ofStep t l kind) acc).2 = acc.2 ∨ ∃ x ∈ xs, (xs.foldl (ofStep t l kind) acc).2 = (ofP t l kind x).2) ∧
    ((xs.foldl (ofStep t l kind) acc).1 ≤ acc.1 ∧ acc.2 ≤ (xs.foldl (ofStep t l kind) acc).2) ∧ ∀ x ∈ xs, (xs.foldl (ofStep t l kind) acc).1 ≤ (ofP t l kind x).1 ∧ (ofP t l kind x).2 ≤ (xs.foldl (ofStep t l kind) acc).2 := by
  induction xs with
  | nil => intro acc; exact ⟨.inl rfl, .inl rfl, ⟨Int.le_refl _, Int.le_refl _⟩, fun x hx => by cases hx⟩
  | cons y ys ih =>
    intro acc
    rw [List.foldl_cons]
    have h := ih (ofStep t l kind acc y)
    have h1 : (ofStep t l kind acc y).1 = min acc.1 (ofP t l kind y).1 := rfl
    have h2 : (ofStep t l kind acc y).2 = max acc.2 (ofP t l kind y).2 := rfl
    generalize ofStep t l kind acc y = z at *
    generalize ys.foldl (ofStep t l kind) z = r at *
    obtain ⟨a1, a2, a3, a4⟩ := h
    replace a1 := Lib.hid a1
    replace a2 := Lib.hid a2
    refine ⟨?_, ?_, ⟨by omega, by omega⟩, ?_⟩
    · rcases a1.out with a1 | ⟨x, hx, e⟩
      · by_cases hc : acc.1 ≤ (ofP t l kind y).1
        · exact .inl (by omega)
        · exact .inr ⟨y, by simp, by omega⟩
      · exact .inr ⟨x, by simp [hx], e⟩
    · rcases a2.out with a2 | ⟨x, hx, e⟩
      · by_cases hc : (ofP t l kind y).2 ≤ acc.2
        · exact .inl (by omega)
        · exact .inr ⟨y, by simp, by omega⟩
      · exact .inr ⟨x, by simp [hx], e⟩
    · intro x hx
      rcases List.mem_cons.1 hx with rfl | hx
      · omega
      · exact a4 x hx
/-- A pair's range is not empty, and all of it is reached. -/
theorem ofP_mem {t : Tab} {l : List Int} {a : Nat} {x : Fin t.ks.length × Fin t.ks.length} (hx : x ∈ outerF t.ks.length (pairOk t l) t.ks.length) :
    0 ≤ (ofP t l a x).1 ∧ (ofP t l a x).1 ≤ (ofP t l a x).2 ∧ (ofP t l a x).2 ≤ 1000 ∧ ∀ e, (ofP t l a x).1 ≤ e → e ≤ (ofP t l a x).2 → endK t l a e t.ks.length = true := by
  have hok := ((mem_outer x _ (Nat.le_refl _)).1 hx).2.2
  obtain ⟨n, hn, he⟩ := pairOk_some hok
  have hk : ∀ (e : Int) (j : Fin t.ks.length), endT t l a e j.1 = true → endK t l a e t.ks.length = true := fun e j h => List.any_eq_true.2 ⟨j.1, List.mem_range.2 j.2, h⟩
  have key : ∀ (j : Fin t.ks.length) (m : Int), (if a = j.1 then m = 1000 else 1 ≤ m ∧ m ≤ 999) → explB t l a j.1 m = true →
      0 ≤ (partsV t l a j.1).1 ∧ (partsV t l a j.1).1 ≤ (partsV t l a j.1).2 ∧ (partsV t l a j.1).2 ≤ 1000 ∧ ∀ e, (partsV t l a j.1).1 ≤ e → e ≤ (partsV t l a j.1).2 → endK t l a e t.ks.length = true := by
    intro j m hm hE
    have h1 := (partsV_in t l a j.1 m).2 ⟨hm, hE⟩
    have h2 := (partsV_in t l a j.1 (partsV t l a j.1).1).1 ⟨Int.le_refl _, by omega⟩
    have h3 := (partsV_in t l a j.1 (partsV t l a j.1).2).1 ⟨by omega, Int.le_refl _⟩
    refine ⟨?_, by omega, ?_, fun e e1 e2 => ?_⟩
    · have := h2.1
      split at this <;> omega
    · have := h3.1
      split at this <;> omega
    · have h4 := (partsV_in t l a j.1 e).1 ⟨e1, e2⟩
      refine hk e j ?_
      unfold endT endA
      rw [h4.2, Bool.and_true, Bool.or_eq_true]
      left
      refine decide_eq_true ?_
      by_cases hj : a = j.1
      · rw [if_pos hj] at h4; exact .inr h4.1
      · exact .inl fun e => hj e.symm
  unfold ofP
  by_cases h1 : a = x.1.1
  · rw [if_pos h1]
    have h := key x.2 n (by rw [h1]; exact hn) (by rw [h1]; exact he)
    rw [← h1]
    exact h
  · rw [if_neg h1]
    by_cases h2 : a = x.2.1
    · rw [if_pos h2, ← h2]
      refine key x.1 (1000 - n) ?_ ?_
      · rw [if_neg h1]
        rw [if_neg (fun e => h1 (h2.trans e.symm))] at hn
        omega
      · rw [h2, ← explB_sym]; exact he
    · rw [if_neg h2]
      refine ⟨Int.le_refl _, Int.le_refl _, by decide, fun e e1 e2 => hk e x.1 ?_⟩
      have e0 : e = 0 := by dsimp only at e1 e2; omega
      unfold endT
      rw [Bool.or_eq_true]
      right
      refine List.any_eq_true.2 ⟨x.2.1, List.mem_range.2 x.2.2, ?_⟩
      unfold endM
      have q1 := partsR_true (t := t) (l := l) (a := x.1.1) (b := x.2.1) (low := 0) (high := 1000) (n := n) (by split at hn <;> omega) he
      have q2 : ¬ x.1.1 = a := fun e => h1 e.symm
      have q3 : ¬ x.2.1 = a := fun e => h2 e.symm
      rw [q1]
      simp [q2, q3, e0]
/-- **The ends of Sold are reached.** -/
theorem sold_ends {t : Tab} {l : List Int} {a : Nat} (h : ¬ (partsOfV t l a).2 < (partsOfV t l a).1) :
    0 ≤ (partsOfV t l a).1 ∧ (partsOfV t l a).1 ≤ (partsOfV t l a).2 ∧ (partsOfV t l a).2 ≤ 1000 ∧ endK t l a (partsOfV t l a).1 t.ks.length = true ∧ endK t l a (partsOfV t l a).2 t.ks.length = true := by
  have hf := fold_ends t l a (outerF t.ks.length (pairOk t l) t.ks.length) (1000, -1)
  have hm := fun x => ofP_mem (t := t) (l := l) (a := a) (x := x)
  unfold partsOfV at *
  generalize outerF t.ks.length (pairOk t l) t.ks.length = xs at *
  generalize hr : xs.foldl (ofStep t l a) (1000, -1) = r at *
  obtain ⟨a1, a2, a3, a4⟩ := hf
  dsimp only at a1 a2 a3
  replace a1 := Lib.hid a1
  replace a2 := Lib.hid a2
  cases xs with
  | nil =>
    subst hr
    exact absurd (show (-1 : Int) < 1000 by decide) h
  | cons y ys =>
    have b1 := hm y (by simp)
    have b2 := a4 y (by simp)
    obtain ⟨x, hx, ex⟩ : ∃ x ∈ y :: ys, r.1 = (ofP t l a x).1 := by
      rcases a1.out with a1 | a1
      · exact ⟨y, by simp, by omega⟩
      · exact a1
    obtain ⟨z, hz, ez⟩ : ∃ x ∈ y :: ys, r.2 = (ofP t l a x).2 := by
      rcases a2.out with a2 | a2
      · omega
      · exact a2
    have c1 := hm x hx
    have c2 := hm z hz
    exact ⟨by omega, by omega, by omega, c1.2.2.2 _ (by omega) (by omega), c2.2.2.2 _ (by omega) (by omega)⟩
/-- **All between the ends of Mixed are reached.** -/
theorem mixed_ends {t : Tab} {l : List Int} {a b : Nat} (h0 : lookErr t l = 0) (ha : a < t.ks.length) (hb : b < t.ks.length) (hab : a ≠ b) :
    mixedV t l a b = ((0, 0), 9) ∨ ((mixedV t l a b).2 = 0 ∧ 0 ≤ (mixedV t l a b).1.1 ∧ (mixedV t l a b).1.1 ≤ (mixedV t l a b).1.2 ∧ (mixedV t l a b).1.2 ≤ 1000 ∧ ∀ n, (mixedV t l a b).1.1 ≤ n → n ≤ (mixedV t l a b).1.2 → explB t l a b n = true) := by
  have hd : differV t.ks.length a b = 0 := by
    unfold differV
    rw [if_pos ⟨⟨by omega, by omega⟩, ⟨by omega, by omega⟩⟩, if_neg (by omega)]
  have hm : mixedV t l a b = if (tightL (bnds t l a b) (0, 1000)).2 < (tightL (bnds t l a b) (0, 1000)).1 then ((0, 0), 9) else (tightL (bnds t l a b) (0, 1000), 0) := by
    unfold mixedV
    rw [if_neg (by simpa using h0), if_neg (by simpa using hd)]
    rfl
  have ht := tight_in t l a b 0 1000
  have hn := fun n => tight_expl t l a b (0, 1000) n
  generalize tightL (bnds t l a b) (0, 1000) = p at *
  by_cases hc : p.2 < p.1
  · rw [if_pos hc] at hm
    exact .inl hm
  · rw [if_neg hc] at hm
    rw [hm]
    have h1 := ht (by omega)
    exact .inr ⟨rfl, h1.1, by show p.1 ≤ p.2; omega, h1.2, fun n n1 n2 => ((hn n).1 ⟨n1, n2⟩).2⟩
end Go.Proofs.YtnpajncolkafgaaGreatDoor

namespace Go.Proofs.YtnpajncolkafgaaGreatDoor
open Go.ChangeShapes Go.WideShapes Go.RowKit Go.Deep Go.Joins

theorem array2 {α : Type} {cs : Array α} (h : cs.size = 2) : ∃ c0 c1, cs = #[c0, c1] := by
  obtain ⟨l⟩ := cs
  match l, h with
  | [c0, c1], _ => exact ⟨c0, c1, rfl⟩
theorem array3 {α : Type} {cs : Array α} (h : cs.size = 3) : ∃ c0 c1 c2, cs = #[c0, c1, c2] := by
  obtain ⟨l⟩ := cs
  match l, h with
  | [c0, c1, c2], _ => exact ⟨c0, c1, c2, rfl⟩
section
variable {H : Type} {enc : TypeId × Value → H} {P : Program} {w : World} {base : Nat} {spare : Nat → Bool} {held : Bool}
theorem okWide_arr {t e : TypeId} {n : Nat} {r : Reach} {b0 : Nat} {v : Value} (ht : P.underlying t = some (.array n e)) (h : Value.okWide P w r b0 t v) : ∃ cs, v = .agg cs ∧ cs.size = P.cellsOf t := by
  simp only [Value.okWide, ht] at h
  obtain ⟨cs, h1, h2, _⟩ := h
  exact ⟨cs, h1, h2⟩
theorem open_arr2 {t e : TypeId} {r : Reach} {b0 : Nat} {v : Value} {d : DataW H} {p : List MemPlace} (ht : P.underlying t = some (.array 2 e)) (he : P.cellsOf e = 1) (hC : P.cellsOf t = 2)
    (hv : Value.okWide P w r b0 t v) (h : DataW.Trod enc P w base spare held t v d p) :
    ∃ (v0 v1 : Value) (y0 y1 : DataW H × List MemPlace) (n : Nat), v = .agg #[v0, v1] ∧ DataW.trod enc P w base spare held n e [v0] = some y0 ∧ DataW.trod enc P w base spare held n e [v1] = some y1 := by
  obtain ⟨cs, rfl, hsz⟩ := okWide_arr ht hv
  obtain ⟨c0, c1, rfl⟩ := array2 (hsz.trans hC)
  obtain ⟨fuel, hf⟩ := h
  obtain ⟨xs, m, _, _, _, hlen, hx⟩ := DataW.trod_array ht hf
  have h0 := hx 0 (by omega)
  have h1 := hx 1 (by omega)
  match xs, hlen with
  | [y0, y1], _ => exact ⟨c0, c1, y0, y1, m, rfl, by simpa [Value.cells, he] using h0, by simpa [Value.cells, he] using h1⟩
theorem open_arr3 {t e : TypeId} {r : Reach} {b0 : Nat} {v : Value} {d : DataW H} {p : List MemPlace} (ht : P.underlying t = some (.array 3 e)) (he : P.cellsOf e = 1) (hC : P.cellsOf t = 3)
    (hv : Value.okWide P w r b0 t v) (h : DataW.Trod enc P w base spare held t v d p) :
    ∃ (v0 v1 v2 : Value) (y0 y1 y2 : DataW H × List MemPlace) (n : Nat), v = .agg #[v0, v1, v2] ∧ DataW.trod enc P w base spare held n e [v0] = some y0 ∧ DataW.trod enc P w base spare held n e [v1] = some y1 ∧ DataW.trod enc P w base spare held n e [v2] = some y2 := by
  obtain ⟨cs, rfl, hsz⟩ := okWide_arr ht hv
  obtain ⟨c0, c1, c2, rfl⟩ := array3 (hsz.trans hC)
  obtain ⟨fuel, hf⟩ := h
  obtain ⟨xs, m, _, _, _, hlen, hx⟩ := DataW.trod_array ht hf
  have h0 := hx 0 (by omega)
  have h1 := hx 1 (by omega)
  have h2 := hx 2 (by omega)
  match xs, hlen with
  | [y0, y1, y2], _ => exact ⟨c0, c1, c2, y0, y1, y2, m, rfl, by simpa [Value.cells, he] using h0, by simpa [Value.cells, he] using h1, by simpa [Value.cells, he] using h2⟩
end
variable {H : Type} {enc : TypeId × Value → H} {W : World}
set_option maxRecDepth 100000 in
/-- Two numbers. -/
theorem open_two {v : Value} {d : DataW H} {p : List MemPlace} {b0 : Nat} (hv : Value.okWide Tryz.prog W .any b0 33 v) (h : DataW.Trod enc Tryz.prog W 0 (fun _ => true) true 33 v d p) :
    ∃ x0 x1 : Int, v = .agg #[.int .i64 x0, .int .i64 x1] := by
  obtain ⟨v0, v1, y0, y1, m, rfl, h0, h1⟩ := open_arr2 Tryz.underlying33 (by kernel_rfl) (by kernel_rfl) hv h
  obtain ⟨a, ea, _, _⟩ := DataW.trod_int Tryz.underlying3 h0
  obtain ⟨b, eb, _, _⟩ := DataW.trod_int Tryz.underlying3 h1
  simp only [List.cons.injEq, and_true] at ea eb
  subst ea eb
  exact ⟨a, b, rfl⟩
set_option maxRecDepth 100000 in
/-- Three numbers below 65536. -/
theorem open_three16 {v : Value} {d : DataW H} {p : List MemPlace} {b0 : Nat} (hv : Value.okWide Tryz.prog W .any b0 68 v) (h : DataW.Trod enc Tryz.prog W 0 (fun _ => true) true 68 v d p) :
    ∃ x0 x1 x2 : Int, v = .agg #[.int .u16 x0, .int .u16 x1, .int .u16 x2] ∧ (0 ≤ x0 ∧ x0 ≤ 65535) ∧ (0 ≤ x1 ∧ x1 ≤ 65535) ∧ (0 ≤ x2 ∧ x2 ≤ 65535) := by
  obtain ⟨v0, v1, v2, y0, y1, y2, m, rfl, h0, h1, h2⟩ := open_arr3 Tryz.underlying68 (by kernel_rfl) (by kernel_rfl) hv h
  obtain ⟨a, ea, _, wa⟩ := DataW.trod_int Tryz.underlying57 h0
  obtain ⟨b, eb, _, wb⟩ := DataW.trod_int Tryz.underlying57 h1
  obtain ⟨c, ec, _, wc⟩ := DataW.trod_int Tryz.underlying57 h2
  simp only [List.cons.injEq, and_true] at ea eb ec
  subst ea eb ec
  exact ⟨a, b, c, rfl, bounds_u16 wa, bounds_u16 wb, bounds_u16 wc⟩
set_option maxRecDepth 100000 in
/-- Three numbers below 256. -/
theorem open_three8 {v : Value} {d : DataW H} {p : List MemPlace} {b0 : Nat} (hv : Value.okWide Tryz.prog W .any b0 86 v) (h : DataW.Trod enc Tryz.prog W 0 (fun _ => true) true 86 v d p) :
    ∃ x0 x1 x2 : Int, v = .agg #[.int .u8 x0, .int .u8 x1, .int .u8 x2] ∧ (0 ≤ x0 ∧ x0 ≤ 255) ∧ (0 ≤ x1 ∧ x1 ≤ 255) ∧ (0 ≤ x2 ∧ x2 ≤ 255) := by
  obtain ⟨v0, v1, v2, y0, y1, y2, m, rfl, h0, h1, h2⟩ := open_arr3 Tryz.underlying86 (by kernel_rfl) (by kernel_rfl) hv h
  obtain ⟨a, ea, _, wa⟩ := DataW.trod_int Tryz.underlying5 h0
  obtain ⟨b, eb, _, wb⟩ := DataW.trod_int Tryz.underlying5 h1
  obtain ⟨c, ec, _, wc⟩ := DataW.trod_int Tryz.underlying5 h2
  simp only [List.cons.injEq, and_true] at ea eb ec
  subst ea eb ec
  exact ⟨a, b, c, rfl, bounds_u8 wa, bounds_u8 wb, bounds_u8 wc⟩
/-- A table, and another argument, in boxes of the call's own. -/
structure Two (w : World) (T : TypeId) (tc xc : Array Value) (W : World) : Prop where
  tb : Blk W w.heap.size 25 tc
  xb : Blk W (w.heap.size + 1) T xc
  b : Below w.heap.size w W
theorem Two.on {w W W' : World} {T : TypeId} {tc xc : Array Value} (h : Two w T tc xc W) (hb : Below W.heap.size W W') : Two w T tc xc W' := ⟨h.tb.on hb, h.xb.on hb, h.b.trans (hb.mono h.b.size)⟩
theorem Two.new (w : World) (T : TypeId) (tc xc : Array Value) : Two w T tc xc ((w.alloc (.cells tc 25)).alloc (.cells xc T)) :=
  ⟨(Blk.new w _ _).alloc _, Blk.new1 w _ _ _, ((Below.refl _ w).alloc (Nat.le_refl _) _).alloc (by simp) _⟩
/-- .. and a range in a box that came later. -/
structure TwoS (w : World) (T : TypeId) (tc xc : Array Value) (X : Nat) (s : Int × Int) (W : World) : Prop where
  tb : Blk W w.heap.size 25 tc
  xb : Blk W (w.heap.size + 1) T xc
  sb : Blk W X 35 #[.int .i64 s.1, .int .i64 s.2]
  b : Below w.heap.size w W
theorem TwoS.on {w W W' : World} {T : TypeId} {tc xc : Array Value} {X : Nat} {s : Int × Int} (h : TwoS w T tc xc X s W) (hb : Below W.heap.size W W') : TwoS w T tc xc X s W' := ⟨h.tb.on hb, h.xb.on hb, h.sb.on hb, h.b.trans (hb.mono h.b.size)⟩
theorem TwoS.alloc {w W : World} {T : TypeId} {tc xc : Array Value} {X : Nat} {s : Int × Int} (h : TwoS w T tc xc X s W) (o : Obj) : TwoS w T tc xc X s (W.alloc o) := h.on ((Below.refl _ W).alloc (Nat.le_refl _) _)
theorem TwoS.drew {w W : World} {T : TypeId} {tc xc : Array Value} {X : Nat} {s : Int × Int} (h : TwoS w T tc xc X s W) : TwoS w T tc xc X s W.drew := h.on (Below.refl _ W).drew
end Go.Proofs.YtnpajncolkafgaaGreatDoor

namespace Go.Proofs.YtnpajncolkafgaaGreatDoor

/-- A mixture, and readings that it explains. -/
structure Melted (t : Tab) (l : List Int) (a b : Nat) (n : Int) : Prop where
  la : a < t.ks.length
  lb : b < t.ks.length
  ln : 1 ≤ n ∧ n ≤ 1000
  one : a = b → n = 1000
  look : lookErr t l = 0
  ex : explB t l a b n = true

theorem look_zero {t : Tab} {l : List Int} (h : (checkT t).2.2 = 0) (hl : l.length = t.ps.length) (hr : ∀ r ∈ l, r = -1 ∨ 0 ≤ r ∧ r ≤ 100000) : lookErr t l = 0 := by
  unfold lookErr readsErr
  rw [if_neg (by simpa using h), if_neg (by simp [hl]), if_neg]
  intro h
  obtain ⟨r, hm, hd⟩ := List.any_eq_true.1 h
  have hd := of_decide_eq_true hd
  rcases hr r hm with h3 | h3
  · exact hd.1 h3
  · exact hd.2 h3
/-- With 1000 parts of a nothing else counts. -/
theorem expl_all {t : Tab} {l : List Int} {a b : Nat} (hV : Valid t) (hl : l.length = t.ps.length) (ha : a < t.ks.length) (hb : b < t.ks.length) (h : explB t l a b 1000 = true) : explB t l a a 1000 = true := by
  obtain ⟨xa, hxa⟩ : ∃ x, t.ks[a]? = some x := ⟨t.ks[a], List.getElem?_eq_getElem ha⟩
  obtain ⟨xb, hxb⟩ : ∃ x, t.ks[b]? = some x := ⟨t.ks[b], List.getElem?_eq_getElem hb⟩
  have l1 := hV.rl xa (List.mem_of_getElem? hxa)
  have l2 := hV.rl xb (List.mem_of_getElem? hxb)
  unfold explB at *
  rw [hxa, hxb] at h
  rw [hxa]
  rw [List.all_eq_true] at *
  intro i hi
  have hi2 := List.mem_range.1 hi
  have h1 := h i hi
  obtain ⟨r, hr⟩ : ∃ x, l[i]? = some x := ⟨l[i], List.getElem?_eq_getElem hi2⟩
  obtain ⟨x, hx⟩ : ∃ x, xa.rs[i]? = some x := ⟨xa.rs[i]'(by omega), List.getElem?_eq_getElem _⟩
  obtain ⟨y, hy⟩ : ∃ x, xb.rs[i]? = some x := ⟨xb.rs[i]'(by omega), List.getElem?_eq_getElem _⟩
  obtain ⟨p, hp⟩ : ∃ x, t.ps[i]? = some x := ⟨t.ps[i]'(by omega), List.getElem?_eq_getElem _⟩
  simp only [Option.map_some, Option.getD_some] at h1 ⊢
  unfold explAt at *
  rw [hr, hx, hy, hp] at h1
  rw [hr, hx, hp]
  simp only [decide_eq_true_eq] at h1 ⊢
  omega
/-- The pair that it is. -/
theorem melt_pair {t : Tab} {l : List Int} {a b : Nat} {n : Int} (h : Melted t l a b n) :
    ∃ x ∈ outerF t.ks.length (pairOk t l) t.ks.length, (n < 1000 ∧ a ≠ b ∧ (x.1.1 = a ∧ x.2.1 = b ∨ x.1.1 = b ∧ x.2.1 = a)) ∨ (n = 1000 ∧ x.1.1 = a ∧ x.2.1 = a) := by
  have hV := valid_of (lookErr_ok h.look).1
  have hl := reads_len (lookErr_ok h.look).2
  have hn := h.ln
  by_cases h1 : n = 1000
  · subst h1
    have he := expl_all hV (by omega) h.la h.lb h.ex
    exact ⟨(⟨a, h.la⟩, ⟨a, h.la⟩), (mem_outer _ _ (Nat.le_refl _)).2 ⟨h.la, Nat.le_refl _, pairOk_of (n := 1000) (by rw [if_pos rfl]) he⟩, .inr ⟨rfl, rfl, rfl⟩⟩
  · have hab : a ≠ b := fun e => h1 (h.one e)
    by_cases hlt : a ≤ b
    · exact ⟨(⟨a, h.la⟩, ⟨b, h.lb⟩), (mem_outer _ _ (Nat.le_refl _)).2 ⟨h.la, hlt, pairOk_of (n := n) (by rw [if_neg hab]; omega) h.ex⟩, .inl ⟨by omega, hab, .inl ⟨rfl, rfl⟩⟩⟩
    · exact ⟨(⟨b, h.lb⟩, ⟨a, h.la⟩), (mem_outer _ _ (Nat.le_refl _)).2 ⟨h.lb, by show b ≤ a; omega, pairOk_of (n := 1000 - n) (by rw [if_neg (fun e => hab e.symm)]; omega) (by rw [← explB_sym]; exact h.ex)⟩, .inl ⟨by omega, hab, .inr ⟨rfl, rfl⟩⟩⟩
theorem or_add : ∀ a b : Fin 8, a ≠ b → 2 ^ a.1 ||| 2 ^ b.1 = 2 ^ a.1 + 2 ^ b.1 := by decide +kernel
theorem mem_setsV {t : Tab} {l : List Int} {s : Nat} (hs : s < 256) : ((s : Nat) : Int) ∈ setsV t l ↔ s ∈ setList t l := by
  unfold setsV
  rw [List.mem_map]
  constructor
  · rintro ⟨s', hs', e⟩
    have e2 : s' = s := by exact_mod_cast e
    rw [← e2]
    simpa using (List.mem_filter.1 hs').2
  · intro h
    exact ⟨s, List.mem_filter.2 ⟨List.mem_range.2 hs, by simpa using h⟩, rfl⟩
/-- Its set, as a number. -/
def meltSet (a b : Nat) (n : Int) : Nat := if n < 1000 then 2 ^ a + 2 ^ b else 2 ^ a
theorem pow_add_lt {a b : Nat} (ha : a < 8) (hb : b < 8) (h : a ≠ b) : 2 ^ a + 2 ^ b < 256 := by
  rw [← or_add ⟨a, ha⟩ ⟨b, hb⟩ (fun e => h (by simpa using e))]
  exact Nat.or_lt_two_pow (n := 8) (Nat.pow_lt_pow_right (by omega) ha) (Nat.pow_lt_pow_right (by omega) hb)
theorem melt_set {t : Tab} {l : List Int} {a b : Nat} {n : Int} (h : Melted t l a b n) : ((meltSet a b n : Nat) : Int) ∈ setsV t l := by
  have hV := valid_of (lookErr_ok h.look).1
  have h8 := hV.nk.2
  have ha := h.la
  have hb := h.lb
  obtain ⟨x, hx, hc⟩ := melt_pair h
  have hps : pairSet x = meltSet a b n := by
    unfold pairSet meltSet
    rcases hc with ⟨h1, hab, ⟨e1, e2⟩ | ⟨e1, e2⟩⟩ | ⟨h1, e1, e2⟩
    · rw [if_pos h1, e1, e2]
      exact or_add ⟨a, by omega⟩ ⟨b, by omega⟩ (fun e => hab (by simpa using e))
    · rw [if_pos h1, e1, e2, Nat.or_comm]
      exact or_add ⟨a, by omega⟩ ⟨b, by omega⟩ (fun e => hab (by simpa using e))
    · rw [if_neg (by omega), e1, e2, Nat.or_self]
  have hlt : meltSet a b n < 256 := by
    rw [← hps]
    exact pairSet_lt x h8
  rw [mem_setsV hlt, ← hps]
  exact List.mem_map.2 ⟨x, hx, rfl⟩
theorem melt_mixed {t : Tab} {l : List Int} {a b : Nat} {n : Int} (h : Melted t l a b n) (hab : a ≠ b) : (mixedV t l a b).2 = 0 ∧ (mixedV t l a b).1.1 ≤ n ∧ n ≤ (mixedV t l a b).1.2 := by
  have ha := h.la
  have hb := h.lb
  have hd : differV t.ks.length a b = 0 := by
    unfold differV
    rw [if_pos ⟨⟨by omega, by omega⟩, ⟨by omega, by omega⟩⟩, if_neg (by omega)]
  have hm : mixedV t l a b = if (tightL (bnds t l a b) (0, 1000)).2 < (tightL (bnds t l a b) (0, 1000)).1 then ((0, 0), 9) else (tightL (bnds t l a b) (0, 1000), 0) := by
    unfold mixedV
    rw [if_neg (by simpa using h.look), if_neg (by simpa using hd)]
    rfl
  have hn := (tight_expl t l a b (0, 1000) n).2 ⟨⟨by have := h.ln; dsimp only; omega, h.ln.2⟩, h.ex⟩
  rw [hm, if_neg (by omega)]
  exact ⟨rfl, hn.1, hn.2⟩
/-- How many parts of kind k it has. -/
def meltHas (a b : Nat) (n : Int) (k : Nat) : Int := if k = a then n else if k = b then 1000 - n else 0
theorem melt_sold {t : Tab} {l : List Int} {a b : Nat} {n : Int} (h : Melted t l a b n) (k : Nat) : (partsOfV t l k).1 ≤ meltHas a b n k ∧ meltHas a b n k ≤ (partsOfV t l k).2 := by
  obtain ⟨x, hx, hc⟩ := melt_pair h
  have hf := (fold_ends t l k (outerF t.ks.length (pairOk t l) t.ks.length) (1000, -1)).2.2.2 x hx
  have hn := h.ln
  have key : (ofP t l k x).1 ≤ meltHas a b n k ∧ meltHas a b n k ≤ (ofP t l k x).2 := by
    unfold ofP meltHas
    rcases hc with ⟨h1, hab, ⟨e1, e2⟩ | ⟨e1, e2⟩⟩ | ⟨h1, e1, e2⟩
    · rw [e1, e2]
      by_cases hk : k = a
      · rw [if_pos hk, if_pos hk]
        exact (partsV_in t l a b n).2 ⟨by rw [if_neg hab]; omega, h.ex⟩
      · rw [if_neg hk, if_neg hk]
        by_cases hk2 : k = b
        · rw [if_pos hk2, if_pos hk2]
          exact (partsV_in t l b a (1000 - n)).2 ⟨by rw [if_neg (fun e => hab e.symm)]; omega, by rw [← explB_sym]; exact h.ex⟩
        · rw [if_neg hk2, if_neg hk2]; exact ⟨Int.le_refl _, Int.le_refl _⟩
    · rw [e1, e2]
      by_cases hk : k = a
      · rw [if_neg (fun e => hab (hk.symm.trans e)), if_pos hk, if_pos hk]
        exact (partsV_in t l a b n).2 ⟨by rw [if_neg hab]; omega, h.ex⟩
      · by_cases hk2 : k = b
        · rw [if_pos hk2, if_neg hk, if_pos hk2]
          exact (partsV_in t l b a (1000 - n)).2 ⟨by rw [if_neg (fun e => hab e.symm)]; omega, by rw [← explB_sym]; exact h.ex⟩
        · rw [if_neg hk2, if_neg hk, if_neg hk, if_neg hk2]; exact ⟨Int.le_refl _, Int.le_refl _⟩
    · rw [e1, e2]
      have hV := valid_of (lookErr_ok h.look).1
      have hl := reads_len (lookErr_ok h.look).2
      by_cases hk : k = a
      · rw [if_pos hk, if_pos hk]
        refine (partsV_in t l a a n).2 ⟨by rw [if_pos rfl]; exact h1, ?_⟩
        have he := h.ex
        rw [h1] at he ⊢
        exact expl_all hV (by omega) h.la h.lb he
      · rw [if_neg hk, if_neg hk, if_neg hk]
        split
        · subst h1; exact ⟨by decide, by decide⟩
        · exact ⟨Int.le_refl _, Int.le_refl _⟩
  unfold partsOfV
  omega
/-- What Sold says of kind k: its range, and its judgement, are true. -/
theorem melt_judge {t : Tab} {l : List Int} {a b : Nat} {n : Int} (h : Melted t l a b n) (k : Nat) (hk : k < t.ks.length) :
    (soldV t l k).2.2 = 0 ∧ (soldV t l k).1.1 ≤ meltHas a b n k ∧ meltHas a b n k ≤ (soldV t l k).1.2 ∧ ¬ (meltHas a b n k < t.pu ∧ (soldV t l k).2.1 = 1) ∧ ¬ (t.pu ≤ meltHas a b n k ∧ (soldV t l k).2.1 = 0) := by
  have hs := melt_sold h k
  have he : soldV t l k = (partsOfV t l k, judgeV (partsOfV t l k).1 (partsOfV t l k).2 t.pu, 0) := by
    unfold soldV
    rw [if_neg (by simpa using h.look), if_neg (by omega), Int.toNat_natCast, if_neg (by omega)]
  rw [he]
  refine ⟨rfl, hs.1, hs.2, ?_, ?_⟩
  · rintro ⟨h1, h2⟩
    dsimp only at h2
    unfold judgeV at h2
    by_cases c1 : t.pu ≤ (partsOfV t l k).1
    · omega
    · rw [if_neg c1] at h2
      split at h2 <;> omega
  · rintro ⟨h1, h2⟩
    dsimp only at h2
    unfold judgeV at h2
    by_cases c1 : t.pu ≤ (partsOfV t l k).1
    · rw [if_pos c1] at h2; omega
    · rw [if_neg c1] at h2
      by_cases c2 : (partsOfV t l k).2 < t.pu
      · omega
      · rw [if_neg c2] at h2; omega
theorem mem_kinF (m : Nat) (z : Int) : ∀ k, z ∈ kinF m k ↔ ∃ j : Nat, j < k ∧ z = j ∧ m.testBit j = true
  | 0 => by simp [kinF]
  | k + 1 => by
    rw [kinF, List.mem_append, mem_kinF m z k]
    constructor
    · rintro (⟨j, h1, h2, h3⟩ | h)
      · exact ⟨j, by omega, h2, h3⟩
      · split at h
        · next hc => exact ⟨k, by omega, by simpa using h, hc⟩
        · cases h
    · rintro ⟨j, h1, h2, h3⟩
      by_cases hj : j = k
      · right; subst hj; rw [if_pos h3]; simpa using h2
      · left; exact ⟨j, by omega, h2, h3⟩
/-- What Within says is true. -/
theorem melt_within {t : Tab} {l : List Int} {a b : Nat} {n : Int} (h : Melted t l a b n) :
    (withinV t l).2 = 0 ∧ (a : Int) ∈ (withinV t l).1.2 ∧ (n < 1000 → (b : Int) ∈ (withinV t l).1.2) ∧ ∀ z ∈ (withinV t l).1.1, (z = a ∨ (z = b ∧ n < 1000)) ∧ z ∈ (withinV t l).1.2 := by
  have hV := valid_of (lookErr_ok h.look).1
  have h8 := hV.nk.2
  have ha := h.la
  have hb := h.lb
  obtain ⟨x, hx, hc⟩ := melt_pair h
  have hxs : pairSet x ∈ setList t l := List.mem_map.2 ⟨x, hx, rfl⟩
  have hw : withinV t l = ((kinV (andV t.ks.length (setList t l)), kinV (orV (setList t l))), 0) := by
    unfold withinV
    rw [if_neg (by simpa using h.look), if_neg (fun e => by rw [e] at hxs; cases hxs)]
  have hbit : ∀ i, (pairSet x).testBit i = true ↔ (i = a ∨ (i = b ∧ n < 1000)) := by
    intro i
    unfold pairSet
    rw [Nat.testBit_or, pow_bit, pow_bit, Bool.or_eq_true, decide_eq_true_eq, decide_eq_true_eq]
    rcases hc with ⟨h1, hab, ⟨e1, e2⟩ | ⟨e1, e2⟩⟩ | ⟨h1, e1, e2⟩ <;> rw [e1, e2] <;> omega
  have hor : ∀ i : Nat, i < 8 → (pairSet x).testBit i = true → (i : Int) ∈ kinV (orV (setList t l)) := fun i hi hb => (mem_kinF _ _ 8).2 ⟨i, hi, rfl, (orV_bit _ _).2 ⟨_, hxs, hb⟩⟩
  rw [hw]
  refine ⟨rfl, hor a (by omega) ((hbit a).2 (.inl rfl)), fun h1 => hor b (by omega) ((hbit b).2 (.inr ⟨rfl, h1⟩)), ?_⟩
  intro z hz
  obtain ⟨j, hj, rfl, hj2⟩ := (mem_kinF _ _ 8).1 (show z ∈ kinF _ 8 from hz)
  have hj3 := ((andV_bit _ _ _).1 hj2).2 _ hxs
  refine ⟨?_, hor j hj hj3⟩
  rcases (hbit j).1 hj3 with e | ⟨e, h1⟩
  · exact .inl (by rw [e])
  · exact .inr ⟨by rw [e], h1⟩
end Go.Proofs.YtnpajncolkafgaaGreatDoor

namespace Go.Proofs.YtnpajncolkafgaaGreatDoor

theorem first_ne {f : Nat → Int} {n : Nat} {x : Nat × Int} (h : firstAt f n = some x) : x.2 ≠ 0 := by
  unfold firstAt at h
  obtain ⟨i, hi, rfl⟩ := Option.map_eq_some_iff.1 h
  have := List.find?_some hi
  simpa using this
theorem firstAt_all {f : Nat → Int} {n : Nat} (h : firstAt f n = none) : ∀ i, i < n → f i = 0 := by
  unfold firstAt at h
  rw [Option.map_eq_none_iff, List.find?_eq_none] at h
  intro i hi
  simpa using h i (List.mem_range.2 hi)
theorem check_zero {t : Tab} : (checkT t).2.2 = 0 ↔ countsErr t = 0 ∧ (∀ i, i < t.ps.length → propErr t.ps i = 0) ∧ ∀ i, i < t.ks.length → kindErr t.ks t.ps.length i = 0 := by
  rw [checkT_eq]
  constructor
  · intro h
    by_cases h1 : countsErr t = 0
    · rw [h1] at h
      cases hp : firstAt (propErr t.ps) t.ps.length with
      | some x => rw [hp, checkOf_2] at h; exact absurd h (first_ne hp)
      | none =>
        cases hk : firstAt (kindErr t.ks t.ps.length) t.ks.length with
        | some x => rw [hp, hk, checkOf_3] at h; exact absurd h (first_ne hk)
        | none => exact ⟨h1, firstAt_all hp, firstAt_all hk⟩
    · rw [checkOf_1 _ _ _ h1] at h; exact absurd h h1
  · rintro ⟨h1, h2, h3⟩
    rw [h1, firstAt_none h2, firstAt_none h3, checkOf_4]
theorem propErr_zero {l : List Pr} {i : Nat} {p : Pr} (hp : l[i]? = some p) : propErr l i = 0 ↔ nameErr ((l.map Pr.nm).take i) p.nm = 0 ∧ 0 ≤ p.er ∧ p.er ≤ 10000 := by
  unfold propErr
  rw [hp, ← List.map_take]
  dsimp only
  by_cases h1 : nameErr ((l.take i).map Pr.nm) p.nm = 0
  · rw [if_neg (by simpa using h1)]
    by_cases h2 : 0 ≤ p.er ∧ p.er ≤ 10000
    · rw [if_pos h2]; exact ⟨fun _ => ⟨h1, h2⟩, fun _ => rfl⟩
    · rw [if_neg h2]; exact ⟨fun h => (by cases h), fun h => absurd h.2 h2⟩
  · rw [if_pos h1]; exact ⟨fun h => absurd h h1, fun h => absurd h.1 h1⟩
theorem ranges_zero {rs : List (Int × Int)} {np : Int} : rangesErr rs np = 0 ↔ (rs.length : Int) = np ∧ ∀ r ∈ rs, 0 ≤ r.1 ∧ r.1 ≤ r.2 ∧ r.2 ≤ 100000 := by
  unfold rangesErr
  by_cases h1 : (rs.length : Int) = np
  · rw [if_neg (by simpa using h1)]
    by_cases h2 : rs.any beyondB = true
    · rw [if_pos h2]
      refine ⟨fun h => (by cases h), fun h => ?_⟩
      obtain ⟨r, hr, hb⟩ := List.any_eq_true.1 h2
      have := h.2 r hr
      simp [beyondB] at hb
      omega
    · rw [if_neg h2]
      by_cases h3 : rs.any emptyB = true
      · rw [if_pos h3]
        refine ⟨fun h => (by cases h), fun h => ?_⟩
        obtain ⟨r, hr, hb⟩ := List.any_eq_true.1 h3
        have := h.2 r hr
        simp [emptyB] at hb
        omega
      · rw [if_neg h3]
        refine ⟨fun _ => ⟨h1, fun r hr => ?_⟩, fun _ => rfl⟩
        have a := fun e => h2 (List.any_eq_true.2 ⟨r, hr, e⟩)
        have b := fun e => h3 (List.any_eq_true.2 ⟨r, hr, e⟩)
        simp [beyondB] at a
        simp [emptyB] at b
        omega
  · rw [if_pos h1]; exact ⟨fun h => (by cases h), fun h => absurd h.1 h1⟩
theorem kindErr_zero {l : List Kd} {np : Int} {i : Nat} {k : Kd} (hk : l[i]? = some k) : kindErr l np i = 0 ↔ nameErr ((l.map Kd.nm).take i) k.nm = 0 ∧ rangesErr k.rs np = 0 := by
  unfold kindErr
  rw [hk, ← List.map_take]
  dsimp only
  by_cases h1 : nameErr ((l.take i).map Kd.nm) k.nm = 0
  · rw [if_neg (by simpa using h1)]; exact ⟨fun h => ⟨h1, h⟩, fun h => h.2⟩
  · rw [if_pos h1]; exact ⟨fun h => absurd h h1, fun h => absurd h.1 h1⟩

/-- A table with the same names, smaller Errors, and narrower ranges. -/
structure Finer (s t : Tab) : Prop where
  np : s.ps.length = t.ps.length
  nk : s.ks.length = t.ks.length
  pu : s.pu = t.pu
  er : ∀ (i : Nat) (p q : Pr), t.ps[i]? = some p → s.ps[i]? = some q → q.nm = p.nm ∧ 0 ≤ q.er ∧ q.er ≤ p.er
  kn : ∀ (i : Nat) (x y : Kd), t.ks[i]? = some x → s.ks[i]? = some y → y.nm = x.nm ∧ y.rs.length = x.rs.length
  rs : ∀ (i : Nat) (x y : Kd), t.ks[i]? = some x → s.ks[i]? = some y → ∀ (j : Nat) (r q : Int × Int), x.rs[j]? = some r → y.rs[j]? = some q → r.1 ≤ q.1 ∧ q.1 ≤ q.2 ∧ q.2 ≤ r.2
theorem names_same {α β : Type} {f : α → β} {l m : List α} (h : l.length = m.length) (e : ∀ (i : Nat) (p q : α), m[i]? = some p → l[i]? = some q → f q = f p) : l.map f = m.map f := by
  apply List.ext_getElem?
  intro i
  rw [List.getElem?_map, List.getElem?_map]
  by_cases hi : i < l.length
  · rw [List.getElem?_eq_getElem hi, List.getElem?_eq_getElem (show i < m.length by omega)]
    exact congrArg some (e i _ _ (List.getElem?_eq_getElem (show i < m.length by omega)) (List.getElem?_eq_getElem hi))
  · rw [List.getElem?_eq_none (by omega), List.getElem?_eq_none (by omega)]
theorem Finer.check {s t : Tab} (h : Finer s t) (hc : (checkT t).2.2 = 0) : (checkT s).2.2 = 0 := by
  obtain ⟨c1, c2, c3⟩ := check_zero.1 hc
  refine check_zero.2 ⟨?_, fun i hi => ?_, fun i hi => ?_⟩
  · unfold countsErr at *
    rw [h.np, h.nk, h.pu]
    exact c1
  · have hq : s.ps[i]? = some s.ps[i] := List.getElem?_eq_getElem hi
    have hp : t.ps[i]? = some (t.ps[i]'(by rw [← h.np]; exact hi)) := List.getElem?_eq_getElem _
    have h1 := (propErr_zero hp).1 (c2 i (by rw [← h.np]; exact hi))
    have h2 := h.er i _ _ hp hq
    rw [propErr_zero hq, names_same h.np (fun i p q a b => (h.er i p q a b).1), h2.1]
    exact ⟨h1.1, h2.2.1, by omega⟩
  · have hq : s.ks[i]? = some s.ks[i] := List.getElem?_eq_getElem hi
    have hp : t.ks[i]? = some (t.ks[i]'(by rw [← h.nk]; exact hi)) := List.getElem?_eq_getElem _
    have h1 := (kindErr_zero hp).1 (c3 i (by rw [← h.nk]; exact hi))
    have h2 := h.kn i _ _ hp hq
    rw [kindErr_zero hq, names_same h.nk (fun i p q a b => (h.kn i p q a b).1), h2.1, h.np]
    refine ⟨h1.1, ?_⟩
    obtain ⟨h3, h4⟩ := ranges_zero.1 h1.2
    refine ranges_zero.2 ⟨by rw [h2.2]; exact h3, fun r hr => ?_⟩
    obtain ⟨j, hj, rfl⟩ := List.mem_iff_getElem.1 hr
    have h5 := h.rs i _ _ hp hq j _ _ (List.getElem?_eq_getElem (show j < (t.ks[i]'(by rw [← h.nk]; exact hi)).rs.length by rw [← h2.2]; exact hj)) (List.getElem?_eq_getElem hj)
    have h6 := h4 _ (List.getElem_mem (show j < (t.ks[i]'(by rw [← h.nk]; exact hi)).rs.length by rw [← h2.2]; exact hj))
    omega

/-- Readings of which none is another one, but where nothing was read. -/
structure Further (m l : List Int) : Prop where
  len : m.length = l.length
  at_ : ∀ (i : Nat) (r q : Int), l[i]? = some r → m[i]? = some q → r = -1 ∨ q = r
/-- What explains more explains less. -/
theorem fine_expl {s t : Tab} {m l : List Int} (hf : Finer s t) (hm : Further m l) (hV : Valid t) (hl : l.length = t.ps.length) {a b : Nat} (ha : a < t.ks.length) (hb : b < t.ks.length) {n : Int} (hn : 0 ≤ n ∧ n ≤ 1000) (h : explB s m a b n = true) : explB t l a b n = true := by
  have hxa : t.ks[a]? = some t.ks[a] := List.getElem?_eq_getElem ha
  have hxb : t.ks[b]? = some t.ks[b] := List.getElem?_eq_getElem hb
  have hya : s.ks[a]? = some (s.ks[a]'(by rw [hf.nk]; exact ha)) := List.getElem?_eq_getElem _
  have hyb : s.ks[b]? = some (s.ks[b]'(by rw [hf.nk]; exact hb)) := List.getElem?_eq_getElem _
  have ra := hf.rs a _ _ hxa hya
  have rb := hf.rs b _ _ hxb hyb
  have la := (hf.kn a _ _ hxa hya).2
  have lb := (hf.kn b _ _ hxb hyb).2
  have lt := hV.rl _ (List.mem_of_getElem? hxa)
  have lu := hV.rl _ (List.mem_of_getElem? hxb)
  unfold explB at *
  rw [hya, hyb] at h
  rw [hxa, hxb]
  generalize t.ks[a] = xa at *
  generalize t.ks[b] = xb at *
  generalize s.ks[a]'(by rw [hf.nk]; exact ha) = ya at *
  generalize s.ks[b]'(by rw [hf.nk]; exact hb) = yb at *
  rw [List.all_eq_true] at *
  intro i hi
  have hi2 := List.mem_range.1 hi
  have h1 := h i (List.mem_range.2 (by rw [hm.len]; exact hi2))
  have e1 : l[i]? = some l[i] := List.getElem?_eq_getElem hi2
  have e2 : m[i]? = some (m[i]'(by rw [hm.len]; exact hi2)) := List.getElem?_eq_getElem _
  have e3 : xa.rs[i]? = some (xa.rs[i]'(by omega)) := List.getElem?_eq_getElem _
  have e4 : xb.rs[i]? = some (xb.rs[i]'(by omega)) := List.getElem?_eq_getElem _
  have e5 : ya.rs[i]? = some (ya.rs[i]'(by omega)) := List.getElem?_eq_getElem _
  have e6 : yb.rs[i]? = some (yb.rs[i]'(by omega)) := List.getElem?_eq_getElem _
  have e7 : t.ps[i]? = some (t.ps[i]'(by omega)) := List.getElem?_eq_getElem _
  have e8 : s.ps[i]? = some (s.ps[i]'(by rw [hf.np]; omega)) := List.getElem?_eq_getElem _
  have f1 := hm.at_ i _ _ e1 e2
  have f2 := ra i _ _ e3 e5
  have f3 := rb i _ _ e4 e6
  have f4 := hf.er i _ _ e7 e8
  simp only [Option.map_some, Option.getD_some] at h1 ⊢
  unfold explAt at *
  rw [e2, e5, e6, e8] at h1
  rw [e1, e3, e4, e7]
  simp only [decide_eq_true_eq] at h1 ⊢
  rcases f1 with f1 | f1
  · exact .inl f1
  · rw [f1] at h1
    rcases h1 with h1 | ⟨h1, h2⟩
    · exact .inl h1
    · have g1 := Int.mul_le_mul_of_nonneg_left f2.1 hn.1
      have g2 := Int.mul_le_mul_of_nonneg_left f2.2.2 hn.1
      have g3 := Int.mul_le_mul_of_nonneg_left f3.1 (show 0 ≤ 1000 - n by omega)
      have g4 := Int.mul_le_mul_of_nonneg_left f3.2.2 (show 0 ≤ 1000 - n by omega)
      exact .inr ⟨by omega, by omega⟩
theorem fine_ok {s t : Tab} {m l : List Int} (hf : Finer s t) (hm : Further m l) (hV : Valid t) (hl : l.length = t.ps.length) {a b : Nat} (ha : a < t.ks.length) (hb : b < t.ks.length) (h : pairOk s m a b = true) : pairOk t l a b = true := by
  obtain ⟨n, hn, he⟩ := pairOk_some h
  exact pairOk_of hn (fine_expl hf hm hV hl ha hb (by split at hn <;> omega) he)
/-- No set is added. -/
theorem fine_sets {s t : Tab} {m l : List Int} (hf : Finer s t) (hm : Further m l) (hV : Valid t) (hl : l.length = t.ps.length) {z : Int} (h : z ∈ setsV s m) : z ∈ setsV t l := by
  unfold setsV at h
  obtain ⟨k, hk, rfl⟩ := List.mem_map.1 h
  obtain ⟨hk1, hk2⟩ := List.mem_filter.1 hk
  rw [mem_setsV (List.mem_range.1 hk1)]
  obtain ⟨x, hx, rfl⟩ := List.mem_map.1 (of_decide_eq_true hk2)
  obtain ⟨_, h2, h3⟩ := (mem_outer x _ (Nat.le_refl _)).1 hx
  have x1 := x.1.2
  have x2 := x.2.2
  have b1 : x.1.1 < t.ks.length := by rw [← hf.nk]; exact x1
  have b2 : x.2.1 < t.ks.length := by rw [← hf.nk]; exact x2
  exact List.mem_map.2 ⟨(⟨x.1.1, b1⟩, ⟨x.2.1, b2⟩), (mem_outer _ _ (Nat.le_refl _)).2 ⟨b1, h2, fine_ok hf hm hV hl b1 b2 h3⟩, rfl⟩
/-- No range is wider. -/
theorem fine_sold {s t : Tab} {m l : List Int} (hf : Finer s t) (hm : Further m l) (hV : Valid t) (hl : l.length = t.ps.length) (k : Nat) (h : ¬ (partsOfV s m k).2 < (partsOfV s m k).1) :
    (partsOfV t l k).1 ≤ (partsOfV s m k).1 ∧ (partsOfV s m k).2 ≤ (partsOfV t l k).2 := by
  have hA := fold_ends s m k (outerF s.ks.length (pairOk s m) s.ks.length) (1000, -1)
  have hB := (fold_ends t l k (outerF t.ks.length (pairOk t l) t.ks.length) (1000, -1)).2.2
  have key : ∀ x ∈ outerF s.ks.length (pairOk s m) s.ks.length, ∃ y ∈ outerF t.ks.length (pairOk t l) t.ks.length, (ofP t l k y).1 ≤ (ofP s m k x).1 ∧ (ofP s m k x).2 ≤ (ofP t l k y).2 := by
    intro x hx
    obtain ⟨_, h2, h3⟩ := (mem_outer x _ (Nat.le_refl _)).1 hx
    have b1 : x.1.1 < t.ks.length := by rw [← hf.nk]; exact x.1.2
    have b2 : x.2.1 < t.ks.length := by rw [← hf.nk]; exact x.2.2
    refine ⟨(⟨x.1.1, b1⟩, ⟨x.2.1, b2⟩), (mem_outer _ _ (Nat.le_refl _)).2 ⟨b1, h2, fine_ok hf hm hV hl b1 b2 h3⟩, ?_⟩
    have hp := (ofP_mem (a := k) hx).2.1
    have part : ∀ a b : Nat, a < t.ks.length → b < t.ks.length → (partsV s m a b).1 ≤ (partsV s m a b).2 → (partsV t l a b).1 ≤ (partsV s m a b).1 ∧ (partsV s m a b).2 ≤ (partsV t l a b).2 := by
      intro a b ha hb hp
      have h4 := (partsV_in s m a b _).1 ⟨Int.le_refl _, hp⟩
      have h5 := (partsV_in s m a b _).1 ⟨hp, Int.le_refl _⟩
      exact ⟨((partsV_in t l a b _).2 ⟨h4.1, fine_expl hf hm hV hl ha hb (by have := h4.1; split at this <;> omega) h4.2⟩).1, ((partsV_in t l a b _).2 ⟨h5.1, fine_expl hf hm hV hl ha hb (by have := h5.1; split at this <;> omega) h5.2⟩).2⟩
    unfold ofP at *
    dsimp only
    by_cases c1 : k = x.1.1
    · rw [if_pos c1] at hp ⊢
      rw [if_pos c1]
      exact part _ _ b1 b2 hp
    · rw [if_neg c1] at hp ⊢
      rw [if_neg c1]
      by_cases c2 : k = x.2.1
      · rw [if_pos c2] at hp ⊢
        rw [if_pos c2]
        exact part _ _ b2 b1 hp
      · rw [if_neg c2, if_neg c2]; exact ⟨Int.le_refl _, Int.le_refl _⟩
  unfold partsOfV at *
  generalize hr : List.foldl (ofStep s m k) (1000, -1) (outerF s.ks.length (pairOk s m) s.ks.length) = r at *
  generalize List.foldl (ofStep t l k) (1000, -1) (outerF t.ks.length (pairOk t l) t.ks.length) = q at *
  obtain ⟨a1, a2, a3, a4⟩ := hA
  obtain ⟨q1, q2⟩ := hB
  dsimp only at a1 a2 a3 q1
  replace a1 := Lib.hid a1
  replace a2 := Lib.hid a2
  generalize hxs : outerF s.ks.length (pairOk s m) s.ks.length = xs at *
  cases xs with
  | nil => subst hr; exact absurd (show (-1 : Int) < 1000 by decide) h
  | cons y ys =>
    obtain ⟨y', hy', g1, g2⟩ := key y (by simp)
    have w := q2 y' hy'
    have v := a4 y (by simp)
    refine ⟨?_, ?_⟩
    · rcases a1.out with a1 | ⟨x, hx, e⟩
      · omega
      · obtain ⟨z, hz, e1, e2⟩ := key x hx
        have := q2 z hz
        omega
    · rcases a2.out with a2 | ⟨x, hx, e⟩
      · have hp := (ofP_mem (t := s) (l := m) (a := k) (x := y) (by rw [hxs]; simp)).2.1
        have hp0 := (ofP_mem (t := s) (l := m) (a := k) (x := y) (by rw [hxs]; simp)).1
        omega
      · obtain ⟨z, hz, e1, e2⟩ := key x hx
        have := q2 z hz
        omega
end Go.Proofs.YtnpajncolkafgaaGreatDoor

namespace Go.Proofs.YtnpajncolkafgaaGreatDoor

/-- Another number. -/
def rotK (n y k : Nat) : Nat := (k + y) % n
theorem rotK_lt {n y k : Nat} (h : 0 < n) : rotK n y k < n := Nat.mod_lt _ h
theorem rotK_inj {n y a b : Nat} (ha : a < n) (hb : b < n) (hy : y < n) (h : rotK n y a = rotK n y b) : a = b := by
  unfold rotK at h
  by_cases h1 : a + y < n
  · by_cases h2 : b + y < n
    · rw [Nat.mod_eq_of_lt h1, Nat.mod_eq_of_lt h2] at h; omega
    · rw [Nat.mod_eq_of_lt h1, Nat.mod_eq_sub_mod (by omega), Nat.mod_eq_of_lt (by omega)] at h; omega
  · by_cases h2 : b + y < n
    · rw [Nat.mod_eq_of_lt h2, Nat.mod_eq_sub_mod (by omega), Nat.mod_eq_of_lt (by omega)] at h; omega
    · rw [Nat.mod_eq_sub_mod (by omega), Nat.mod_eq_of_lt (by omega), Nat.mod_eq_sub_mod (by omega), Nat.mod_eq_of_lt (by omega)] at h; omega
/-- The number before. -/
theorem rotK_from {n y c : Nat} (hc : c < n) (hy : y < n) : ∃ a, a < n ∧ rotK n y a = c := by
  by_cases h : y ≤ c
  · exact ⟨c - y, by omega, by unfold rotK; rw [show c - y + y = c by omega, Nat.mod_eq_of_lt hc]⟩
  · exact ⟨c + n - y, by omega, by unfold rotK; rw [show c + n - y + y = c + n by omega, Nat.add_mod_right, Nat.mod_eq_of_lt hc]⟩
/-- The first m kinds in the other order. -/
def rotL (t : Tab) (y m : Nat) : List Kd := (List.range m).filterMap fun k => t.ks[rotK t.ks.length y k]?
theorem rotL_succ {t : Tab} {y m : Nat} {x : Kd} (h : t.ks[rotK t.ks.length y m]? = some x) : rotL t y (m + 1) = rotL t y m ++ [x] := by
  unfold rotL
  rw [List.range_succ, List.filterMap_append]
  simp [h]
theorem rotL_len {t : Tab} (y : Nat) (h : 0 < t.ks.length) : ∀ m, (rotL t y m).length = m
  | 0 => rfl
  | m + 1 => by
    rw [rotL_succ (List.getElem?_eq_getElem (rotK_lt h)), List.length_append, rotL_len y h m]
    rfl
theorem rotL_get {t : Tab} (y : Nat) (h : 0 < t.ks.length) (k : Nat) : ∀ m, k < m → (rotL t y m)[k]? = t.ks[rotK t.ks.length y k]?
  | 0, hk => by omega
  | m + 1, hk => by
    have hx : t.ks[rotK t.ks.length y m]? = some (t.ks[rotK t.ks.length y m]'(rotK_lt h)) := List.getElem?_eq_getElem _
    rw [rotL_succ hx]
    by_cases h1 : k < m
    · rw [List.getElem?_append_left (by rw [rotL_len y h m]; exact h1), rotL_get y h k m h1]
    · have e : k = m := by omega
      subst e
      rw [List.getElem?_append_right (by rw [rotL_len y h k]; exact Nat.le_refl _), rotL_len y h k, hx]
      simp
/-- The table in the other order. -/
def rotT (t : Tab) (y : Nat) : Tab := ⟨t.ps, rotL t y t.ks.length, t.pu⟩
section
variable {t : Tab} {y : Nat} (h0 : 0 < t.ks.length)
include h0
theorem rotT_len : (rotT t y).ks.length = t.ks.length := rotL_len y h0 _
theorem rotT_get {k : Nat} (hk : k < t.ks.length) : (rotT t y).ks[k]? = t.ks[rotK t.ks.length y k]? := rotL_get y h0 k _ hk
theorem rot_bnds (l : List Int) {a b : Nat} (ha : a < t.ks.length) (hb : b < t.ks.length) : bnds (rotT t y) l a b = bnds t l (rotK t.ks.length y a) (rotK t.ks.length y b) := by
  unfold bnds
  rw [rotT_get h0 ha, rotT_get h0 hb]
  rfl
theorem rot_ok (hy : y < t.ks.length) (l : List Int) {a b : Nat} (ha : a < t.ks.length) (hb : b < t.ks.length) : pairOk (rotT t y) l a b = pairOk t l (rotK t.ks.length y a) (rotK t.ks.length y b) := by
  unfold pairOk partsV
  rw [rot_bnds h0 l ha hb]
  by_cases h : a = b
  · rw [if_pos h, if_pos (by rw [h])]
  · rw [if_neg h, if_neg (fun e => h (rotK_inj ha hb hy e))]
theorem rot_check (hy : y < t.ks.length) (hc : (checkT t).2.2 = 0) : (checkT (rotT t y)).2.2 = 0 := by
  obtain ⟨c1, c2, c3⟩ := check_zero.1 hc
  have hl := rotT_len (y := y) h0
  refine check_zero.2 ⟨?_, c2, fun i hi => ?_⟩
  · unfold countsErr at *
    rw [hl]
    exact c1
  · rw [hl] at hi
    have hr := rotK_lt (n := t.ks.length) (y := y) (k := i) h0
    have hx : t.ks[rotK t.ks.length y i]? = some t.ks[rotK t.ks.length y i] := List.getElem?_eq_getElem hr
    have h1 := (kindErr_zero hx).1 (c3 _ hr)
    have hg := (rotT_get h0 hi).trans hx
    rw [kindErr_zero hg]
    refine ⟨?_, h1.2⟩
    have hnm : nameB (t.ks[rotK t.ks.length y i]).nm = true := by
      have := h1.1
      unfold nameErr at this
      by_cases hb : nameB (t.ks[rotK t.ks.length y i]).nm = true
      · exact hb
      · rw [if_neg hb] at this; cases this
    have hdis : ∀ (a b : Nat) (p q : Kd), a < b → t.ks[a]? = some p → t.ks[b]? = some q → ¬ p.nm.toList = q.nm.toList := by
      intro a b p q hab hp hq e
      have h2 := ((kindErr_zero hq).1 (c3 b (List.getElem?_eq_some_iff.1 hq).1)).1
      unfold nameErr at h2
      split at h2
      · rw [if_pos] at h2
        · cases h2
        · refine List.any_eq_true.2 ⟨p.nm, ?_, by simpa using e⟩
          rw [List.mem_take_iff_getElem]
          have ha := (List.getElem?_eq_some_iff.1 hp)
          obtain ⟨ha1, ha2⟩ := ha
          refine ⟨a, by rw [List.length_map]; omega, ?_⟩
          rw [List.getElem_map, ha2]
      · cases h2
    unfold nameErr
    rw [if_pos hnm, if_neg]
    intro hany
    obtain ⟨z, hz, he⟩ := List.any_eq_true.1 hany
    rw [List.mem_take_iff_getElem] at hz
    obtain ⟨j, hj, rfl⟩ := hz
    have hj1 : j < i := by omega
    have hj2 : j < t.ks.length := by omega
    rw [List.getElem_map] at he
    have hjx : (rotT t y).ks[j]? = some (t.ks[rotK t.ks.length y j]'(rotK_lt h0)) := (rotT_get h0 hj2).trans (List.getElem?_eq_getElem _)
    have hjy : ((rotT t y).ks[j]'(by rw [hl]; exact hj2)) = t.ks[rotK t.ks.length y j]'(rotK_lt h0) := (List.getElem?_eq_some_iff.1 hjx).2
    rw [hjy] at he
    have hne : rotK t.ks.length y j ≠ rotK t.ks.length y i := fun e => by have := rotK_inj hj2 hi hy e; omega
    have hjg : t.ks[rotK t.ks.length y j]? = some (t.ks[rotK t.ks.length y j]'(rotK_lt h0)) := List.getElem?_eq_getElem _
    have he2 : (t.ks[rotK t.ks.length y j]'(rotK_lt h0)).nm.toList = (t.ks[rotK t.ks.length y i]).nm.toList := by simpa using he
    rcases Nat.lt_or_gt_of_ne hne with h3 | h3
    · exact hdis _ _ _ _ h3 hjg hx he2
    · exact hdis _ _ _ _ h3 hx hjg he2.symm
end
/-- A set, with the other numbers. -/
def rotS (n y m : Nat) : Nat → Nat
  | 0 => 0
  | k + 1 => rotS n y m k + (if m.testBit k then 2 ^ rotK n y k else 0)
theorem rot_fin : ∀ n : Fin 9, ∀ y a b : Fin 8, y.1 < n.1 → a.1 < n.1 → b.1 < n.1 → rotS n.1 y.1 (2 ^ a.1 ||| 2 ^ b.1) n.1 = 2 ^ rotK n.1 y.1 a.1 ||| 2 ^ rotK n.1 y.1 b.1 := by decide +kernel
theorem rot_pair {n y a b : Nat} (hn : n ≤ 8) (hy : y < n) (ha : a < n) (hb : b < n) : rotS n y (2 ^ a ||| 2 ^ b) n = 2 ^ rotK n y a ||| 2 ^ rotK n y b :=
  rot_fin ⟨n, by omega⟩ ⟨y, by omega⟩ ⟨a, by omega⟩ ⟨b, by omega⟩ hy ha hb
theorem rotS_le (n y m : Nat) (hn : n ≤ 8) (h0 : 0 < n) : ∀ k, rotS n y m k ≤ 128 * k
  | 0 => Nat.le_refl _
  | k + 1 => by
    have := rotS_le n y m hn h0 k
    have h2 : 2 ^ rotK n y k ≤ 2 ^ 7 := Nat.pow_le_pow_right (n := 2) (by omega) (by have := rotK_lt (n := n) (y := y) (k := k) h0; omega)
    rw [rotS]
    split <;> omega
theorem mem_setList {t : Tab} {l : List Int} {s : Nat} : s ∈ setList t l ↔ ∃ a b, a ≤ b ∧ b < t.ks.length ∧ pairOk t l a b = true ∧ s = 2 ^ a ||| 2 ^ b := by
  unfold setList
  rw [List.mem_map]
  constructor
  · rintro ⟨x, hx, rfl⟩
    obtain ⟨_, h2, h3⟩ := (mem_outer x _ (Nat.le_refl _)).1 hx
    exact ⟨x.1.1, x.2.1, h2, x.2.2, h3, rfl⟩
  · rintro ⟨a, b, h1, h2, h3, rfl⟩
    exact ⟨(⟨a, by omega⟩, ⟨b, h2⟩), (mem_outer _ _ (Nat.le_refl _)).2 ⟨by show a < _; omega, h1, h3⟩, rfl⟩
theorem ok_sym {t : Tab} {l : List Int} {a b : Nat} (h : pairOk t l a b = true) : pairOk t l b a = true := by
  obtain ⟨n, hn, he⟩ := pairOk_some h
  by_cases hab : a = b
  · rw [← hab] at h ⊢; exact h
  · rw [if_neg hab] at hn
    exact pairOk_of (n := 1000 - n) (by rw [if_neg (fun e => hab e.symm)]; omega) (by rw [← explB_sym]; exact he)
/-- .. whichever is the first. -/
theorem mem_setList2 {t : Tab} {l : List Int} {a b : Nat} (ha : a < t.ks.length) (hb : b < t.ks.length) (h : pairOk t l a b = true) : 2 ^ a ||| 2 ^ b ∈ setList t l := by
  by_cases hab : a ≤ b
  · exact mem_setList.2 ⟨a, b, hab, hb, h, rfl⟩
  · exact mem_setList.2 ⟨b, a, by omega, ha, ok_sym h, Nat.or_comm _ _⟩
section
variable {t : Tab} {l : List Int} {y : Nat} (h8 : t.ks.length ≤ 8) (hy : y < t.ks.length)
include h8 hy
theorem rot_mem {s : Nat} (h : s ∈ setList (rotT t y) l) : rotS t.ks.length y s t.ks.length ∈ setList t l := by
  have h0 : 0 < t.ks.length := by omega
  obtain ⟨a, b, h1, h2, h3, rfl⟩ := mem_setList.1 h
  rw [rotT_len h0] at h2
  have ha : a < t.ks.length := by omega
  rw [rot_ok h0 hy l ha h2] at h3
  rw [rot_pair h8 hy ha h2]
  exact mem_setList2 (rotK_lt h0) (rotK_lt h0) h3
theorem rot_onto {s : Nat} (h : s ∈ setList t l) : ∃ r ∈ setList (rotT t y) l, rotS t.ks.length y r t.ks.length = s := by
  have h0 : 0 < t.ks.length := by omega
  obtain ⟨a, b, h1, h2, h3, rfl⟩ := mem_setList.1 h
  obtain ⟨a', ha', ea⟩ := rotK_from (show a < t.ks.length by omega) hy
  obtain ⟨b', hb', eb⟩ := rotK_from h2 hy
  have hl := rotT_len (y := y) h0
  refine ⟨2 ^ a' ||| 2 ^ b', mem_setList2 (by rw [hl]; exact ha') (by rw [hl]; exact hb') (by rw [rot_ok h0 hy l ha' hb', ea, eb]; exact h3), ?_⟩
  rw [rot_pair h8 hy ha' hb', ea, eb]
end
theorem or_two {a b c d : Nat} (h : 2 ^ a ||| 2 ^ b = 2 ^ c ||| 2 ^ d) : (a = c ∧ b = d) ∨ (a = d ∧ b = c) := by
  have hb : ∀ i, (decide (a = i) || decide (b = i)) = (decide (c = i) || decide (d = i)) := fun i => by
    have := congrArg (fun m => Nat.testBit m i) h
    simpa [Nat.testBit_or, pow_bit] using this
  have h1 := hb a
  have h2 := hb b
  have h3 := hb c
  have h4 := hb d
  simp at h1 h2 h3 h4
  omega
theorem rot_one {t : Tab} {l : List Int} {y : Nat} (h8 : t.ks.length ≤ 8) (hy : y < t.ks.length) {s r : Nat} (hs : s ∈ setList (rotT t y) l) (hr : r ∈ setList (rotT t y) l) (e : rotS t.ks.length y s t.ks.length = rotS t.ks.length y r t.ks.length) : s = r := by
  have h0 : 0 < t.ks.length := by omega
  obtain ⟨a, b, h1, h2, h3, rfl⟩ := mem_setList.1 hs
  obtain ⟨c, d, g1, g2, g3, rfl⟩ := mem_setList.1 hr
  rw [rotT_len h0] at h2 g2
  have ha : a < t.ks.length := by omega
  have hc : c < t.ks.length := by omega
  rw [rot_pair h8 hy ha h2, rot_pair h8 hy hc g2] at e
  rcases or_two e with ⟨e1, e2⟩ | ⟨e1, e2⟩
  · rw [rotK_inj ha hc hy e1, rotK_inj h2 g2 hy e2]
  · rw [rotK_inj ha g2 hy e1, rotK_inj h2 hc hy e2, Nat.or_comm]
/-- **As many sets.** -/
theorem rot_len {t : Tab} {l : List Int} {y : Nat} (h8 : t.ks.length ≤ 8) (hy : y < t.ks.length) : (setsV (rotT t y) l).length = (setsV t l).length := by
  have h0 : 0 < t.ks.length := by omega
  have hl := rotT_len (y := y) h0
  have h256 : 2 ^ t.ks.length ≤ 256 := Nat.pow_le_pow_right (n := 2) (by omega) h8
  have lt : ∀ {u : Tab} {s : Nat}, u.ks.length = t.ks.length → s ∈ setList u l → s < 256 := by
    intro u s hu hs
    obtain ⟨a, b, h1, h2, _, rfl⟩ := mem_setList.1 hs
    refine Nat.lt_of_lt_of_le (Nat.or_lt_two_pow (Nat.pow_lt_pow_right (by omega) (show a < u.ks.length by omega)) (Nat.pow_lt_pow_right (by omega) h2)) ?_
    rw [hu]; exact h256
  unfold setsV
  rw [List.length_map, List.length_map]
  have hp : (((List.range 256).filter fun s => decide (s ∈ setList (rotT t y) l)).map fun s => rotS t.ks.length y s t.ks.length).Perm ((List.range 256).filter fun s => decide (s ∈ setList t l)) := by
    refine (List.perm_ext_iff_of_nodup ?_ (List.Pairwise.filter _ List.nodup_range)).2 fun s => ?_
    · refine List.pairwise_map.2 ?_
      refine List.Pairwise.imp_of_mem ?_ (List.Pairwise.filter _ List.nodup_range)
      intro a b ha hb hab e
      exact hab (rot_one h8 hy (of_decide_eq_true (List.mem_filter.1 ha).2) (of_decide_eq_true (List.mem_filter.1 hb).2) e)
    · rw [List.mem_map, List.mem_filter]
      constructor
      · rintro ⟨r, hr, rfl⟩
        have h1 := rot_mem h8 hy (of_decide_eq_true (List.mem_filter.1 hr).2)
        exact ⟨List.mem_range.2 (lt rfl h1), decide_eq_true h1⟩
      · rintro ⟨h1, h2⟩
        obtain ⟨r, hr, e⟩ := rot_onto h8 hy (of_decide_eq_true h2)
        exact ⟨r, List.mem_filter.2 ⟨List.mem_range.2 (lt hl hr), decide_eq_true hr⟩, e⟩
  have := hp.length_eq
  rwa [List.length_map] at this
/-- **The parts of b are 1000, less those of a.** -/
theorem mixed_flip {t : Tab} {l : List Int} {a b : Nat} (h0 : lookErr t l = 0) (ha : a < t.ks.length) (hb : b < t.ks.length) (hab : a ≠ b) :
    (mixedV t l b a).2 = (mixedV t l a b).2 ∧ ((mixedV t l a b).2 = 0 ∧ (mixedV t l b a).1 = (1000 - (mixedV t l a b).1.2, 1000 - (mixedV t l a b).1.1) ∨ (mixedV t l a b).2 = 9) := by
  have form : ∀ {c d : Nat}, c < t.ks.length → d < t.ks.length → c ≠ d → mixedV t l c d = if (tightL (bnds t l c d) (0, 1000)).2 < (tightL (bnds t l c d) (0, 1000)).1 then ((0, 0), 9) else (tightL (bnds t l c d) (0, 1000), 0) := by
    intro c d hc hd hcd
    have hdf : differV t.ks.length c d = 0 := by
      unfold differV
      rw [if_pos ⟨⟨by omega, by omega⟩, ⟨by omega, by omega⟩⟩, if_neg (by omega)]
    unfold mixedV
    rw [if_neg (by simpa using h0), if_neg (by simpa using hdf)]
    rfl
  rw [form ha hb hab, form hb ha (fun e => hab e.symm)]
  have m1 := fun n => tight_expl t l a b (0, 1000) n
  have m2 := fun n => tight_expl t l b a (0, 1000) n
  have hs : ∀ n, explB t l b a n = explB t l a b (1000 - n) := fun n => explB_sym t l b a n
  generalize tightL (bnds t l a b) (0, 1000) = P at *
  generalize tightL (bnds t l b a) (0, 1000) = Q at *
  have key : ∀ n, (P.1 ≤ n ∧ n ≤ P.2) ↔ (Q.1 ≤ 1000 - n ∧ 1000 - n ≤ Q.2) := by
    intro n
    rw [m1, m2, hs, show (1000 : Int) - (1000 - n) = n by omega]
    dsimp only
    constructor
    · rintro ⟨h1, h2⟩; exact ⟨by omega, h2⟩
    · rintro ⟨h1, h2⟩; exact ⟨by omega, h2⟩
  by_cases hP : P.2 < P.1
  · have hQ : Q.2 < Q.1 := by
      have k1 := key (1000 - Q.1)
      have : ¬ Q.1 ≤ Q.2 := fun h => by
        have := k1.2 ⟨by omega, by omega⟩
        omega
      omega
    rw [if_pos hP, if_pos hQ]
    exact ⟨rfl, .inr rfl⟩
  · have k1 := (key P.1).1 ⟨by omega, by omega⟩
    have k2 := (key P.2).1 ⟨by omega, by omega⟩
    have hQ : ¬ Q.2 < Q.1 := by omega
    have k3 := (key (1000 - Q.1)).2 ⟨by omega, by omega⟩
    have k4 := (key (1000 - Q.2)).2 ⟨by omega, by omega⟩
    rw [if_neg hP, if_neg hQ]
    exact ⟨rfl, .inl ⟨rfl, Prod.ext (by show Q.1 = 1000 - P.2; omega) (by show Q.2 = 1000 - P.1; omega)⟩⟩
end Go.Proofs.YtnpajncolkafgaaGreatDoor

namespace Go.Proofs.YtnpajncolkafgaaGreatDoor

/-- The sets below k. -/
def allV (t : Tab) (l : List Int) (k : Nat) : List Int := ((List.range k).filter fun s => decide (s ∈ setList t l)).map fun s : Nat => (s : Int)
theorem allV_succ (t : Tab) (l : List Int) (k : Nat) : allV t l (k + 1) = allV t l k ++ (if k ∈ setList t l then [(k : Int)] else []) := by
  unfold allV
  rw [List.range_succ, List.filter_append, List.map_append]
  by_cases h : k ∈ setList t l <;> simp [h]
theorem allV_len (t : Tab) (l : List Int) (k : Nat) : (allV t l k).length ≤ k := by
  unfold allV
  rw [List.length_map]
  exact Nat.le_trans (List.length_filter_le _ _) (by simp)
theorem setList_lt {t : Tab} {l : List Int} {s : Nat} (h : s ∈ setList t l) : 1 ≤ s ∧ s < 2 ^ t.ks.length := by
  obtain ⟨x, _, rfl⟩ := List.mem_map.1 h
  refine ⟨?_, Nat.or_lt_two_pow (Nat.pow_lt_pow_right (by omega) x.1.2) (Nat.pow_lt_pow_right (by omega) x.2.2)⟩
  exact Nat.le_trans Nat.one_le_two_pow (Nat.left_le_or)
theorem allV_more (t : Tab) (l : List Int) : ∀ m, allV t l (2 ^ t.ks.length + m) = allV t l (2 ^ t.ks.length)
  | 0 => rfl
  | m + 1 => by
    rw [← Nat.add_assoc, allV_succ, if_neg (fun h => by have := (setList_lt h).2; omega), List.append_nil, allV_more t l m]
theorem allV_end {t : Tab} (l : List Int) (h8 : t.ks.length ≤ 8) : allV t l (2 ^ t.ks.length) = setsV t l := by
  have h1 : 2 ^ t.ks.length ≤ 2 ^ 8 := Nat.pow_le_pow_right (by omega) h8
  have h2 := allV_more t l (256 - 2 ^ t.ks.length)
  rw [show 2 ^ t.ks.length + (256 - 2 ^ t.ks.length) = 256 by omega] at h2
  exact h2.symm
theorem allV_one (t : Tab) (l : List Int) : allV t l 1 = [] := by
  rw [allV_succ, if_neg (fun h => by have := (setList_lt h).1; omega)]
  rfl
/-- A pair is this set. -/
def okR (t : Tab) (l : List Int) (s a b : Nat) : Bool := (partsR t l a b 1 999).2 && decide (s = 2 ^ a + 2 ^ b)
/-- A kind alone is. -/
def okA (t : Tab) (l : List Int) (s a : Nat) : Bool := decide (s = 2 ^ a) && explB t l a a 1000
def hitA (t : Tab) (l : List Int) (s a : Nat) : Bool := (List.range a).any fun a' => (List.range a').any (okR t l s a') || okA t l s a'
def hitI (t : Tab) (l : List Int) (s a b : Nat) : Bool := hitA t l s a || (List.range b).any (okR t l s a)
theorem hitI_zero (t : Tab) (l : List Int) (s a : Nat) : hitI t l s a 0 = hitA t l s a := by simp [hitI]
theorem hitI_succ (t : Tab) (l : List Int) (s a b : Nat) : hitI t l s a (b + 1) = (hitI t l s a b || okR t l s a b) := by
  unfold hitI
  rw [List.range_succ, List.any_append]
  simp [Bool.or_assoc]
theorem hitA_succ (t : Tab) (l : List Int) (s a : Nat) : hitA t l s (a + 1) = (hitI t l s a a || okA t l s a) := by
  unfold hitI hitA
  rw [List.range_succ, List.any_append]
  simp [Bool.or_assoc]
theorem two_pow_ne {a b : Nat} (h : b < a) : 2 ^ b < 2 ^ a := Nat.pow_lt_pow_right (by omega) h
/-- The greater of two different bits is the first one. -/
theorem two_bits {a b c d : Nat} (h : b < a) (k : d < c) (e : 2 ^ a + 2 ^ b = 2 ^ c + 2 ^ d) : a = c ∧ b = d := by
  have h1 := two_pow_ne h
  have h2 := two_pow_ne k
  have p1 := Nat.two_pow_pos b
  have p2 := Nat.two_pow_pos d
  have hac : a = c := by
    rcases Nat.lt_trichotomy a c with h3 | h3 | h3
    · have := Nat.pow_le_pow_right (n := 2) (by omega) (show a + 1 ≤ c by omega)
      rw [Nat.pow_succ] at this
      omega
    · exact h3
    · have := Nat.pow_le_pow_right (n := 2) (by omega) (show c + 1 ≤ a by omega)
      rw [Nat.pow_succ] at this
      omega
  subst hac
  refine ⟨rfl, ?_⟩
  rcases Nat.lt_trichotomy b d with h3 | h3 | h3
  · have := two_pow_ne h3; omega
  · exact h3
  · have := two_pow_ne h3; omega
theorem one_bit {a c d : Nat} (k : d < c) (e : 2 ^ a = 2 ^ c + 2 ^ d) : False := by
  have h2 := two_pow_ne k
  have h0 : 0 < 2 ^ d := Nat.two_pow_pos d
  rcases Nat.lt_or_ge c a with h3 | h3
  · have := Nat.pow_le_pow_right (n := 2) (by omega) (show c + 1 ≤ a by omega)
    rw [Nat.pow_succ] at this
    omega
  · have := Nat.pow_le_pow_right (n := 2) (by omega) h3
    omega
theorem pow_inj {a c : Nat} (e : 2 ^ a = 2 ^ c) : a = c := by
  rcases Nat.lt_trichotomy a c with h | h | h
  · have := two_pow_ne h; omega
  · exact h
  · have := two_pow_ne h; omega
/-- What is met ahead, if it is this set. -/
theorem hitA_at {t : Tab} {l : List Int} {s a : Nat} (h : hitA t l s a = true) : ∃ a', a' < a ∧ ((∃ b', b' < a' ∧ s = 2 ^ a' + 2 ^ b') ∨ s = 2 ^ a') := by
  obtain ⟨a', h1, h2⟩ := List.any_eq_true.1 h
  rcases Bool.or_eq_true_iff.1 h2 with h3 | h3
  · obtain ⟨b', h4, h5⟩ := List.any_eq_true.1 h3
    exact ⟨a', List.mem_range.1 h1, .inl ⟨b', List.mem_range.1 h4, of_decide_eq_true (Bool.and_eq_true_iff.1 h5).2⟩⟩
  · exact ⟨a', List.mem_range.1 h1, .inr (of_decide_eq_true (Bool.and_eq_true_iff.1 h3).1)⟩
theorem hitI_first {t : Tab} {l : List Int} {s a b : Nat} (hb : b < a) (h : okR t l s a b = true) : hitI t l s a b = false := by
  have hs : s = 2 ^ a + 2 ^ b := of_decide_eq_true (Bool.and_eq_true_iff.1 h).2
  rw [Bool.eq_false_iff]
  intro hh
  rcases Bool.or_eq_true_iff.1 hh with h1 | h1
  · obtain ⟨a', h2, ⟨b', h3, h4⟩ | h4⟩ := hitA_at h1
    · have := two_bits hb h3 (hs.symm.trans h4); omega
    · exact one_bit hb (h4.symm.trans hs)
  · obtain ⟨b', h2, h3⟩ := List.any_eq_true.1 h1
    have h2 := List.mem_range.1 h2
    have := two_bits hb (show b' < a by omega) (hs.symm.trans (of_decide_eq_true (Bool.and_eq_true_iff.1 h3).2)); omega
theorem hitI_alone {t : Tab} {l : List Int} {s a : Nat} (h : okA t l s a = true) : hitI t l s a a = false := by
  have hs : s = 2 ^ a := of_decide_eq_true (Bool.and_eq_true_iff.1 h).1
  rw [Bool.eq_false_iff]
  intro hh
  rcases Bool.or_eq_true_iff.1 hh with h1 | h1
  · obtain ⟨a', h2, ⟨b', h3, h4⟩ | h4⟩ := hitA_at h1
    · exact one_bit h3 (hs.symm.trans h4)
    · have := pow_inj (hs.symm.trans h4); omega
  · obtain ⟨b', h2, h3⟩ := List.any_eq_true.1 h1
    exact one_bit (List.mem_range.1 h2) (hs.symm.trans (of_decide_eq_true (Bool.and_eq_true_iff.1 h3).2))
theorem partsR_some {t : Tab} {l : List Int} {a b : Nat} {low high : Int} (h : (partsR t l a b low high).2 = true) :
    ((partsR t l a b low high).1.1 ≤ (partsR t l a b low high).1.2 ∧ low ≤ (partsR t l a b low high).1.1 ∧ (partsR t l a b low high).1.2 ≤ high) ∧ ∀ n, (partsR t l a b low high).1.1 ≤ n ∧ n ≤ (partsR t l a b low high).1.2 ↔ (low ≤ n ∧ n ≤ high) ∧ explB t l a b n = true := by
  have h1 := tight_in t l a b low high
  have h2 := fun n => tight_expl t l a b (low, high) n
  unfold partsR at *
  by_cases hc : (tightL (bnds t l a b) (low, high)).1 ≤ (tightL (bnds t l a b) (low, high)).2
  · rw [if_pos hc]
    exact ⟨⟨hc, (h1 hc).1, (h1 hc).2⟩, h2⟩
  · rw [if_neg hc] at h; cases h
theorem hitA_end {t : Tab} {l : List Int} (h8 : t.ks.length ≤ 8) (s : Nat) : hitA t l s t.ks.length = decide (s ∈ setList t l) := by
  rw [Bool.eq_iff_iff, decide_eq_true_eq]
  constructor
  · intro h
    obtain ⟨a, h1, h2⟩ := List.any_eq_true.1 h
    have ha := List.mem_range.1 h1
    rcases Bool.or_eq_true_iff.1 h2 with h3 | h3
    · obtain ⟨b, h4, h5⟩ := List.any_eq_true.1 h3
      have hb := List.mem_range.1 h4
      obtain ⟨h6, h7⟩ := Bool.and_eq_true_iff.1 h5
      have h7 := of_decide_eq_true h7
      have hp := partsR_some h6
      have he := (hp.2 _).1 ⟨Int.le_refl _, hp.1.1⟩
      refine List.mem_map.2 ⟨(⟨b, by omega⟩, ⟨a, ha⟩), (mem_outer _ _ (Nat.le_refl _)).2 ⟨by show b < _; omega, by show b ≤ a; omega, pairOk_of (n := 1000 - (partsR t l a b 1 999).1.1) (by rw [if_neg (by show ¬ b = a; omega)]; omega) (by rw [← explB_sym]; exact he.2)⟩, ?_⟩
      unfold pairSet
      rw [h7, Nat.or_comm]
      exact or_add ⟨a, by omega⟩ ⟨b, by omega⟩ (fun e => (show ¬ a = b by omega) (by simpa using e))
    · obtain ⟨h6, h7⟩ := Bool.and_eq_true_iff.1 h3
      have h6 := of_decide_eq_true h6
      refine List.mem_map.2 ⟨(⟨a, ha⟩, ⟨a, ha⟩), (mem_outer _ _ (Nat.le_refl _)).2 ⟨ha, Nat.le_refl _, by rw [pairOk_expl]; exact h7⟩, ?_⟩
      unfold pairSet
      rw [h6, Nat.or_self]
  · intro h
    obtain ⟨x, hx, rfl⟩ := List.mem_map.1 h
    obtain ⟨_, h1, h2⟩ := (mem_outer x _ (Nat.le_refl _)).1 hx
    have hx2 := x.2.2
    refine List.any_eq_true.2 ⟨x.2.1, List.mem_range.2 hx2, ?_⟩
    rw [Bool.or_eq_true]
    by_cases hc : x.1.1 = x.2.1
    · right
      rw [hc, pairOk_expl] at h2
      unfold okA pairSet
      rw [h2, hc, Nat.or_self]
      simp
    · left
      obtain ⟨n, hn, he⟩ := pairOk_some h2
      rw [if_neg hc] at hn
      refine List.any_eq_true.2 ⟨x.1.1, List.mem_range.2 (by omega), ?_⟩
      unfold okR
      rw [partsR_true (n := 1000 - n) (by omega) (by rw [explB_sym, show (1000 : Int) - (1000 - n) = n by omega]; exact he), Bool.true_and]
      refine decide_eq_true ?_
      unfold pairSet
      rw [Nat.or_comm]
      exact or_add ⟨x.2.1, by omega⟩ ⟨x.1.1, by omega⟩ (fun e => hc (show x.2.1 = x.1.1 by simpa using e).symm)
/-- What has been met, a set after another. -/
def allI (t : Tab) (l : List Int) (s a b : Nat) : List Int := allV t l s ++ (if hitI t l s a b then [(s : Int)] else [])
theorem allI_start (t : Tab) (l : List Int) (s : Nat) : allI t l s 0 0 = allV t l s := by simp [allI, hitI, hitA]
theorem allI_no {t : Tab} {l : List Int} {s a b : Nat} (h : okR t l s a b = false) : allI t l s a (b + 1) = allI t l s a b := by
  unfold allI
  rw [hitI_succ, h, Bool.or_false]
theorem allI_yes {t : Tab} {l : List Int} {s a b : Nat} (hb : b < a) (h : okR t l s a b = true) : allI t l s a (b + 1) = allI t l s a b ++ [(s : Int)] := by
  unfold allI
  rw [hitI_succ, h, hitI_first hb h]
  simp
theorem allA_no {t : Tab} {l : List Int} {s a : Nat} (h : okA t l s a = false) : allI t l s (a + 1) 0 = allI t l s a a := by
  unfold allI
  rw [hitI_zero, hitA_succ, h, Bool.or_false]
theorem allA_yes {t : Tab} {l : List Int} {s a : Nat} (h : okA t l s a = true) : allI t l s (a + 1) 0 = allI t l s a a ++ [(s : Int)] := by
  unfold allI
  rw [hitI_zero, hitA_succ, h, hitI_alone h]
  simp
theorem allI_end {t : Tab} {l : List Int} (h8 : t.ks.length ≤ 8) (s : Nat) : allI t l s t.ks.length 0 = allV t l (s + 1) := by
  unfold allI
  rw [hitI_zero, hitA_end h8, allV_succ]
  simp
theorem allI_len (t : Tab) (l : List Int) (s a b : Nat) : (allI t l s a b).length ≤ s + 1 := by
  have := allV_len t l s
  unfold allI
  rw [List.length_append]
  split <;> simp <;> omega

/-! ### hulls -/
def hullF (rs : List (Int × Int)) (acc : Int × Int) : Int × Int := rs.foldl (fun a r => (min a.1 r.1, max a.2 r.2)) acc
theorem hull_all (rs : List (Int × Int)) : ∀ (acc : Int × Int),
    ((hullF rs acc).1 = acc.1 ∨ ∃ x ∈ rs, (hullF rs acc).1 = x.1) ∧ ((hullF rs acc).2 = acc.2 ∨ ∃ x ∈ rs, (hullF rs acc).2 = x.2) ∧ ((hullF rs acc).1 ≤ acc.1 ∧ acc.2 ≤ (hullF rs acc).2) ∧ ∀ x ∈ rs, (hullF rs acc).1 ≤ x.1 ∧ x.2 ≤ (hullF rs acc).2 := by
  induction rs with
  | nil => intro acc; exact ⟨.inl rfl, .inl rfl, ⟨Int.le_refl _, Int.le_refl _⟩, fun x hx => by cases hx⟩
  | cons y ys ih =>
    intro acc
    have h := ih (min acc.1 y.1, max acc.2 y.2)
    have he : hullF (y :: ys) acc = hullF ys (min acc.1 y.1, max acc.2 y.2) := rfl
    rw [he]
    generalize hullF ys (min acc.1 y.1, max acc.2 y.2) = r at *
    obtain ⟨a1, a2, a3, a4⟩ := h
    dsimp only at a1 a2 a3
    replace a1 := Lib.hid a1
    replace a2 := Lib.hid a2
    refine ⟨?_, ?_, ⟨by omega, by omega⟩, ?_⟩
    · rcases a1.out with a1 | ⟨x, hx, e⟩
      · by_cases hc : acc.1 ≤ y.1
        · exact .inl (by omega)
        · exact .inr ⟨y, by simp, by omega⟩
      · exact .inr ⟨x, by simp [hx], e⟩
    · rcases a2.out with a2 | ⟨x, hx, e⟩
      · by_cases hc : y.2 ≤ acc.2
        · exact .inl (by omega)
        · exact .inr ⟨y, by simp, by omega⟩
      · exact .inr ⟨x, by simp [hx], e⟩
    · intro x hx
      rcases List.mem_cons.1 hx with rfl | hx
      · omega
      · exact a4 x hx
/-- Two hulls are one, if each range of the one is within some of the other, end by end. -/
theorem hull_same {A B : List (Int × Int)} {u v : Int × Int} (hA : A ≠ []) (ha : ∀ r ∈ A, r.1 ≤ u.1 ∧ u.2 ≤ r.2) (hb : ∀ r ∈ B, r.1 ≤ v.1 ∧ v.2 ≤ r.2)
    (h1 : ∀ r ∈ A, (∃ s ∈ B, s.1 ≤ r.1) ∧ ∃ s ∈ B, r.2 ≤ s.2) (h2 : ∀ s ∈ B, (∃ r ∈ A, r.1 ≤ s.1) ∧ ∃ r ∈ A, s.2 ≤ r.2) : hullF A u = hullF B v := by
  have p := (hull_all A u).2.2
  have q := (hull_all B v).2.2
  have top : ∀ (C : List (Int × Int)) (c : Int × Int), C ≠ [] → (∀ r ∈ C, r.1 ≤ c.1 ∧ c.2 ≤ r.2) → (∃ x ∈ C, (hullF C c).1 = x.1) ∧ ∃ x ∈ C, (hullF C c).2 = x.2 := by
    intro C c hC hc
    obtain ⟨a1, a2, a3, a4⟩ := hull_all C c
    replace a1 := Lib.hid a1
    replace a2 := Lib.hid a2
    obtain ⟨y, hy⟩ := List.exists_mem_of_ne_nil C hC
    have b1 := hc y hy
    have b2 := a4 y hy
    refine ⟨?_, ?_⟩
    · rcases a1.out with a1 | a1
      · exact ⟨y, hy, by omega⟩
      · exact a1
    · rcases a2.out with a2 | a2
      · exact ⟨y, hy, by omega⟩
      · exact a2
  have hB : B ≠ [] := by
    obtain ⟨y, hy⟩ := List.exists_mem_of_ne_nil A hA
    obtain ⟨⟨s, hs, _⟩, _⟩ := h1 y hy
    exact List.ne_nil_of_mem hs
  obtain ⟨⟨x1, hx1, e1⟩, ⟨x2, hx2, e2⟩⟩ := top A u hA ha
  obtain ⟨⟨y1, hy1, f1⟩, ⟨y2, hy2, f2⟩⟩ := top B v hB hb
  obtain ⟨s1, hs1, g1⟩ := (h1 x1 hx1).1
  obtain ⟨s2, hs2, g2⟩ := (h1 x2 hx2).2
  obtain ⟨r1, hr1, k1⟩ := (h2 y1 hy1).1
  obtain ⟨r2, hr2, k2⟩ := (h2 y2 hy2).2
  have m1 := (q.2 s1 hs1).1
  have m2 := (q.2 s2 hs2).2
  have n1 := (p.2 r1 hr1).1
  have n2 := (p.2 r2 hr2).2
  exact Prod.ext (by omega) (by omega)
end Go.Proofs.YtnpajncolkafgaaGreatDoor

namespace Go.Proofs.YtnpajncolkafgaaGreatDoor
open Go.RowKit Go.Shelf

/-- What holds through the rounds. -/
structure AlJ (w : World) (tc : Array Value) (W : World) : Prop where
  tb : Blk W w.heap.size 25 tc
  b : Below w.heap.size w W
theorem AlJ.on {w W W' : World} {tc : Array Value} (h : AlJ w tc W) (hb : Below W.heap.size W W') : AlJ w tc W' := ⟨h.tb.on hb, h.b.trans (hb.mono h.b.size)⟩
theorem AlJ.grown {w W W' : World} {tc : Array Value} {row : Option Nat} (h : AlJ w tc W) (hg : W.grownBy W' row) (hr : ∀ r, row = some r → w.heap.size + 1 ≤ r) : AlJ w tc W' :=
  ⟨h.tb.grown hg hr (by omega), h.b.grown hg h.b.size fun r e => by have := hr r e; omega⟩

set_option maxRecDepth 100000 in
set_option maxHeartbeats 2000000 in
theorem rall_any {w : World} {pa ka ra : Option Addr} {pc kc rc : Nat} {t : Tab} {l : List Int} (h : SamIn w pa ka ra pc kc t l) :
    Calls Tryz.prog 68 #[.agg #[.slice pa t.ps.length pc, .slice ka t.ks.length kc, .int .i64 t.pu], .slice ra l.length rc] w fun e w' => ∃ v, e = .returned v ∧ IntsOut w.heap.size w' v (setsV t l) ∧ Below w.heap.size w w' := by
  obtain ⟨i0, hi0, hz0, hz1, hz2⟩ := info_parts infoInt
  have hp := h.tab.tab.lp
  have hk := h.tab.tab.lk
  have hl := h.rds.len
  have hk8 := h.val.nk
  have hJ : AlJ w #[.slice pa t.ps.length pc, .slice ka t.ks.length kc, .int .i64 t.pu] (w.alloc (.cells #[.slice pa t.ps.length pc, .slice ka t.ks.length kc, .int .i64 t.pu] 25)) := ⟨Blk.new w _ _, (Below.refl _ w).alloc (Nat.le_refl _) _⟩
  have HJ := Lib.hid hJ
  have HS := Lib.hid h
  have HPA := Lib.hid (fun (W : World) (hW : Below w.heap.size w W) (a b : Nat) (hal : a < t.ks.length) (hbl : b < t.ks.length) => rparts_any (rc := rc) (h.on hW) a b hal hbl 1 999 (by omega) (by omega) (by omega))
  have HEX := Lib.hid (fun (W : World) (hW : Below w.heap.size w W) (a : Nat) (hal : a < t.ks.length) => rexplains_any (rc := rc) (h.on hW) a a hal hal 1000 (by omega))
  have h256 : 2 ^ t.ks.length ≤ 256 := Nat.pow_le_pow_right (n := 2) (by omega) hk8.2
  have HEND := Lib.hid (allV_end (t := t) l hk8.2)
  have HBN := Lib.hid (fun (W : World) => bit_any t.ks.length hk8.2 W)
  obtain ⟨N, hN⟩ : ∃ N : Nat, 2 ^ t.ks.length = N := ⟨_, rfl⟩
  have hN1 : 1 ≤ N := by rw [← hN]; exact Nat.one_le_two_pow
  rw [hN] at h256 HEND HBN
  clear h hJ hN
  go_enter Tryz.func68, Tryz.ntmps68
  go_wp2_with fail
  go_loopw [5, 7] (fun v i wr => ∃ s : Nat, (1 ≤ s ∧ s ≤ N) ∧ i = .int .i64 s ∧ Hid (IntsOut (w.heap.size + 1) wr v (allV t l s)) ∧ AlJ w #[.slice pa t.ps.length pc, .slice ka t.ks.length kc, .int .i64 t.pu] wr) (fun _ i _ => N - (intOf i).toNat)
  case atStart => exact ⟨1, ⟨by omega, by omega⟩, rfl, by show IntsOut _ _ _ _; rw [allV_one]; exact World.ownsRow_nil _ _ _ _, HJ.out⟩
  case round =>
    obtain ⟨s, ⟨hs1, hsN⟩, rfl, HO, hI⟩ := hrel
    obtain ⟨x0, x1, x2, -, -, -, -⟩ := hI.tb.three
    have HB := Lib.hid (HBN.out wr)
    by_cases hlt : s < N
    · have HI := Lib.hid hI
      have HO2 := Lib.hid (show IntsOut (w.heap.size + 1) wr _ (allI t l s 0 0) by rw [allI_start]; exact HO.out)
      clear hI HO
      go_wp2_with (first | (go_at_call 42; ((with_reducible refine HB.out.mono ?_); rintro e w' ⟨rfl, hw'⟩; rw [hw']; clear hw')) | fail)
      go_loopw [5, 8] (fun v i wq => ∃ a : Nat, a ≤ t.ks.length ∧ i = .int .i64 a ∧ Hid (IntsOut (w.heap.size + 1) wq v (allI t l s a 0)) ∧ AlJ w #[.slice pa t.ps.length pc, .slice ka t.ks.length kc, .int .i64 t.pu] wq) (fun _ i _ => t.ks.length - (intOf i).toNat)
      case atStart => exact ⟨0, by omega, rfl, HO2, HI.out⟩
      case round =>
        obtain ⟨a, hal, rfl, HO, hI⟩ := hrel
        obtain ⟨x0, x1, x2, -, -, -, -⟩ := hI.tb.three
        by_cases hla : a < t.ks.length
        · have HI := Lib.hid hI
          have HBA := Lib.hid (fun (W : World) => bit_any a (by omega) W)
          obtain ⟨A, hA⟩ : ∃ A : Nat, 2 ^ a = A := ⟨_, rfl⟩
          have hA2 : A ≤ 256 := by rw [← hA]; exact Nat.le_trans (Nat.pow_le_pow_right (n := 2) (by omega) (show a ≤ 8 by omega)) (by decide)
          rw [hA] at HBA
          clear hI
          go_wp2_with fail
          go_loopw [5, 9] (fun v i wz => ∃ b : Nat, b ≤ a ∧ i = .int .i64 b ∧ Hid (IntsOut (w.heap.size + 1) wz v (allI t l s a b)) ∧ AlJ w #[.slice pa t.ps.length pc, .slice ka t.ks.length kc, .int .i64 t.pu] wz) (fun _ i _ => a - (intOf i).toNat)
          case atStart => exact ⟨0, by omega, rfl, HO, HI.out⟩
          case round =>
            obtain ⟨b, hbl, rfl, HO, hI⟩ := hrel
            obtain ⟨x0, x1, x2, -, -, -, hxl⟩ := hI.tb.three
            by_cases hlb : b < a
            · have HP := Lib.hid (HPA.out _ hI.b a b hla (by omega))
              have HBB := Lib.hid (fun (W : World) => bit_any b (by omega) W)
              obtain ⟨B, hB⟩ : ∃ B : Nat, 2 ^ b = B := ⟨_, rfl⟩
              have hB2 : B ≤ 256 := by rw [← hB]; exact Nat.le_trans (Nat.pow_le_pow_right (n := 2) (by omega) (show b ≤ 8 by omega)) (by decide)
              rw [hB] at HBB
              have hok : okR t l s a b = ((partsR t l a b 1 999).2 && decide (s = A + B)) := by unfold okR; rw [hA, hB]
              have hlen := allI_len t l s a b
              have hyes := Lib.hid (fun h => allI_yes (t := t) (l := l) (s := s) hlb h)
              have hno := Lib.hid (fun h => allI_no (t := t) (l := l) (s := s) (a := a) (b := b) h)
              rw [hok] at hyes hno
              generalize partsR t l a b 1 999 = Q at *
              obtain ⟨⟨Q1, Q2⟩, Q3⟩ := Q
              dsimp only at *
              have kab : IntKind.i64.wrap ((A : Int) + (B : Int)) = (A : Int) + (B : Int) := IntWalk.i64_in _ (by omega)
              clear hok hB
              go_wp2_with fail
              refine HP.out.mono ?_
              rintro e w5 ⟨rfl, hb5⟩
              have hI5 := (hI.on hb5).on ((Below.refl _ w5).alloc (Nat.le_refl _) (.cells #[.int .i64 Q1, .int .i64 Q2] 35))
              have hsz := (hI.on hb5).tb.lt
              have hO5 := own_below (own_below HO.out hb5) ((Below.refl _ w5).alloc (Nat.le_refl _) (.cells #[.int .i64 Q1, .int .i64 Q2] 35))
              obtain ⟨x0, x1, x2, -, -, -, hxl⟩ := hI5.tb.three
              have HO5 := Lib.hid hO5
              have HI5 := Lib.hid hI5
              cases Q3 with
              | false =>
                have HEQ := Lib.hid (hno.out rfl)
                go_wp2_with fail
                go_roundw
                case rel => exact ⟨b + 1, by omega, by go_num, by show IntsOut _ _ _ _; rw [HEQ.out]; exact HO5.out, HI5.out⟩
                case measure => simp [intOf]; omega
              | true =>
                by_cases he : s = A + B
                · have HEQ := Lib.hid (hyes.out (by simp [he]))
                  have g0 : ((s : Int) == (A : Int) + (B : Int)) = true := by
                    rw [beq_iff_eq]; omega
                  clear he
                  go_wp2_with (first
                    | (go_at_call 42; first | ((with_reducible refine (HBA.out _).mono ?_); rintro e w' ⟨rfl, hw'⟩; rw [hw']; clear hw') | ((with_reducible refine (HBB.out _).mono ?_); rintro e w' ⟨rfl, hw'⟩; rw [hw']; clear hw'))
                    | (at_builtin; refine wpList_append_lies _ rfl _ _ 32 rfl (w.heap.size + 1) 3 i0 (.int .i64 0) 1 8 Tryz.underlying32 hi0 hz0 hz1 hz2 rfl (by decide) _ _ _ rfl (World.ownsRow.alloc HO5.out _) ⟨_, 0, none⟩ 1 1 [.int .i64 s] rfl rfl ?c1 ?c2 (by decide) ?c3 ?c4 ?c5 _ rfl ?_)
                    | go_in)
                  case c1 =>
                    intro j u hj
                    match j, hj with
                    | 0, hj => simp at hj; subst hj; simp [Addr.add]
                  case c2 => intro u hu; simp at hu; subst hu; rfl
                  case c3 => unfold maxLen; omega
                  case c4 => omega
                  case c5 => simp; omega
                  · intro g cap w8 hown hgrow hat hglt
                    go_wp2_with fail
                    go_roundw
                    case rel =>
                      refine ⟨b + 1, by omega, by go_num, ?_, ?_⟩
                      · show IntsOut _ _ _ _
                        rw [HEQ.out]
                        unfold IntsOut
                        simpa using hown
                      · exact (HI5.out.on ((Below.refl _ _).alloc (Nat.le_refl _) _)).grown hgrow (fun r e => (World.ownsRow.lt HO5.out r e).1)
                    case measure => simp [intOf]; omega
                · have HEQ := Lib.hid (hno.out (by simp [he]))
                  have g0 : ((s : Int) == (A : Int) + (B : Int)) = false := by
                    rw [beq_eq_false_iff_ne]; exact fun e => he (by omega)
                  clear he
                  go_wp2_with (first | (go_at_call 42; first | ((with_reducible refine (HBA.out _).mono ?_); rintro e w' ⟨rfl, hw'⟩; rw [hw']; clear hw') | ((with_reducible refine (HBB.out _).mono ?_); rintro e w' ⟨rfl, hw'⟩; rw [hw']; clear hw')) | fail)
                  go_roundw
                  case rel => exact ⟨b + 1, by omega, by go_num, by show IntsOut _ _ _ _; rw [HEQ.out]; exact HO5.out, HI5.out⟩
                  case measure => simp [intOf]; omega
            · have hbe : b = a := by omega
              subst hbe
              have hlen := allI_len t l s b b
              have hsz := hI.tb.lt
              have hE := HEX.out _ hI.b b hla
              have hok : okA t l s b = (decide (s = A) && explB t l b b 1000) := by unfold okA; rw [hA]
              have hyes := Lib.hid (fun h => allA_yes (t := t) (l := l) (s := s) (a := b) h)
              have hno := Lib.hid (fun h => allA_no (t := t) (l := l) (s := s) (a := b) h)
              rw [hok] at hyes hno
              generalize explB t l b b 1000 = E at *
              have HE := Lib.hid hE
              have HI := Lib.hid hI
              clear hok hA hE
              by_cases he : s = A
              · have g0 : ((s : Int) == (A : Int)) = true := by
                  rw [beq_iff_eq]; omega
                cases E with
                | false =>
                  have HEQ := Lib.hid (hno.out (by simp))
                  clear he
                  go_wp2_with (first | (go_at_call 42; ((with_reducible refine (HBA.out _).mono ?_); rintro e w' ⟨rfl, hw'⟩; rw [hw']; clear hw')) | fail)
                  refine HE.out.mono ?_
                  rintro e w5 ⟨rfl, hb5⟩
                  have HI5 := Lib.hid (HI.out.on hb5)
                  have HO5 := Lib.hid (own_below HO.out hb5)
                  clear hb5
                  go_wp2_with fail
                  go_roundw
                  case rel => exact ⟨b + 1, by omega, by go_num, by show IntsOut _ _ _ _; rw [HEQ.out]; exact HO5.out, HI5.out⟩
                  case measure => simp [intOf]; omega
                | true =>
                  have HEQ := Lib.hid (hyes.out (by simp [he]))
                  clear he
                  go_wp2_with (first | (go_at_call 42; ((with_reducible refine (HBA.out _).mono ?_); rintro e w' ⟨rfl, hw'⟩; rw [hw']; clear hw')) | fail)
                  refine HE.out.mono ?_
                  rintro e w5 ⟨rfl, hb5⟩
                  have HI5 := Lib.hid (HI.out.on hb5)
                  have HO5 := Lib.hid (own_below HO.out hb5)
                  have hsz := HI5.out.tb.lt
                  clear hb5
                  go_wp2_with (first
                    | (at_builtin; refine wpList_append_lies _ rfl _ _ 32 rfl (w.heap.size + 1) 3 i0 (.int .i64 0) 1 8 Tryz.underlying32 hi0 hz0 hz1 hz2 rfl (by decide) _ _ _ rfl (World.ownsRow.alloc HO5.out _) ⟨_, 0, none⟩ 1 1 [.int .i64 s] rfl rfl ?c1 ?c2 (by decide) ?c3 ?c4 ?c5 _ rfl ?_)
                    | go_in)
                  case c1 =>
                    intro j u hj
                    match j, hj with
                    | 0, hj => simp at hj; subst hj; simp [Addr.add]
                  case c2 => intro u hu; simp at hu; subst hu; rfl
                  case c3 => unfold maxLen; omega
                  case c4 => omega
                  case c5 => simp; omega
                  · intro g cap w8 hown hgrow hat hglt
                    go_wp2_with fail
                    go_roundw
                    case rel =>
                      refine ⟨b + 1, by omega, by go_num, ?_, ?_⟩
                      · show IntsOut _ _ _ _
                        rw [HEQ.out]
                        unfold IntsOut
                        simpa using hown
                      · exact (HI5.out.on ((Below.refl _ _).alloc (Nat.le_refl _) _)).grown hgrow (fun r e => (World.ownsRow.lt HO5.out r e).1)
                    case measure => simp [intOf]; omega
              · have HEQ := Lib.hid (hno.out (by simp [he]))
                have g0 : ((s : Int) == (A : Int)) = false := by
                  rw [beq_eq_false_iff_ne]; exact fun e => he (by omega)
                clear he
                go_wp2_with (first | (go_at_call 42; ((with_reducible refine (HBA.out _).mono ?_); rintro e w' ⟨rfl, hw'⟩; rw [hw']; clear hw')) | fail)
                go_roundw
                case rel => exact ⟨b + 1, by omega, by go_num, by show IntsOut _ _ _ _; rw [HEQ.out]; exact HO.out, HI.out⟩
                case measure => simp [intOf]; omega
        · have hae : a = t.ks.length := by omega
          have HO3 := Lib.hid (show IntsOut (w.heap.size + 1) wr _ (allV t l (s + 1)) by
            have h := HO.out
            rw [hae, allI_end hk8.2] at h
            exact h)
          clear hae
          go_wp2_with fail
          go_roundw
          case rel => exact ⟨s + 1, ⟨by omega, by omega⟩, by go_num, HO3, hI⟩
          case measure => simp [intOf]; omega
    · have hse : s = N := by omega
      have h := HO.out
      rw [hse, HEND.out] at h
      have HO3 := Lib.hid (h.base (show w.heap.size ≤ w.heap.size + 1 by omega))
      clear h hse HO
      go_wp2_with (first | (go_at_call 42; ((with_reducible refine HB.out.mono ?_); rintro e w' ⟨rfl, hw'⟩; rw [hw']; clear hw')) | fail)
      go_ret
      exact ⟨_, rfl, HO3.out, hI.b⟩
end Go.Proofs.YtnpajncolkafgaaGreatDoor

namespace Go.Proofs.YtnpajncolkafgaaGreatDoor
open Go.RowKit Go.Shelf

theorem has_fin : ∀ s : Fin 256, ∀ k : Fin 8, ((((s.1 : Int).tdiv ((2 ^ k.1 : Nat) : Int)).tmod 2) == 1) = s.1.testBit k.1 := by decide +kernel
set_option maxRecDepth 100000 in
set_option maxHeartbeats 1000000 in
theorem has_any (s k : Nat) (hs : s < 256) (hk : k < 8) (w : World) :
    Calls Tryz.prog 49 #[.int .i64 s, .int .i64 k] w fun e w' => e = .returned (.bool (s.testBit k)) ∧ w' = w := by
  have hf := has_fin ⟨s, hs⟩ ⟨k, hk⟩
  have H := Lib.hid (bit_any k (by omega) w)
  dsimp only at hf
  have hp : (0 : Int) < ((2 ^ k : Nat) : Int) := by exact_mod_cast Nat.two_pow_pos k
  have hp2 : ((2 ^ k : Nat) : Int) ≤ 256 := by
    have h : 2 ^ k ≤ 256 := Nat.pow_le_pow_right (n := 2) (by omega) (show k ≤ 8 by omega)
    exact_mod_cast h
  generalize ((2 ^ k : Nat) : Int) = B at *
  obtain ⟨q, hq⟩ : ∃ q, (s : Int).tdiv B = q := ⟨_, rfl⟩
  have hq2 : (s : Int) / B = q := by rw [← hq]; exact (Int.tdiv_eq_ediv_of_nonneg (by omega)).symm
  have hq0 : 0 ≤ q ∧ q ≤ 256 := by
    have h1 := Int.ediv_nonneg (show (0 : Int) ≤ s by omega) (show 0 ≤ B by omega)
    have h2 := Int.ediv_le_self B (show (0 : Int) ≤ s by omega)
    omega
  rw [hq] at hf
  obtain ⟨r, hr⟩ : ∃ r, q.tmod 2 = r := ⟨_, rfl⟩
  have hr2 : q % 2 = r := by rw [← hr]; exact (Int.tmod_eq_emod_of_nonneg hq0.1).symm
  rw [hr] at hf
  have kq : IntKind.i64.wrap q = q := IntWalk.i64_in _ (by omega)
  have z1 : (B == 0) = false := by
    have h : ¬ B = 0 := by omega
    simpa using h
  have z2 : ¬ B = 0 := by omega
  rw [← hf]
  clear hf
  go_enter Tryz.func49, Tryz.ntmps49
  go_wp2_with (first | (go_at_call 42; ((with_reducible refine H.out.mono ?_); rintro e w' ⟨rfl, hw'⟩; rw [hw']; clear hw')) | fail)
  go_ret
  exact ⟨rfl, rfl⟩

set_option maxRecDepth 100000 in
set_option maxHeartbeats 1000000 in
theorem rsets_any {w : World} {pa ka ra : Option Addr} {pc kc rc : Nat} {t : Tab} {l : List Int} (h : RdIn w pa ka ra pc kc t l) :
    Calls Tryz.prog 26 #[.agg #[.slice pa t.ps.length pc, .slice ka t.ks.length kc, .int .i64 t.pu], .slice ra l.length rc] w (OneOut w (setsT t l)) := by
  have hJ : AlJ w #[.slice pa t.ps.length pc, .slice ka t.ks.length kc, .int .i64 t.pu] (w.alloc (.cells #[.slice pa t.ps.length pc, .slice ka t.ks.length kc, .int .i64 t.pu] 25)) := ⟨Blk.new w _ _, (Below.refl _ w).alloc (Nat.le_refl _) _⟩
  have hp := h.tab.tab.lp
  have hk := h.tab.tab.lk
  have hl := h.rds.len
  have H1 := Lib.hid (rreadings_any (rc := rc) (h.on hJ.b))
  have HT := Lib.hid h
  have HJ := Lib.hid hJ
  clear h hJ
  by_cases h0 : lookErr t l = 0
  · have hT : setsT t l = (setsV t l, 0) := by unfold setsT; rw [if_neg (by simpa using h0)]
    have HS := Lib.hid (fun (W : World) (hW : Below w.heap.size w W) => rall_any (rc := rc) ((HT.out.sam h0).on hW))
    rw [hT]
    rw [h0] at H1
    clear hT h0
    go_enter Tryz.func26, Tryz.ntmps26
    go_wp2_with fail
    refine H1.out.mono ?_
    rintro e w1 ⟨rfl, hb1⟩
    have HJ := Lib.hid (HJ.out.on hb1)
    obtain ⟨x0, x1, x2, -, -, -, -⟩ := HJ.out.tb.three
    have H2 := Lib.hid (HS.out _ HJ.out.b)
    clear hb1 H1 HS
    go_wp2_with fail
    refine H2.out.mono ?_
    rintro e w2 ⟨v, rfl, hv, hb2⟩
    have HV := Lib.hid (hv.base HJ.out.b.size)
    have HJ := Lib.hid (HJ.out.on hb2)
    clear hv hb2 H2
    go_wp2_with fail
    refine bodyPost_ret ?_ rfl ⟨v, rfl, HV.out, HJ.out.b⟩
    simp [results, Tryz.results26, go_sem]
  · have hT : setsT t l = ([], lookErr t l) := by unfold setsT; rw [if_pos h0]
    rw [hT]
    generalize lookErr t l = z at *
    have hz : (z != 0) = true := by simpa using h0
    clear hT h0
    go_enter Tryz.func26, Tryz.ntmps26
    go_wp2_with fail
    refine H1.out.mono ?_
    rintro e w1 ⟨rfl, hb1⟩
    have HJ := Lib.hid (HJ.out.on hb1)
    clear hb1 H1
    go_wp2_with fail
    refine bodyPost_ret ?_ rfl ⟨.slice none 0 0, rfl, World.ownsRow_nil _ _ _ _, HJ.out.b⟩
    simp [results, Tryz.results26, go_sem]
end Go.Proofs.YtnpajncolkafgaaGreatDoor

namespace Go.Proofs.YtnpajncolkafgaaGreatDoor

theorem IntsOut.in_ {B : Nat} {w : World} {v : Value} {l : List Int} (h : IntsOut B w v l) : ∃ A c, v = .slice A l.length c ∧ IntsIn w A l := by
  obtain ⟨vA, vn, vc, rfl⟩ : ∃ A n c, v = .slice A n c := by
    rcases h.2 with ⟨hv, _⟩ | ⟨g, cap, cur, hv, _⟩
    · exact ⟨_, _, _, hv⟩
    · exact ⟨_, _, _, hv⟩
  obtain ⟨rfl, h1, _, h3⟩ := h.reads
  exact ⟨_, _, rfl, h1, by unfold maxLen at h3; omega⟩
end Go.Proofs.YtnpajncolkafgaaGreatDoor

namespace Go.Proofs.YtnpajncolkafgaaGreatDoor
open Go.RowKit

/-- These cells hold these values. -/
structure Held (cs : List (Nat × Nat × Value)) (W : World) : Prop where
  at_ : ∀ c ∈ cs, c.1 < W.heap.size ∧ W.cell? ⟨c.1, c.2.1, none⟩ = some c.2.2
theorem Held.on {cs : List (Nat × Nat × Value)} {W W' : World} (h : Held cs W) (hb : Below W.heap.size W W') : Held cs W' :=
  ⟨fun c hc => ⟨Nat.lt_of_lt_of_le (h.at_ c hc).1 hb.size, (hb.cell (p := ⟨c.1, c.2.1, none⟩) (h.at_ c hc).1).trans (h.at_ c hc).2⟩⟩
theorem Held.alloc {cs : List (Nat × Nat × Value)} {W : World} (h : Held cs W) (o : Obj) : Held cs (W.alloc o) := h.on ((Below.refl _ W).alloc (Nat.le_refl _) _)
theorem Held.drew {cs : List (Nat × Nat × Value)} {W : World} (h : Held cs W) : Held cs W.drew := h.on (Below.refl _ W).drew
theorem Held.drewN {cs : List (Nat × Nat × Value)} {W : World} (h : Held cs W) (n : Nat) : Held cs (W.drewN n) := h.on (below_drewN' (Below.refl _ W) n)
theorem Held.nil (W : World) : Held [] W := ⟨fun _ h => by cases h⟩
theorem Held.cons {cs : List (Nat × Nat × Value)} {W : World} {b o : Nat} {v : Value} (hb : b < W.heap.size) (hc : W.cell? ⟨b, o, none⟩ = some v) (h : Held cs W) : Held ((b, o, v) :: cs) W :=
  ⟨fun c hm => by
    rcases List.mem_cons.1 hm with rfl | hm
    · exact ⟨hb, hc⟩
    · exact h.at_ c hm⟩
/-- The cells, one by one, and all of them again. -/
def heldP (W : World) (P : Prop) : List (Nat × Nat × Value) → Prop
  | [] => P
  | c :: cs => W.cell? ⟨c.1, c.2.1, none⟩ = some c.2.2 ∧ heldP W P cs
theorem heldP_of {W : World} {P : Prop} (hP : P) : ∀ (cs : List (Nat × Nat × Value)), (∀ c ∈ cs, W.cell? ⟨c.1, c.2.1, none⟩ = some c.2.2) → heldP W P cs
  | [], _ => hP
  | c :: cs, h => ⟨h c (by simp), heldP_of hP cs fun d hd => h d (by simp [hd])⟩
theorem Held.all {cs : List (Nat × Nat × Value)} {W : World} (h : Held cs W) : heldP W (Held cs W) cs := heldP_of h cs fun c hc => (h.at_ c hc).2

/-- .. behind what was there at the start. -/
structure HeldB (w : World) (cs : List (Nat × Nat × Value)) (W : World) : Prop where
  held : Held cs W
  b : Below w.heap.size w W
theorem HeldB.on {w W W' : World} {cs : List (Nat × Nat × Value)} (h : HeldB w cs W) (hb : Below W.heap.size W W') : HeldB w cs W' := ⟨h.held.on hb, h.b.trans (hb.mono h.b.size)⟩
theorem HeldB.alloc {w W : World} {cs : List (Nat × Nat × Value)} (h : HeldB w cs W) (o : Obj) : HeldB w cs (W.alloc o) := h.on ((Below.refl _ W).alloc (Nat.le_refl _) _)
theorem HeldB.drew {w W : World} {cs : List (Nat × Nat × Value)} (h : HeldB w cs W) : HeldB w cs W.drew := h.on (Below.refl _ W).drew
theorem HeldB.all {w W : World} {cs : List (Nat × Nat × Value)} (h : HeldB w cs W) : heldP W (HeldB w cs W) cs := heldP_of h cs fun c hc => (h.held.at_ c hc).2

theorem HeldB.all8 {w W : World} {b0 o0 b1 o1 b2 o2 b3 o3 b4 o4 b5 o5 b6 o6 b7 o7 : Nat} {v0 v1 v2 v3 v4 v5 v6 v7 : Value} (h : HeldB w [(b0, o0, v0), (b1, o1, v1), (b2, o2, v2), (b3, o3, v3), (b4, o4, v4), (b5, o5, v5), (b6, o6, v6), (b7, o7, v7)] W) : W.cell? ⟨b0, o0, none⟩ = some v0 ∧ W.cell? ⟨b1, o1, none⟩ = some v1 ∧ W.cell? ⟨b2, o2, none⟩ = some v2 ∧ W.cell? ⟨b3, o3, none⟩ = some v3 ∧ W.cell? ⟨b4, o4, none⟩ = some v4 ∧ W.cell? ⟨b5, o5, none⟩ = some v5 ∧ W.cell? ⟨b6, o6, none⟩ = some v6 ∧ W.cell? ⟨b7, o7, none⟩ = some v7 ∧ HeldB w [(b0, o0, v0), (b1, o1, v1), (b2, o2, v2), (b3, o3, v3), (b4, o4, v4), (b5, o5, v5), (b6, o6, v6), (b7, o7, v7)] W :=
  ⟨(h.held.at_ (b0, o0, v0) (by simp)).2, (h.held.at_ (b1, o1, v1) (by simp)).2, (h.held.at_ (b2, o2, v2) (by simp)).2, (h.held.at_ (b3, o3, v3) (by simp)).2, (h.held.at_ (b4, o4, v4) (by simp)).2, (h.held.at_ (b5, o5, v5) (by simp)).2, (h.held.at_ (b6, o6, v6) (by simp)).2, (h.held.at_ (b7, o7, v7) (by simp)).2, h⟩

theorem Two.grown {w W W' : World} {T : TypeId} {tc xc : Array Value} {row : Option Nat} (h : Two w T tc xc W) (hg : W.grownBy W' row) (hr : ∀ r, row = some r → w.heap.size + 2 ≤ r) : Two w T tc xc W' :=
  ⟨h.tb.grown hg hr (by omega), h.xb.grown hg hr (by omega), h.b.grown hg h.b.size fun r e => by have := hr r e; omega⟩
end Go.Proofs.YtnpajncolkafgaaGreatDoor

namespace Go.Proofs.YtnpajncolkafgaaGreatDoor
open Go.ChangeShapes Go.WideShapes Go.ChangeAt Go.RowKit

theorem own : ownKnob Tryz.prog.godebug = none := by kernel_rfl
theorem g_pow : Tryz.prog.globalNamed "internal/strconv.uint64pow10" = some 0 := by kernel_rfl
theorem g_max : Tryz.prog.globalNamed "internal/bytealg.MaxLen" = some 1 := by kernel_rfl
theorem g_syn : Tryz.prog.globalNamed "strconv.ErrSyntax" = some 4 := by kernel_rfl
theorem g_rng : Tryz.prog.globalNamed "strconv.ErrRange" = some 5 := by kernel_rfl
theorem gt_pow : (Tryz.prog.globals[0]?).map (·.type) = some 200 := by kernel_rfl
theorem gt_syn : (Tryz.prog.globals[4]?).map (·.type) = some 165 := by kernel_rfl
theorem gt_rng : (Tryz.prog.globals[5]?).map (·.type) = some 165 := by kernel_rfl
theorem c_pow : Tryz.prog.cellsOf 200 = 20 := by kernel_rfl
theorem c_u64 : Tryz.prog.cellsOf 184 = 1 := by kernel_rfl
theorem c_es : Tryz.prog.cellsOf 234 = 1 := by kernel_rfl
theorem c_str : Tryz.prog.cellsOf 9 = 1 := by kernel_rfl
theorem es_name : Tryz.prog.typeName? 3 232 = some "*errors.errorString" := by kernel_rfl
theorem es_star : "*errors.errorString" = "*" ++ "errors.errorString" := by decide
set_option maxRecDepth 100000 in
theorem es_row (u : TypeId) (h : Tryz.prog.typeName? 3 u = some "*errors.errorString") : u = 232 :=
  typeName_ptr_named (nm := "errors.errorString") (by rw [← es_star]; kernel_rfl) (by kernel_rfl) (by decide) u (by rw [← es_star]; exact h)

theorem base_of {W : World} (h0 : laidMetH Tryz.prog Rows.waxKnownRow.laid W) (hs : W.ShapedOpen Tryz.prog) : Base W := by
  rw [MakeChecks.laidMetH_plain _ _ _ (by kernel_rfl)] at h0
  have h : laidMet Tryz.prog (("math/bits.deBruijn32tab", Rows.laid_math_bits_deBruijn32tab) :: ("math/bits.deBruijn64tab", Rows.laid_math_bits_deBruijn64tab) :: ("internal/strconv.uint64pow10", Lib.tabData .u64 Lib.pow10Tab) :: ("unicode/utf8.acceptRanges", Rows.laid_unicode_utf8_acceptRanges) :: ("strconv.ErrRange", .iface "*errors.errorString" (.ptr (.agg [.lit (.string [118, 97, 108, 117, 101, 32, 111, 117, 116, 32, 111, 102, 32, 114, 97, 110, 103, 101])]))) :: ("strconv.ErrSyntax", .iface "*errors.errorString" (.ptr (.agg [.lit (.string [105, 110, 118, 97, 108, 105, 100, 32, 115, 121, 110, 116, 97, 120])]))) :: [("unicode/utf8.first", Rows.laid_unicode_utf8_first)]) W := h0
  refine ⟨?_, ?_, ?_, ?_⟩
  · exact Lib.tabIs_of_head g_pow gt_pow Tryz.underlying200 Tryz.underlying184 c_u64 c_pow h.tail.tail
  · exact cell_of_shapedOpen_int (t := 3) (k := .i64) (zero := #[.int .i64 0]) hs (of_decide_eq_true (by kernel_rfl)) (by kernel_rfl) (by kernel_rfl) (by kernel_rfl) (by kernel_rfl) Tryz.underlying3
  · obtain ⟨a0, s0, hv0, _⟩ := laid_sentinel h.tail.tail.tail.tail.tail g_syn gt_syn Tryz.underlying165 es_row Tryz.underlying232 Tryz.underlying234 rfl rfl Tryz.underlying9 c_es c_str
    exact ⟨_, _, by simpa using World.var?_cell g_syn hv0 0⟩
  · obtain ⟨a0, s0, hv0, _⟩ := laid_sentinel h.tail.tail.tail.tail g_rng gt_rng Tryz.underlying165 es_row Tryz.underlying232 Tryz.underlying234 rfl rfl Tryz.underlying9 c_es c_str
    exact ⟨_, _, by simpa using World.var?_cell g_rng hv0 0⟩

/-- A start for the witness: the door's heap, and utf8.first as Go's library lays it. -/
noncomputable def laidWorld (os : Os) : World :=
  { World.doorLaid Tryz.prog 72 os with heap := (World.doorLaid Tryz.prog 72 os).heap.modify 6 fun
      | .cells _ t frozen => .cells (Lib.firstTab.map fun z => Value.int .u8 z).toArray t frozen
      | o => o }
theorem laid_met (os : Os) (args : Array Value) : laidMetH Tryz.prog Rows.waxKnownRow.laid ((laidWorld os).forCall (fun _ _ => 0) ⟨#[], args, []⟩).memory := by
  rw [MakeChecks.laidMetH_plain _ _ _ (by kernel_rfl)]
  exact laidMet_of_run' 8 (by kernel_rfl) (by kernel_rfl)
end Go.Proofs.YtnpajncolkafgaaGreatDoor
