/- Layer blend, a part: the reference: names. No statement is proved here. -/
import Derived.Test.YtalghiecjhfflaaGc
namespace Go.Proofs.Ytalghiecjhfflaa
open Go.RowKit Go.Shelf

theorem rin_any (n lo hi : Int) (w : World) :
    Calls Try.prog 99 #[.int .i64 n, .int .i64 lo, .int .i64 hi] w fun e w' => e = .returned (.bool (inB n lo hi)) ∧ w' = w := by
  by_cases h1 : lo ≤ n
  · by_cases h2 : n ≤ hi
    · have H := Lib.hid (inB_t h1 h2)
      go_enter Try.func99, Try.ntmps99
      go_wp2
      go_ret
      exact ⟨ret_bool H.out.symm, rfl⟩
    · have H := Lib.hid (inB_f (n := n) (lo := lo) (hi := hi) (by omega))
      go_enter Try.func99, Try.ntmps99
      go_wp2
      go_ret
      exact ⟨ret_bool H.out.symm, rfl⟩
  · have H := Lib.hid (inB_f (n := n) (lo := lo) (hi := hi) (by omega))
    go_enter Try.func99, Try.ntmps99
    go_wp2
    go_ret
    exact ⟨ret_bool H.out.symm, rfl⟩

theorem nameRest_last : ∀ (l : List UInt8) (b : Nat), nameRest b l = true → ∀ x, l.getLast? = some x → x.toNat ≠ 45
  | [], _, _, x, hx => by simp at hx
  | [c], b, h, x, hx => by
    simp at hx
    subst hx
    intro e
    simp [nameRest, e] at h
  | c :: d :: l, b, h, x, hx => by
    rw [List.getLast?_cons_cons] at hx
    unfold nameRest at h
    split at h
    · exact nameRest_last (d :: l) _ h x hx
    · split at h
      · exact nameRest_last (d :: l) _ h x hx
      · cases h
/-- The byte before place k; a hyphen before the first one. -/
def befAt (s : ByteArray) (k : Nat) : Nat := if k = 0 then 45 else ((s.data.toList[k - 1]?).map UInt8.toNat).getD 45
theorem rest_step {s : ByteArray} {k : Nat} (h : k < s.size) : nameRest (befAt s k) (s.data.toList.drop k) = (if 97 ≤ (s[k]'h).toNat ∧ (s[k]'h).toNat ≤ 122 then nameRest (befAt s (k + 1)) (s.data.toList.drop (k + 1)) else if (s[k]'h).toNat = 45 ∧ befAt s k ≠ 45 then nameRest (befAt s (k + 1)) (s.data.toList.drop (k + 1)) else false) := by
  have hb : befAt s (k + 1) = (s[k]'h).toNat := by
    unfold befAt
    rw [if_neg (by omega), Nat.add_sub_cancel, List.getElem?_eq_getElem (by simpa using h)]
    rfl
  rw [drop_cons s k h, nameRest, hb]
  split
  · rfl
  · split
    · rename_i h2; rw [h2.1]
    · rfl
theorem bef_succ {s : ByteArray} {k : Nat} (h : k < s.size) : befAt s (k + 1) = (s[k]'h).toNat := by
  unfold befAt
  rw [if_neg (by omega), Nat.add_sub_cancel, List.getElem?_eq_getElem (by simpa using h)]
  rfl
theorem rest_end {s : ByteArray} (h : 0 < s.size) (hl : (s[s.size - 1]'(by omega)).toNat ≠ 45) : nameRest (befAt s s.size) (s.data.toList.drop s.size) = true := by
  have h1 := bef_succ (s := s) (k := s.size - 1) (by omega)
  rw [show s.size - 1 + 1 = s.size by omega] at h1
  rw [List.drop_of_length_le (by simp), nameRest, h1]
  simpa using hl
theorem nameB_len {s : ByteArray} (h : ¬ (1 ≤ s.size ∧ s.size ≤ 20)) : nameB s = false := by
  unfold nameB
  by_cases h2 : s.size ≤ 20
  · have h0 : s.data.toList = [] := by
      apply List.eq_nil_of_length_eq_zero
      have : s.data.toList.length = s.size := by simp
      omega
    rw [h0]
    simp [nameRest]
  · simp [h2]
theorem nameB_first {s : ByteArray} (h : 0 < s.size) (h0 : (s[0]'h).toNat = 45) : nameB s = false := by
  unfold nameB
  have hd := drop_cons s 0 h
  rw [List.drop_zero] at hd
  rw [hd, nameRest, if_neg (by omega), if_neg (by simp)]
  simp
theorem nameB_last {s : ByteArray} (h : 0 < s.size) (h0 : (s[s.size - 1]'(by omega)).toNat = 45) : nameB s = false := by
  unfold nameB
  rw [Bool.and_eq_false_iff]
  right
  cases hn : nameRest 45 s.data.toList with
  | false => rfl
  | true =>
    refine absurd h0 (nameRest_last _ _ hn _ ?_)
    rw [List.getLast?_eq_getElem?, List.getElem?_eq_getElem (by simp; omega)]
    simp
    rfl
theorem nameB_rest {s : ByteArray} (h2 : s.size ≤ 20) : nameB s = nameRest (befAt s 0) (s.data.toList.drop 0) := by
  unfold nameB
  rw [List.drop_zero]
  simp [h2, befAt]
end Go.Proofs.Ytalghiecjhfflaa

namespace Go.Proofs.Ytalghiecjhfflaa
open Go.RowKit Go.Shelf

set_option maxRecDepth 100000 in
set_option maxHeartbeats 2000000 in
theorem rname_any (s : ByteArray) (w : World) (hmax : s.size ≤ 9223372036854775807) :
    Calls Try.prog 84 #[.string s] w fun e w' => e = .returned (.bool (nameB s)) ∧ w' = w := by
  by_cases hl : 1 ≤ s.size ∧ s.size ≤ 20
  · obtain ⟨hl1, hl2⟩ := hl
    have hin : inB (s.size : Int) 1 20 = true := inB_t (by omega) (by omega)
    by_cases h0 : (s[0]'hl1).toNat = 45
    · have H := Lib.hid (nameB_first hl1 h0)
      have hq : (((s[0]'hl1).toNat : Int) == 45) = true := by simp; omega
      clear h0
      go_enter Try.func84, Try.ntmps84
      go_wp2_with (go_at_call 99; refine (rin_any _ _ _ _).mono ?_; rintro e w' ⟨rfl, rfl⟩)
      go_ret
      exact ⟨ret_bool H.out.symm, rfl⟩
    · have hq : (((s[0]'hl1).toNat : Int) == 45) = false := by simp; omega
      by_cases h1 : (s[s.size - 1]'(by omega)).toNat = 45
      · have H := Lib.hid (nameB_last hl1 h1)
        have hq1 : (((s[s.size - 1]'(by omega)).toNat : Int) == 45) = true := by simp; omega
        clear h0 h1
        go_enter Try.func84, Try.ntmps84
        go_wp2_with (go_at_call 99; refine (rin_any _ _ _ _).mono ?_; rintro e w' ⟨rfl, rfl⟩)
        go_ret
        exact ⟨ret_bool H.out.symm, rfl⟩
      · have hq1 : (((s[s.size - 1]'(by omega)).toNat : Int) == 45) = false := by simp; omega
        have HE := Lib.hid (rest_end hl1 h1)
        have H0 := Lib.hid (nameB_rest hl2)
        have HF := Lib.hid h0
        clear h0 h1
        go_enter Try.func84, Try.ntmps84
        go_wp2_with (go_at_call 99; refine (rin_any _ _ _ _).mono ?_; rintro e w' ⟨rfl, rfl⟩)
        go_loop [3] (fun i => ∃ k : Nat, k ≤ s.size ∧ i = .int .i64 k ∧ Hid (nameRest (befAt s k) (s.data.toList.drop k) = nameB s)) (fun i => s.size - (intOf i).toNat)
        case atStart => exact ⟨0, by omega, rfl, H0.out.symm⟩
        case round =>
          obtain ⟨k, hk, rfl, HR⟩ := hrel
          by_cases hlt : k < s.size
          · have HS := Lib.hid (rest_step hlt)
            have bd1 : ((s[k]'hlt).toNat : Int) ≤ 255 := by have := (s[k]'hlt).toNat_lt; omega
            have bd0 : (0 : Int) ≤ ((s[k]'hlt).toNat : Int) := by omega
            by_cases hlet : 97 ≤ (s[k]'hlt).toNat ∧ (s[k]'hlt).toNat ≤ 122
            · have HN : Hid (nameRest (befAt s (k + 1)) (s.data.toList.drop (k + 1)) = nameB s) := by
                show _ = _
                rw [← HR.out, HS.out, if_pos hlet]
              have f1 : (((s[k]'hlt).toNat : Int) != 45) = true := by simp; omega
              have f2 : (((s[k]'hlt).toNat : Int) == 45) = false := by simp; omega
              have f3 : inB ((s[k]'hlt).toNat : Int) 97 122 = true := inB_t (by omega) (by omega)
              clear hlet HS HR
              by_cases hk0 : 0 < k
              all_goals
                go_wp2_with (go_at_call 99; refine (rin_any _ _ _ _).mono ?_; rintro e w' ⟨rfl, rfl⟩)
                go_round
                case rel => exact ⟨k + 1, by omega, by go_num, HN⟩
                case measure => simp [intOf]; omega
            · by_cases hc : (s[k]'hlt).toNat = 45
              · have hk0 : 0 < k := by
                  rcases Nat.eq_zero_or_pos k with h | h
                  · subst h; exact absurd hc HF.out
                  · exact h
                have hbf := bef_succ (s := s) (k := k - 1) (by omega)
                rw [show k - 1 + 1 = k by omega] at hbf
                have f1 : (((s[k]'hlt).toNat : Int) != 45) = false := by simp; omega
                have f2 : (((s[k]'hlt).toNat : Int) == 45) = true := by simp; omega
                by_cases hp : (s[k - 1]'(by omega)).toNat = 45
                · have f3 : (((s[k - 1]'(by omega)).toNat : Int) == 45) = true := by simp; omega
                  have HN := Lib.hid (show nameB s = false by rw [← HR.out, HS.out, if_neg hlet, if_neg (by rw [hbf]; omega)])
                  clear hlet HS HR hc hp hbf
                  go_wp2_with (go_at_call 99; refine (rin_any _ _ _ _).mono ?_; rintro e w' ⟨rfl, rfl⟩)
                  go_ret
                  exact ⟨ret_bool HN.out.symm, rfl⟩
                · have f3 : (((s[k - 1]'(by omega)).toNat : Int) == 45) = false := by simp; omega
                  have HN : Hid (nameRest (befAt s (k + 1)) (s.data.toList.drop (k + 1)) = nameB s) := by
                    show _ = _
                    rw [← HR.out, HS.out, if_neg hlet, if_pos ⟨hc, by rw [hbf]; exact hp⟩]
                  clear hlet HS HR hc hp hbf
                  go_wp2_with (go_at_call 99; refine (rin_any _ _ _ _).mono ?_; rintro e w' ⟨rfl, rfl⟩)
                  go_round
                  case rel => exact ⟨k + 1, by omega, by go_num, HN⟩
                  case measure => simp [intOf]; omega
              · have HN := Lib.hid (show nameB s = false by rw [← HR.out, HS.out, if_neg hlet, if_neg (fun h => hc h.1)])
                have f1 : (((s[k]'hlt).toNat : Int) != 45) = true := by simp; omega
                have f3 : inB ((s[k]'hlt).toNat : Int) 97 122 = false := inB_f (by omega)
                clear hlet HS HR hc
                go_wp2_with (go_at_call 99; refine (rin_any _ _ _ _).mono ?_; rintro e w' ⟨rfl, rfl⟩)
                go_ret
                exact ⟨ret_bool HN.out.symm, rfl⟩
          · have hke : k = s.size := by omega
            have HN := Lib.hid (show nameB s = true by rw [← HR.out, hke]; exact HE.out)
            clear hke HR
            go_wp2_with (go_at_call 99; refine (rin_any _ _ _ _).mono ?_; rintro e w' ⟨rfl, rfl⟩)
            go_ret
            exact ⟨ret_bool HN.out.symm, rfl⟩
  · have hin : inB (s.size : Int) 1 20 = false := inB_f (by omega)
    have H := Lib.hid (nameB_len hl)
    clear hl
    go_enter Try.func84, Try.ntmps84
    go_wp2_with (go_at_call 99; refine (rin_any _ _ _ _).mono ?_; rintro e w' ⟨rfl, rfl⟩)
    go_ret
    exact ⟨ret_bool H.out.symm, rfl⟩
end Go.Proofs.Ytalghiecjhfflaa

namespace Go.Proofs.Ytalghiecjhfflaa
open Go.RowKit Go.Shelf

theorem any_take_all {α : Type} (p : α → Bool) (l : List α) (k : Nat) (hk : k = l.length) (h : (l.take k).any p = false) : l.any p = false := by
  rw [hk, List.take_length] at h; exact h
theorem any_take_step {α : Type} (p : α → Bool) (l : List α) (k : Nat) (x : α) (hx : l[k]? = some x) : (l.take (k + 1)).any p = ((l.take k).any p || p x) := by
  rw [List.take_add_one, hx]; simp
set_option maxRecDepth 100000 in
set_option maxHeartbeats 2000000 in
theorem rnamed_any {w : World} {A : Option Addr} {c : Nat} {bef : List ByteArray} (s : ByteArray) (hmax : s.size ≤ 9223372036854775807) (hb : StrsAt w w.heap.size A bef) (hl : bef.length ≤ 9223372036854775807) :
    Calls Try.prog 51 #[.string s, .slice A bef.length c] w fun e w' => e = .returned (.int .i64 (nameErr bef s)) ∧ w' = w := by
  cases hn : nameB s with
  | false =>
    have H := Lib.hid (show nameErr bef s = 6 by simp [nameErr, hn])
    have HC := Lib.hid (rname_any s w hmax)
    have HN := Lib.hid hn
    clear hn
    go_enter Try.func51, Try.ntmps51
    go_wp2_with fail
    refine HC.out.mono ?_
    rintro e w' ⟨rfl, rfl⟩
    rw [HN.out]
    go_wp2_with fail
    go_ret
    exact ⟨ret_i64 H.out.symm, rfl⟩
  | true =>
    have HC := Lib.hid (rname_any s w hmax)
    have HN := Lib.hid hn
    clear hn
    go_enter Try.func51, Try.ntmps51
    go_wp2_with fail
    refine HC.out.mono ?_
    rintro e w' ⟨rfl, rfl⟩
    rw [HN.out]
    go_wp2_with fail
    go_loop [5] (fun i => ∃ k : Nat, k ≤ bef.length ∧ i = .int .i64 k ∧ Hid ((bef.take k).any (fun y => y.toList == s.toList) = false)) (fun i => bef.length - (intOf i).toNat)
    case atStart => exact ⟨0, by omega, rfl, by show _ = _; simp⟩
    case round =>
      obtain ⟨k, hk, rfl, HR⟩ := hrel
      by_cases hlt : k < bef.length
      · obtain ⟨y, hy⟩ : ∃ y, bef[k]? = some y := ⟨bef[k], List.getElem?_eq_getElem hlt⟩
        obtain ⟨b, o, rfl, _, hcell⟩ := strs_at hb hy
        cases heq : (y.toList == s.toList) with
        | true =>
          have H := Lib.hid (show nameErr bef s = 5 by
            have h1 : bef.any (fun y => y.toList == s.toList) = true := List.any_eq_true.2 ⟨y, List.mem_of_getElem? hy, heq⟩
            simp [nameErr, HN.out, h1])
          clear hy
          go_wp2_with fail
          go_ret
          exact ⟨ret_i64 H.out.symm, rfl⟩
        | false =>
          have HR' : Hid ((bef.take (k + 1)).any (fun y => y.toList == s.toList) = false) := by
            show _ = _
            rw [any_take_step _ _ _ _ hy, HR.out, heq]; rfl
          clear hy HR
          go_wp2_with fail
          go_round
          case rel => exact ⟨k + 1, by omega, by go_num, HR'⟩
          case measure => simp [intOf]; omega
      · have H := Lib.hid (show nameErr bef s = 0 by
          have h1 := any_take_all _ _ k (by omega) HR.out
          simp [nameErr, HN.out, h1])
        clear HR
        go_wp2_with fail
        go_ret
        exact ⟨ret_i64 H.out.symm, rfl⟩

theorem rspan_any (x : Int × Int) (a b : Int) (w : World) :
    Calls Try.prog 78 #[.agg #[.int .i64 x.1, .int .i64 x.2], .int .i64 a, .int .i64 b] w fun e w' => e = .returned (.int .i64 (spanErr x a b)) ∧ Below w.heap.size w w' := by
  obtain ⟨lo, hi⟩ := x
  have hb : Below w.heap.size w (w.alloc (.cells #[.int .i64 lo, .int .i64 hi] 36)) := (Below.refl _ w).alloc (Nat.le_refl _) _
  cases h1 : inB lo a b with
  | false =>
    have H := Lib.hid (show spanErr (lo, hi) a b = 7 by simp [spanErr, h1])
    go_enter Try.func78, Try.ntmps78
    go_wp2_with (go_at_call 99; refine (rin_any _ _ _ _).mono ?_; rintro e w' ⟨rfl, rfl⟩)
    go_ret
    exact ⟨ret_i64 H.out.symm, hb⟩
  | true =>
    cases h2 : inB hi a b with
    | false =>
      have H := Lib.hid (show spanErr (lo, hi) a b = 7 by simp [spanErr, h2])
      go_enter Try.func78, Try.ntmps78
      go_wp2_with (go_at_call 99; refine (rin_any _ _ _ _).mono ?_; rintro e w' ⟨rfl, rfl⟩)
      go_ret
      exact ⟨ret_i64 H.out.symm, hb⟩
    | true =>
      by_cases hlt : hi < lo
      · have H := Lib.hid (show spanErr (lo, hi) a b = 2 by simp [spanErr, h1, h2, hlt])
        go_enter Try.func78, Try.ntmps78
        go_wp2_with (go_at_call 99; refine (rin_any _ _ _ _).mono ?_; rintro e w' ⟨rfl, rfl⟩)
        go_ret
        exact ⟨ret_i64 H.out.symm, hb⟩
      · have H := Lib.hid (show spanErr (lo, hi) a b = 0 by simp [spanErr, h1, h2, hlt])
        go_enter Try.func78, Try.ntmps78
        go_wp2_with (go_at_call 99; refine (rin_any _ _ _ _).mono ?_; rintro e w' ⟨rfl, rfl⟩)
        go_ret
        exact ⟨ret_i64 H.out.symm, hb⟩
end Go.Proofs.Ytalghiecjhfflaa
