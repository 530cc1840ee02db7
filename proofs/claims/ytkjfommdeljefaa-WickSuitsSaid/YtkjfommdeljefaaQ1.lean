/- ref.in, Name: contracts. -/
import Derived.Test.YtkjfommdeljefaaQn
namespace Go.Proofs.Ytkjfommdeljefaa
open Go.RowKit Go.Shelf

theorem rin_any (n lo hi : Int) (w : World) :
    Calls Try.prog 73 #[.int .i64 n, .int .i64 lo, .int .i64 hi] w fun e w' => e = .returned (.bool (inB n lo hi)) ∧ w' = w := by
  by_cases h1 : lo ≤ n
  · by_cases h2 : n ≤ hi
    · have H := Lib.hid (inB_t h1 h2)
      go_enter Try.func73, Try.ntmps73
      go_wp2
      go_ret
      exact ⟨ret_bool H.out.symm, rfl⟩
    · have H := Lib.hid (inB_f (n := n) (lo := lo) (hi := hi) (by omega))
      go_enter Try.func73, Try.ntmps73
      go_wp2
      go_ret
      exact ⟨ret_bool H.out.symm, rfl⟩
  · have H := Lib.hid (inB_f (n := n) (lo := lo) (hi := hi) (by omega))
    go_enter Try.func73, Try.ntmps73
    go_wp2
    go_ret
    exact ⟨ret_bool H.out.symm, rfl⟩

theorem nameRest_last : ∀ (l : List UInt8) (b : Nat), nameRest b l = true → ∀ x, l.getLast? = some x → x.toNat ≠ 45
  | [], _, _, x, hx => by simp at hx
  | [c], b, h, x, hx => by
    simp at hx
    subst hx
    intro e
    simp [nameRest, e] at h
  | c :: d :: l, b, h, x, hx => by
    rw [List.getLast?_cons_cons] at hx
    unfold nameRest at h
    split at h
    · exact nameRest_last (d :: l) _ h x hx
    · split at h
      · exact nameRest_last (d :: l) _ h x hx
      · cases h
/-- The byte before place k; a hyphen before the first one. -/
def befAt (s : ByteArray) (k : Nat) : Nat := if k = 0 then 45 else ((s.data.toList[k - 1]?).map UInt8.toNat).getD 45
theorem rest_step {s : ByteArray} {k : Nat} (h : k < s.size) : nameRest (befAt s k) (s.data.toList.drop k) = (if 97 ≤ (s[k]'h).toNat ∧ (s[k]'h).toNat ≤ 122 then nameRest (befAt s (k + 1)) (s.data.toList.drop (k + 1)) else if (s[k]'h).toNat = 45 ∧ befAt s k ≠ 45 then nameRest (befAt s (k + 1)) (s.data.toList.drop (k + 1)) else false) := by
  have hb : befAt s (k + 1) = (s[k]'h).toNat := by
    unfold befAt
    rw [if_neg (by omega), Nat.add_sub_cancel, List.getElem?_eq_getElem (by simpa using h)]
    rfl
  rw [drop_cons s k h, nameRest, hb]
  split
  · rfl
  · split
    · rename_i h2; rw [h2.1]
    · rfl
theorem bef_succ {s : ByteArray} {k : Nat} (h : k < s.size) : befAt s (k + 1) = (s[k]'h).toNat := by
  unfold befAt
  rw [if_neg (by omega), Nat.add_sub_cancel, List.getElem?_eq_getElem (by simpa using h)]
  rfl
theorem rest_end {s : ByteArray} (h : 0 < s.size) (hl : (s[s.size - 1]'(by omega)).toNat ≠ 45) : nameRest (befAt s s.size) (s.data.toList.drop s.size) = true := by
  have h1 := bef_succ (s := s) (k := s.size - 1) (by omega)
  rw [show s.size - 1 + 1 = s.size by omega] at h1
  rw [List.drop_of_length_le (by simp), nameRest, h1]
  simpa using hl
theorem nameB_len {s : ByteArray} (h : ¬ (1 ≤ s.size ∧ s.size ≤ 20)) : nameB s = false := by
  unfold nameB
  by_cases h2 : s.size ≤ 20
  · have h0 : s.data.toList = [] := by
      apply List.eq_nil_of_length_eq_zero
      have : s.data.toList.length = s.size := by simp
      omega
    rw [h0]
    simp [nameRest]
  · simp [h2]
theorem nameB_first {s : ByteArray} (h : 0 < s.size) (h0 : (s[0]'h).toNat = 45) : nameB s = false := by
  unfold nameB
  have hd := drop_cons s 0 h
  rw [List.drop_zero] at hd
  rw [hd, nameRest, if_neg (by omega), if_neg (by simp)]
  simp
theorem nameB_last {s : ByteArray} (h : 0 < s.size) (h0 : (s[s.size - 1]'(by omega)).toNat = 45) : nameB s = false := by
  unfold nameB
  rw [Bool.and_eq_false_iff]
  right
  cases hn : nameRest 45 s.data.toList with
  | false => rfl
  | true =>
    refine absurd h0 (nameRest_last _ _ hn _ ?_)
    rw [List.getLast?_eq_getElem?, List.getElem?_eq_getElem (by simp; omega)]
    simp
    rfl
theorem nameB_rest {s : ByteArray} (h2 : s.size ≤ 20) : nameB s = nameRest (befAt s 0) (s.data.toList.drop 0) := by
  unfold nameB
  rw [List.drop_zero]
  simp [h2, befAt]
end Go.Proofs.Ytkjfommdeljefaa
