/- ref.Named, Span, ranges: contracts. -/
import Derived.Test.YtkjfommdeljefaaQ2
namespace Go.Proofs.Ytkjfommdeljefaa
open Go.RowKit Go.Shelf

theorem any_take_all {α : Type} (p : α → Bool) (l : List α) (k : Nat) (hk : k = l.length) (h : (l.take k).any p = false) : l.any p = false := by
  rw [hk, List.take_length] at h; exact h
theorem any_take_step {α : Type} (p : α → Bool) (l : List α) (k : Nat) (x : α) (hx : l[k]? = some x) : (l.take (k + 1)).any p = ((l.take k).any p || p x) := by
  rw [List.take_add_one, hx]; simp
set_option maxRecDepth 100000 in
set_option maxHeartbeats 2000000 in
theorem rnamed_any {w : World} {A : Option Addr} {c : Nat} {bef : List ByteArray} (s : ByteArray) (hmax : s.size ≤ 9223372036854775807) (hb : StrsAt w w.heap.size A bef) (hl : bef.length ≤ 9223372036854775807) :
    Calls Try.prog 47 #[.string s, .slice A bef.length c] w fun e w' => e = .returned (.int .i64 (nameErr bef s)) ∧ w' = w := by
  cases hn : nameB s with
  | false =>
    have H := Lib.hid (show nameErr bef s = 6 by simp [nameErr, hn])
    have HC := Lib.hid (rname_any s w hmax)
    have HN := Lib.hid hn
    clear hn
    go_enter Try.func47, Try.ntmps47
    go_wp2_with fail
    refine HC.out.mono ?_
    rintro e w' ⟨rfl, rfl⟩
    rw [HN.out]
    go_wp2_with fail
    go_ret
    exact ⟨ret_i64 H.out.symm, rfl⟩
  | true =>
    have HC := Lib.hid (rname_any s w hmax)
    have HN := Lib.hid hn
    clear hn
    go_enter Try.func47, Try.ntmps47
    go_wp2_with fail
    refine HC.out.mono ?_
    rintro e w' ⟨rfl, rfl⟩
    rw [HN.out]
    go_wp2_with fail
    go_loop [5] (fun i => ∃ k : Nat, k ≤ bef.length ∧ i = .int .i64 k ∧ Hid ((bef.take k).any (fun y => y.toList == s.toList) = false)) (fun i => bef.length - (intOf i).toNat)
    case atStart => exact ⟨0, by omega, rfl, by show _ = _; simp⟩
    case round =>
      obtain ⟨k, hk, rfl, HR⟩ := hrel
      by_cases hlt : k < bef.length
      · obtain ⟨y, hy⟩ : ∃ y, bef[k]? = some y := ⟨bef[k], List.getElem?_eq_getElem hlt⟩
        obtain ⟨b, o, rfl, _, hcell⟩ := strs_at hb hy
        cases heq : (y.toList == s.toList) with
        | true =>
          have H := Lib.hid (show nameErr bef s = 5 by
            have h1 : bef.any (fun y => y.toList == s.toList) = true := List.any_eq_true.2 ⟨y, List.mem_of_getElem? hy, heq⟩
            simp [nameErr, HN.out, h1])
          clear hy
          go_wp2_with fail
          go_ret
          exact ⟨ret_i64 H.out.symm, rfl⟩
        | false =>
          have HR' : Hid ((bef.take (k + 1)).any (fun y => y.toList == s.toList) = false) := by
            show _ = _
            rw [any_take_step _ _ _ _ hy, HR.out, heq]; rfl
          clear hy HR
          go_wp2_with fail
          go_round
          case rel => exact ⟨k + 1, by omega, by go_num, HR'⟩
          case measure => simp [intOf]; omega
      · have H := Lib.hid (show nameErr bef s = 0 by
          have h1 := any_take_all _ _ k (by omega) HR.out
          simp [nameErr, HN.out, h1])
        clear HR
        go_wp2_with fail
        go_ret
        exact ⟨ret_i64 H.out.symm, rfl⟩

theorem rspan_any (x : Int × Int) (a b : Int) (w : World) :
    Calls Try.prog 48 #[.agg #[.int .i64 x.1, .int .i64 x.2], .int .i64 a, .int .i64 b] w fun e w' => e = .returned (.int .i64 (spanErr x a b)) ∧ Below w.heap.size w w' := by
  obtain ⟨lo, hi⟩ := x
  have hb : Below w.heap.size w (w.alloc (.cells #[.int .i64 lo, .int .i64 hi] 25)) := (Below.refl _ w).alloc (Nat.le_refl _) _
  cases h1 : inB lo a b with
  | false =>
    have H := Lib.hid (show spanErr (lo, hi) a b = 7 by simp [spanErr, h1])
    go_enter Try.func48, Try.ntmps48
    go_wp2_with (go_at_call 73; refine (rin_any _ _ _ _).mono ?_; rintro e w' ⟨rfl, rfl⟩)
    go_ret
    exact ⟨ret_i64 H.out.symm, hb⟩
  | true =>
    cases h2 : inB hi a b with
    | false =>
      have H := Lib.hid (show spanErr (lo, hi) a b = 7 by simp [spanErr, h2])
      go_enter Try.func48, Try.ntmps48
      go_wp2_with (go_at_call 73; refine (rin_any _ _ _ _).mono ?_; rintro e w' ⟨rfl, rfl⟩)
      go_ret
      exact ⟨ret_i64 H.out.symm, hb⟩
    | true =>
      by_cases hlt : hi < lo
      · have H := Lib.hid (show spanErr (lo, hi) a b = 2 by simp [spanErr, h1, h2, hlt])
        go_enter Try.func48, Try.ntmps48
        go_wp2_with (go_at_call 73; refine (rin_any _ _ _ _).mono ?_; rintro e w' ⟨rfl, rfl⟩)
        go_ret
        exact ⟨ret_i64 H.out.symm, hb⟩
      · have H := Lib.hid (show spanErr (lo, hi) a b = 0 by simp [spanErr, h1, h2, hlt])
        go_enter Try.func48, Try.ntmps48
        go_wp2_with (go_at_call 73; refine (rin_any _ _ _ _).mono ?_; rintro e w' ⟨rfl, rfl⟩)
        go_ret
        exact ⟨ret_i64 H.out.symm, hb⟩
end Go.Proofs.Ytkjfommdeljefaa
