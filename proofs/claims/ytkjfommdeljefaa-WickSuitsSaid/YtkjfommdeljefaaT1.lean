/- ref03.at, Has: contracts. -/
import Derived.Test.YtkjfommdeljefaaQ4
namespace Go.Proofs.Ytkjfommdeljefaa
open Go.RowKit Go.Shelf Go.Maps
attribute [local go_sem] Oper.semAt_some


theorem rat_any (n lo hi : Int) (w : World) :
    Calls Try.prog 79 #[.int .i64 n, .agg #[.int .i64 lo, .int .i64 hi]] w fun e w' => e = .returned (.bool (inB n lo hi)) ∧ Below w.heap.size w w' := by
  have HB := Lib.hid ((Below.refl _ w).alloc (Nat.le_refl _) (.cells #[.int .i64 lo, .int .i64 hi] 25))
  go_enter Try.func79, Try.ntmps79
  go_wp2_with (go_at_call 45; (with_reducible refine (rin3_any _ _ _ _).mono ?_); rintro e w' ⟨rfl, rfl⟩)
  go_ret
  exact ⟨rfl, HB.out⟩
set_option maxRecDepth 100000 in
set_option maxHeartbeats 1000000 in
theorem rhas_any {w : World} {A : Option Addr} {c : Nat} {l : List Int} (h : IntsIn w A l) (n : Int) :
    Calls Try.prog 39 #[.slice A l.length c, .int .i64 n] w fun e w' => e = .returned (.bool (decide (n ∈ l))) ∧ w' = w := by
  have hll := h.len
  go_enter Try.func39, Try.ntmps39
  go_wp2_with fail
  go_loop [5] (fun i => ∃ k : Nat, k ≤ l.length ∧ i = .int .i64 k ∧ Hid (∀ x ∈ l.take k, x ≠ n)) (fun i => l.length - (intOf i).toNat)
  case atStart => exact ⟨0, by omega, rfl, fun x hx => by simp at hx⟩
  case round =>
    obtain ⟨k, hk, rfl, HN⟩ := hrel
    by_cases hlt : k < l.length
    · obtain ⟨x, hx⟩ : ∃ x, l[k]? = some x := ⟨l[k], List.getElem?_eq_getElem hlt⟩
      obtain ⟨b, o, rfl, _, hc⟩ := ints_at h.at_ hx
      by_cases he : x = n
      · have H := Lib.hid (show decide (n ∈ l) = true from decide_eq_true (by rw [← he]; exact List.mem_of_getElem? hx))
        subst he
        clear hx HN
        go_wp2_with fail
        go_ret
        exact ⟨ret_bool H.out.symm, rfl⟩
      · have he1 : (x == n) = false := by simpa using he
        have HN2 : Hid (∀ y ∈ l.take (k + 1), y ≠ n) := fun y hy => by
          rw [List.take_add_one, hx] at hy
          rcases List.mem_append.1 hy with hy | hy
          · exact HN.out y hy
          · simp at hy; subst hy; exact he
        clear hx HN he
        go_wp2_with fail
        go_round
        case rel => exact ⟨k + 1, by omega, by go_num, HN2⟩
        case measure => simp [intOf]; omega
    · have H := Lib.hid (show decide (n ∈ l) = false from decide_eq_false (by

        intro hm
        have := HN.out n (by rw [List.take_of_length_le (by omega)]; exact hm)
        exact this rfl))
      clear HN
      go_wp2_with fail
      go_ret
      exact ⟨ret_bool H.out.symm, rfl⟩
end Go.Proofs.Ytkjfommdeljefaa
