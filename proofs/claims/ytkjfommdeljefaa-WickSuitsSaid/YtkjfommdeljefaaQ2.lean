/- ref.Name, Named, Span: contracts. -/
import Derived.Test.YtkjfommdeljefaaQ1
namespace Go.Proofs.Ytkjfommdeljefaa
open Go.RowKit Go.Shelf

set_option maxRecDepth 100000 in
set_option maxHeartbeats 2000000 in
theorem rname_any (s : ByteArray) (w : World) (hmax : s.size ≤ 9223372036854775807) :
    Calls Try.prog 72 #[.string s] w fun e w' => e = .returned (.bool (nameB s)) ∧ w' = w := by
  by_cases hl : 1 ≤ s.size ∧ s.size ≤ 20
  · obtain ⟨hl1, hl2⟩ := hl
    have hin : inB (s.size : Int) 1 20 = true := inB_t (by omega) (by omega)
    by_cases h0 : (s[0]'hl1).toNat = 45
    · have H := Lib.hid (nameB_first hl1 h0)
      have hq : (((s[0]'hl1).toNat : Int) == 45) = true := by simp; omega
      clear h0
      go_enter Try.func72, Try.ntmps72
      go_wp2_with (go_at_call 73; refine (rin_any _ _ _ _).mono ?_; rintro e w' ⟨rfl, rfl⟩)
      go_ret
      exact ⟨ret_bool H.out.symm, rfl⟩
    · have hq : (((s[0]'hl1).toNat : Int) == 45) = false := by simp; omega
      by_cases h1 : (s[s.size - 1]'(by omega)).toNat = 45
      · have H := Lib.hid (nameB_last hl1 h1)
        have hq1 : (((s[s.size - 1]'(by omega)).toNat : Int) == 45) = true := by simp; omega
        clear h0 h1
        go_enter Try.func72, Try.ntmps72
        go_wp2_with (go_at_call 73; refine (rin_any _ _ _ _).mono ?_; rintro e w' ⟨rfl, rfl⟩)
        go_ret
        exact ⟨ret_bool H.out.symm, rfl⟩
      · have hq1 : (((s[s.size - 1]'(by omega)).toNat : Int) == 45) = false := by simp; omega
        have HE := Lib.hid (rest_end hl1 h1)
        have H0 := Lib.hid (nameB_rest hl2)
        have HF := Lib.hid h0
        clear h0 h1
        go_enter Try.func72, Try.ntmps72
        go_wp2_with (go_at_call 73; refine (rin_any _ _ _ _).mono ?_; rintro e w' ⟨rfl, rfl⟩)
        go_loop [3] (fun i => ∃ k : Nat, k ≤ s.size ∧ i = .int .i64 k ∧ Hid (nameRest (befAt s k) (s.data.toList.drop k) = nameB s)) (fun i => s.size - (intOf i).toNat)
        case atStart => exact ⟨0, by omega, rfl, H0.out.symm⟩
        case round =>
          obtain ⟨k, hk, rfl, HR⟩ := hrel
          by_cases hlt : k < s.size
          · have HS := Lib.hid (rest_step hlt)
            have bd1 : ((s[k]'hlt).toNat : Int) ≤ 255 := by have := (s[k]'hlt).toNat_lt; omega
            have bd0 : (0 : Int) ≤ ((s[k]'hlt).toNat : Int) := by omega
            by_cases hlet : 97 ≤ (s[k]'hlt).toNat ∧ (s[k]'hlt).toNat ≤ 122
            · have HN : Hid (nameRest (befAt s (k + 1)) (s.data.toList.drop (k + 1)) = nameB s) := by
                show _ = _
                rw [← HR.out, HS.out, if_pos hlet]
              have f1 : (((s[k]'hlt).toNat : Int) != 45) = true := by simp; omega
              have f2 : (((s[k]'hlt).toNat : Int) == 45) = false := by simp; omega
              have f3 : inB ((s[k]'hlt).toNat : Int) 97 122 = true := inB_t (by omega) (by omega)
              clear hlet HS HR
              by_cases hk0 : 0 < k
              all_goals
                go_wp2_with (go_at_call 73; refine (rin_any _ _ _ _).mono ?_; rintro e w' ⟨rfl, rfl⟩)
                go_round
                case rel => exact ⟨k + 1, by omega, by go_num, HN⟩
                case measure => simp [intOf]; omega
            · by_cases hc : (s[k]'hlt).toNat = 45
              · have hk0 : 0 < k := by
                  rcases Nat.eq_zero_or_pos k with h | h
                  · subst h; exact absurd hc HF.out
                  · exact h
                have hbf := bef_succ (s := s) (k := k - 1) (by omega)
                rw [show k - 1 + 1 = k by omega] at hbf
                have f1 : (((s[k]'hlt).toNat : Int) != 45) = false := by simp; omega
                have f2 : (((s[k]'hlt).toNat : Int) == 45) = true := by simp; omega
                by_cases hp : (s[k - 1]'(by omega)).toNat = 45
                · have f3 : (((s[k - 1]'(by omega)).toNat : Int) == 45) = true := by simp; omega
                  have HN := Lib.hid (show nameB s = false by rw [← HR.out, HS.out, if_neg hlet, if_neg (by rw [hbf]; omega)])
                  clear hlet HS HR hc hp hbf
                  go_wp2_with (go_at_call 73; refine (rin_any _ _ _ _).mono ?_; rintro e w' ⟨rfl, rfl⟩)
                  go_ret
                  exact ⟨ret_bool HN.out.symm, rfl⟩
                · have f3 : (((s[k - 1]'(by omega)).toNat : Int) == 45) = false := by simp; omega
                  have HN : Hid (nameRest (befAt s (k + 1)) (s.data.toList.drop (k + 1)) = nameB s) := by
                    show _ = _
                    rw [← HR.out, HS.out, if_neg hlet, if_pos ⟨hc, by rw [hbf]; exact hp⟩]
                  clear hlet HS HR hc hp hbf
                  go_wp2_with (go_at_call 73; refine (rin_any _ _ _ _).mono ?_; rintro e w' ⟨rfl, rfl⟩)
                  go_round
                  case rel => exact ⟨k + 1, by omega, by go_num, HN⟩
                  case measure => simp [intOf]; omega
              · have HN := Lib.hid (show nameB s = false by rw [← HR.out, HS.out, if_neg hlet, if_neg (fun h => hc h.1)])
                have f1 : (((s[k]'hlt).toNat : Int) != 45) = true := by simp; omega
                have f3 : inB ((s[k]'hlt).toNat : Int) 97 122 = false := inB_f (by omega)
                clear hlet HS HR hc
                go_wp2_with (go_at_call 73; refine (rin_any _ _ _ _).mono ?_; rintro e w' ⟨rfl, rfl⟩)
                go_ret
                exact ⟨ret_bool HN.out.symm, rfl⟩
          · have hke : k = s.size := by omega
            have HN := Lib.hid (show nameB s = true by rw [← HR.out, hke]; exact HE.out)
            clear hke HR
            go_wp2_with (go_at_call 73; refine (rin_any _ _ _ _).mono ?_; rintro e w' ⟨rfl, rfl⟩)
            go_ret
            exact ⟨ret_bool HN.out.symm, rfl⟩
  · have hin : inB (s.size : Int) 1 20 = false := inB_f (by omega)
    have H := Lib.hid (nameB_len hl)
    clear hl
    go_enter Try.func72, Try.ntmps72
    go_wp2_with (go_at_call 73; refine (rin_any _ _ _ _).mono ?_; rintro e w' ⟨rfl, rfl⟩)
    go_ret
    exact ⟨ret_bool H.out.symm, rfl⟩
end Go.Proofs.Ytkjfommdeljefaa
