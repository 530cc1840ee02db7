/- wax.Name returns what nameB says, for any string. No condition. -/
import Derived.Test.YtkjfommdeljefaaProg
import Derived.Test.YtkjfommdeljefaaGb
import Derived.WalkSpells
import Derived.WalkLawsBesides
import Derived.Outline
import Derived.Deep.RegionHeld3
import Derived.Deep.QuietTactic
import Derived.BigQuiet
import Derived.Shelf.Abstract
namespace Go.Proofs.Ytkjfommdeljefaa
open Go.RowKit Go.Shelf

theorem drop_cons (s : ByteArray) (p : Nat) (h : p < s.size) : s.data.toList.drop p = (s[p]'h) :: s.data.toList.drop (p + 1) := by
  rw [List.drop_eq_getElem_cons (by simpa using h)]; rfl

theorem cast_beq (a b : Nat) : ((a : Int) == (b : Int)) = (a == b) := by rw [Bool.eq_iff_iff]; simp; omega
set_option maxHeartbeats 2000000 in
set_option maxRecDepth 100000 in
theorem name_short (s : ByteArray) (w : World) (hs : s.size ≤ 20) :
    Calls Try.prog 95 #[.string s] w fun e w' => e = .returned (.bool (nameRest 45 s.data.toList)) ∧ Below w.heap.size w w' := by
  go_enter Try.func95, Try.ntmps95
  go_wp2_with fail
  go_loopw [3] (fun bf w' => ∃ (pos bv : Nat), w' = w.iter s pos ∧ bf = .int .i32 bv ∧ bv < 128 ∧ pos ≤ s.size ∧ Hid (nameRest bv (s.data.toList.drop pos) = nameRest 45 s.data.toList)) (fun _ w' => s.size - w'.iterPos w.heap.size)
  case atStart => exact ⟨0, 45, rfl, rfl, by omega, Nat.zero_le _, by simp [Hid]⟩
  case round =>
    obtain ⟨pos, bv, rfl, rfl, hbv, hps, hR⟩ := hrel
    have hbl : Below w.heap.size w (w.iter s pos) := (Below.refl _ w).alloc (Nat.le_refl _) _
    by_cases hp : pos < s.size
    · have hnx : ∀ ty, (Instr.next (.pointer (some ⟨w.heap.size, 0, none⟩)) true ty).run Try.prog (w.iter s pos) = _ := fun ty => run_next_any w s pos ty hp
      have hd := drop_cons s pos hp
      have hR' := hR.out
      rw [hd] at hR'
      have hbl' : ∀ p, Below w.heap.size w (w.iter s p) := fun p => (Below.refl _ w).alloc (Nat.le_refl _) _
      by_cases h1 : (s[pos]'hp).toNat < 128
      · have hdec := decode_ascii s pos hp h1
        generalize hc : (s[pos]'hp) = c at *
        clear hd hc hR
        by_cases hlet : 97 ≤ c.toNat ∧ c.toNat ≤ 122
        · rw [nameRest, if_pos hlet] at hR'
          have HN := Lib.hid hR'
          clear hR'
          obtain ⟨l1, l2⟩ := hlet
          go_wp2_with fail
          go_roundw
          case rel => exact ⟨pos + 1, c.toNat, rfl, rfl, by omega, by omega, HN⟩
          case measure => simp; omega
        · by_cases hhy : c.toNat = 45 ∧ bv ≠ 45
          · rw [nameRest, if_neg hlet, if_pos hhy] at hR'
            have HN := Lib.hid hR'
            clear hR' hlet
            obtain ⟨y1, y2⟩ := hhy
            have y3 : ((bv : Int) == 45) = false := by simp; omega
            go_wp2_with fail
            go_roundw
            case rel => exact ⟨pos + 1, 45, rfl, rfl, by omega, by omega, HN⟩
            case measure => simp; omega
          · rw [nameRest, if_neg hlet, if_neg hhy] at hR'
            have HN := Lib.hid hR'
            clear hR'
            by_cases k1 : c.toNat = 45
            · have k2 : bv = 45 := by omega
              subst k2
              clear hhy hlet
              go_wp2_with fail
              go_ret
              exact ⟨ret_bool HN.out, hbl' _⟩
            · have k3 : ((c.toNat : Int) == 45) = false := by simp; omega
              have k4 : ((c.toNat : Int) != 45) = true := by simp; omega
              clear hhy
              by_cases k5 : 97 ≤ c.toNat
              · have k6 : decide ((c.toNat : Int) ≤ 122) = false := by simp; omega
                clear hlet
                go_wp2_with fail
                go_ret
                exact ⟨ret_bool HN.out, hbl' _⟩
              · clear hlet
                go_wp2_with fail
                go_ret
                exact ⟨ret_bool HN.out, hbl' _⟩
      · have hdec := (decode_high s pos hp (by omega)).1
        generalize hc : (s[pos]'hp) = c at *
        have hge : ¬ c.toNat < 128 := h1
        rw [nameRest, if_neg (by omega), if_neg (by omega)] at hR'
        have HN := Lib.hid hR'
        clear hR' hR hd hc
        generalize hr : Utf8.decode s pos = r at *
        have k3 : ((r.1 : Int) == 45) = false := by simp; omega
        have k4 : ((r.1 : Int) != 45) = true := by simp; omega
        have k7 : decide ((r.1 : Int) ≤ 122) = false := by simp; omega
        have k8 : 97 ≤ r.1 := by omega
        clear hr
        go_wp2_with fail
        go_ret
        exact ⟨ret_bool HN.out, hbl' _⟩
    · have hnx : ∀ ty, (Instr.next (.pointer (some ⟨w.heap.size, 0, none⟩)) true ty).run Try.prog (w.iter s pos) = _ := fun ty => run_next_end w s pos ty hp
      have hfin := hR.out
      rw [List.drop_eq_nil_of_le (by simp; omega), nameRest] at hfin
      have HN := Lib.hid hfin
      clear hfin hR
      go_wp2_with fail
      go_ret
      exact ⟨ret_bool ((congrArg not (cast_beq bv 45)).trans HN.out), hbl⟩

set_option maxHeartbeats 400000 in
theorem name_any (s : ByteArray) (w : World) (hmax : s.size ≤ 9223372036854775807) :
    Calls Try.prog 95 #[.string s] w fun e w' => e = .returned (.bool (nameB s)) ∧ Below w.heap.size w w' := by
  by_cases hs : s.size ≤ 20
  · have := name_short s w hs
    simpa [nameB, hs] using this
  · have hn : nameB s = false := by simp [nameB, hs]
    rw [hn]
    go_enter Try.func95, Try.ntmps95
    go_wp2_with fail
    go_ret
    exact ⟨rfl, Below.refl _ _⟩
end Go.Proofs.Ytkjfommdeljefaa
