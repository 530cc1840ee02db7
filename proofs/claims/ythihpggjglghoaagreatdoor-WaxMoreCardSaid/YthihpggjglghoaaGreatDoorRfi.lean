/- ref.Ints, Spans: contracts. -/
import Derived.Test.YthihpggjglghoaaGreatDoorOpen
namespace Go.Proofs.YthihpggjglghoaaGreatDoor
open Go.RowKit Go.Shelf

theorem take_eq_len {α : Type} {l m : List α} (hlen : l.length = m.length) (h : l.take l.length = m.take l.length) : l = m := by
  have h2 : m.take l.length = m := by rw [hlen, List.take_length]
  rw [List.take_length, h2] at h
  exact h

set_option maxRecDepth 100000 in
set_option maxHeartbeats 1000000 in
theorem ints_any {w : World} {A B : Option Addr} {c d : Nat} {l m : List Int} (hl : IntsIn w A l) (hm : IntsIn w B m) :
    Calls Tryz.prog 32 #[.slice A l.length c, .slice B m.length d] w fun e w' => e = .returned (.bool (decide (l = m))) ∧ Below w.heap.size w w' := by
  have hll := hl.len
  by_cases hlen : m.length = l.length
  · rw [hlen]
    have HLEN := Lib.hid hlen
    clear hlen
    go_enter Tryz.func32, Tryz.ntmps32
    go_wp2_with fail
    go_loopw [5] (fun i wr => ∃ k : Nat, k ≤ l.length ∧ i = .int .i64 k ∧ Hid (l.take k = m.take k) ∧ Below w.heap.size w wr) (fun i _ => l.length - (intOf i).toNat)
    case atStart => exact ⟨0, by omega, rfl, by show _ = _; simp, Below.refl _ _⟩
    case round =>
      obtain ⟨k, hk, rfl, HT, hb⟩ := hrel
      by_cases hlt : k < l.length
      · obtain ⟨x, hx⟩ : ∃ x, l[k]? = some x := ⟨l[k], List.getElem?_eq_getElem hlt⟩
        obtain ⟨y, hy⟩ : ∃ y, m[k]? = some y := ⟨m[k]'(by rw [HLEN.out]; exact hlt), List.getElem?_eq_getElem _⟩
        obtain ⟨b1, o1, rfl, _, hc1⟩ := ints_at (RowAt.below hl.at_ hb (Nat.le_refl _)) hx
        obtain ⟨b2, o2, rfl, _, hc2⟩ := ints_at (RowAt.below hm.at_ hb (Nat.le_refl _)) hy
        have HX := Lib.hid hx
        have HY := Lib.hid hy
        clear hx hy
        by_cases hxy : x = y
        · subst hxy
          have HT' : Hid (l.take (k + 1) = m.take (k + 1)) := by
            show _ = _
            rw [List.take_add_one, List.take_add_one, HT.out, HX.out, HY.out]
          clear HX HY
          go_wp2_with fail
          go_quiet (fail)
          go_wp2_with fail
          go_roundw
          case rel => exact ⟨k + 1, by omega, by go_num, HT', by repeat (first | exact hb | apply below_drewN')⟩
          case measure => simp [intOf]; omega
        · have hne : (x != y) = true := by simpa using hxy
          have hno : decide (l = m) = false := by
            rw [decide_eq_false_iff_not]
            intro e
            have h1 := HX.out
            rw [e, HY.out] at h1
            exact hxy (by simpa using h1.symm)
          have HNO := Lib.hid hno
          clear hno HX HY hxy
          go_wp2_with fail
          go_quiet (fail)
          go_wp2_with fail
          go_ret
          exact ⟨ret_bool HNO.out.symm, by repeat (first | exact hb | apply below_drewN')⟩
      · have hke : k = l.length := by omega
        have hyes : decide (l = m) = true := by
          rw [decide_eq_true_eq]
          exact take_eq_len HLEN.out.symm (by rw [← hke]; exact HT.out)
        have HYES := Lib.hid hyes
        clear hyes hke
        go_wp2_with fail
        go_ret
        exact ⟨ret_bool HYES.out.symm, hb⟩
  · have hno : decide (l = m) = false := by
      rw [decide_eq_false_iff_not]
      intro e
      exact hlen (by rw [e])
    have HNO := Lib.hid hno
    have hne : (l.length != m.length) = true := by simpa using fun e => hlen e.symm
    have hne2 : ((l.length : Int) != (m.length : Int)) = true := by
      have h : (l.length : Int) ≠ (m.length : Int) := fun e => hlen (by omega)
      simpa using h
    have hml := hm.len
    clear hno hlen
    go_enter Tryz.func32, Tryz.ntmps32
    go_wp2_with fail
    go_ret
    exact ⟨ret_bool HNO.out.symm, Below.refl _ _⟩
end Go.Proofs.YthihpggjglghoaaGreatDoor
