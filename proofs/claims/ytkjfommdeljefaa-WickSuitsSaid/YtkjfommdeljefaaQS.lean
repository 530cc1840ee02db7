/- The law: the calls of the examples. -/
import Derived.Test.YtkjfommdeljefaaQR
import Derived.Test.YtkjfommdeljefaaQM
namespace Go.Proofs.Ytkjfommdeljefaa
open Go.RowKit Go.Shelf Go.Maps
attribute [local go_sem] Oper.semAt_some

theorem take_eq_len {α : Type} {l m : List α} (hlen : l.length = m.length) (h : l.take l.length = m.take l.length) : l = m := by
  have h2 : m.take l.length = m := by rw [hlen, List.take_length]
  rw [List.take_length, h2] at h
  exact h


set_option maxRecDepth 100000 in
set_option maxHeartbeats 1000000 in
theorem rints_any {w : World} {A B : Option Addr} {c d : Nat} {l m : List Int} (hl : IntsIn w A l) (hm : IntsIn w B m) :
    Calls Try.prog 25 #[.slice A l.length c, .slice B m.length d] w fun e w' => e = .returned (.bool (decide (l = m))) ∧ Below w.heap.size w w' := by
  have hll := hl.len
  by_cases hlen : m.length = l.length
  · rw [hlen]
    have HLEN := Lib.hid hlen
    clear hlen
    go_enter Try.func25, Try.ntmps25
    go_wp2_with fail
    go_loopw [5] (fun i wr => ∃ k : Nat, k ≤ l.length ∧ i = .int .i64 k ∧ Hid (l.take k = m.take k) ∧ Below w.heap.size w wr) (fun i _ => l.length - (intOf i).toNat)
    case atStart => exact ⟨0, by omega, rfl, by show _ = _; simp, Below.refl _ _⟩
    case round =>
      obtain ⟨k, hk, rfl, HT, hb⟩ := hrel
      by_cases hlt : k < l.length
      · obtain ⟨x, hx⟩ : ∃ x, l[k]? = some x := ⟨l[k], List.getElem?_eq_getElem hlt⟩
        obtain ⟨y, hy⟩ : ∃ y, m[k]? = some y := ⟨m[k]'(by rw [HLEN.out]; exact hlt), List.getElem?_eq_getElem _⟩
        obtain ⟨b1, o1, rfl, _, hc1⟩ := ints_at (RowAt.below hl.at_ hb (Nat.le_refl _)) hx
        obtain ⟨b2, o2, rfl, _, hc2⟩ := ints_at (RowAt.below hm.at_ hb (Nat.le_refl _)) hy
        have HX := Lib.hid hx
        have HY := Lib.hid hy
        clear hx hy
        by_cases hxy : x = y
        · subst hxy
          have HT' : Hid (l.take (k + 1) = m.take (k + 1)) := by
            show _ = _
            rw [List.take_add_one, List.take_add_one, HT.out, HX.out, HY.out]
          clear HX HY
          go_wp2_with fail
          go_quiet (fail)
          go_wp2_with fail
          go_roundw
          case rel => exact ⟨k + 1, by omega, by go_num, HT', by repeat (first | exact hb | apply below_drewN')⟩
          case measure => simp [intOf]; omega
        · have hne : (x != y) = true := by simpa using hxy
          have hno : decide (l = m) = false := by
            rw [decide_eq_false_iff_not]
            intro e
            have h1 := HX.out
            rw [e, HY.out] at h1
            exact hxy (by simpa using h1.symm)
          have HNO := Lib.hid hno
          clear hno HX HY hxy
          go_wp2_with fail
          go_quiet (fail)
          go_wp2_with fail
          go_ret
          exact ⟨ret_bool HNO.out.symm, by repeat (first | exact hb | apply below_drewN')⟩
      · have hke : k = l.length := by omega
        have hyes : decide (l = m) = true := by
          rw [decide_eq_true_eq]
          exact take_eq_len HLEN.out.symm (by rw [← hke]; exact HT.out)
        have HYES := Lib.hid hyes
        clear hyes hke
        go_wp2_with fail
        go_ret
        exact ⟨ret_bool HYES.out.symm, hb⟩
  · have hno : decide (l = m) = false := by
      rw [decide_eq_false_iff_not]
      intro e
      exact hlen (by rw [e])
    have HNO := Lib.hid hno
    have hne : (l.length != m.length) = true := by simpa using fun e => hlen e.symm
    have hne2 : ((l.length : Int) != (m.length : Int)) = true := by
      have h : (l.length : Int) ≠ (m.length : Int) := fun e => hlen (by omega)
      simpa using h
    have hml := hm.len
    clear hno hlen
    go_enter Try.func25, Try.ntmps25
    go_wp2_with fail
    go_ret
    exact ⟨ret_bool HNO.out.symm, Below.refl _ _⟩

theorem ints_yes {W : World} {A B : Option Addr} {n c d : Nat} {l : List Int} (hn : l.length = n) (h1 : IntsIn W A l) (h2 : IntsIn W B l) :
    Calls Try.prog 25 #[.slice A n c, .slice B n d] W fun e w' => e = .returned (.bool true) ∧ Below W.heap.size W w' := by
  subst hn
  exact (rints_any (c := c) (d := d) h1 h2).mono fun e w' h => ⟨by rw [h.1, decide_eq_true rfl], h.2⟩

theorem aw_at {W : World} {K X : Nat} (h : ShIn W ⟨shp, some ⟨K, 0, none⟩, 3, some ⟨X, 0, none⟩, 1⟩) :
    Calls Try.prog 17 #[.agg #[.slice (some ⟨K, 0, none⟩) 3 3, .slice (some ⟨X, 0, none⟩) 1 1, .int .i64 20, .int .i64 45, .int .i64 500, .int .i64 1000], .int .i64 1, .agg #[.int .i64 0, .int .i64 300, .int .i64 10, .int .i64 0, .int .i64 20], .agg #[.int .i64 22, .int .i64 100, .int .i64 150, .int .i64 1000, .int .i64 0, .int .i64 10]] W fun e w' => e = .returned (.tuple #[.agg #[.int .i64 22000000, .int .i64 33000000, .int .i64 219000000], .int .i64 0]) ∧ Below W.heap.size W w' := by
  have H := at_yes (t := exT) h ex_ask1 ev_ask1 (tuB_iff.1 ev_tu)
  refine H.mono ?_
  rw [ev_at]
  exact fun e w' h => h

theorem aw_burn {W : World} {K X : Nat} (h : ShIn W ⟨shp, some ⟨K, 0, none⟩, 3, some ⟨X, 0, none⟩, 1⟩) :
    Calls Try.prog 19 #[.agg #[.slice (some ⟨K, 0, none⟩) 3 3, .slice (some ⟨X, 0, none⟩) 1 1, .int .i64 20, .int .i64 45, .int .i64 500, .int .i64 1000], .int .i64 1, .agg #[.int .i64 0, .int .i64 300, .int .i64 10, .int .i64 0, .int .i64 20]] W fun e w' => e = .returned (.tuple #[.agg #[.int .i64 18000000, .int .i64 27000000, .int .i64 178000000], .agg #[.int .i64 26400000, .int .i64 42240000, .int .i64 290400000], .int .i64 0]) ∧ Below W.heap.size W w' := by
  have H := pburn_ok h ex_ask1 ev_ask1
  refine H.mono ?_
  rw [ev_weak, ev_strong]
  exact fun e w' h => h

theorem aw_min {W : World} {K X : Nat} (h : ShIn W ⟨shp, some ⟨K, 0, none⟩, 3, some ⟨X, 0, none⟩, 1⟩) :
    Calls Try.prog 21 #[.agg #[.slice (some ⟨K, 0, none⟩) 3 3, .slice (some ⟨X, 0, none⟩) 1 1, .int .i64 20, .int .i64 45, .int .i64 500, .int .i64 1000], .int .i64 1, .agg #[.int .i64 0, .int .i64 300, .int .i64 10, .int .i64 0, .int .i64 20], .int .i64 100] W fun e w' => e = .returned (.tuple #[.agg #[.int .i64 2272, .int .i64 3334], .int .i64 0]) ∧ Below W.heap.size W w' := by
  have H := min_yes (g := 100) h ex_ask1 ev_ask1 (by decide)
  refine H.mono ?_
  rw [ev_m]
  exact fun e w' h => h

theorem aw_f2 {W : World} {K X : Nat} (h : ShIn W ⟨shp, some ⟨K, 0, none⟩, 3, some ⟨X, 0, none⟩, 1⟩) :
    Calls Try.prog 23 #[.agg #[.slice (some ⟨K, 0, none⟩) 3 3, .slice (some ⟨X, 0, none⟩) 1 1, .int .i64 20, .int .i64 45, .int .i64 500, .int .i64 1000], .int .i64 2, .agg #[.int .i64 0, .int .i64 300, .int .i64 10, .int .i64 0, .int .i64 20]] W fun e w' => ∃ A n, e = .returned (.tuple #[.slice A 2 n, .int .i64 0]) ∧ IntsIn w' A [1, 4] ∧ Below W.heap.size W w' := by
  have H := faults_ok h ex_ask2 ev_ask2
  refine H.mono ?_
  rw [ev_f2]
  rintro e w' ⟨v, rfl, hv, hb⟩
  obtain ⟨A, n, rfl, hi⟩ := hv.in_
  exact ⟨A, n, rfl, hi, hb⟩

theorem aw_f1 {W : World} {K X : Nat} (h : ShIn W ⟨shp, some ⟨K, 0, none⟩, 3, some ⟨X, 0, none⟩, 1⟩) :
    Calls Try.prog 23 #[.agg #[.slice (some ⟨K, 0, none⟩) 3 3, .slice (some ⟨X, 0, none⟩) 1 1, .int .i64 20, .int .i64 45, .int .i64 500, .int .i64 1000], .int .i64 1, .agg #[.int .i64 0, .int .i64 300, .int .i64 10, .int .i64 0, .int .i64 20]] W fun e w' => ∃ A n, e = .returned (.tuple #[.slice A 0 n, .int .i64 0]) ∧ IntsIn w' A [] ∧ Below W.heap.size W w' := by
  have H := faults_ok h ex_ask1 ev_ask1
  refine H.mono ?_
  rw [ev_f1]
  rintro e w' ⟨v, rfl, hv, hb⟩
  obtain ⟨A, n, rfl, hi⟩ := hv.in_
  exact ⟨A, n, rfl, hi, hb⟩

theorem aw_f0 {W : World} {K X : Nat} (h : ShIn W ⟨shp, some ⟨K, 0, none⟩, 3, some ⟨X, 0, none⟩, 1⟩) :
    Calls Try.prog 23 #[.agg #[.slice (some ⟨K, 0, none⟩) 3 3, .slice (some ⟨X, 0, none⟩) 1 1, .int .i64 20, .int .i64 45, .int .i64 500, .int .i64 1000], .int .i64 0, .agg #[.int .i64 0, .int .i64 300, .int .i64 10, .int .i64 0, .int .i64 20]] W fun e w' => ∃ A n, e = .returned (.tuple #[.slice A 1 n, .int .i64 0]) ∧ IntsIn w' A [3] ∧ Below W.heap.size W w' := by
  have H := faults_ok h ex_ask0 ev_ask0
  refine H.mono ?_
  rw [ev_f0]
  rintro e w' ⟨v, rfl, hv, hb⟩
  obtain ⟨A, n, rfl, hi⟩ := hv.in_
  exact ⟨A, n, rfl, hi, hb⟩

theorem aw_u3 {W : World} {K X : Nat} (h : ShIn W ⟨shp, some ⟨K, 0, none⟩, 3, some ⟨X, 0, none⟩, 1⟩) :
    Calls Try.prog 26 #[.agg #[.slice (some ⟨K, 0, none⟩) 3 3, .slice (some ⟨X, 0, none⟩) 1 1, .int .i64 20, .int .i64 45, .int .i64 500, .int .i64 1000], .agg #[.int .i64 0, .int .i64 300, .int .i64 10, .int .i64 0, .int .i64 20]] W fun e w' => ∃ A n, e = .returned (.tuple #[.slice A 1 n, .int .i64 0]) ∧ IntsIn w' A [1] ∧ Below W.heap.size W w' := by
  have H := suits_ok h (ex_askC 300 (by decide)) ev_ac3
  refine H.mono ?_
  rw [show (suitN shp wx0 (cdl 300) shp.ks.length).map Int.ofNat = _ from ev_s3]
  rintro e w' ⟨v, rfl, hv, hb⟩
  obtain ⟨A, n, rfl, hi⟩ := hv.in_
  exact ⟨A, n, rfl, hi, hb⟩

theorem aw_u25 {W : World} {K X : Nat} (h : ShIn W ⟨shp, some ⟨K, 0, none⟩, 3, some ⟨X, 0, none⟩, 1⟩) :
    Calls Try.prog 26 #[.agg #[.slice (some ⟨K, 0, none⟩) 3 3, .slice (some ⟨X, 0, none⟩) 1 1, .int .i64 20, .int .i64 45, .int .i64 500, .int .i64 1000], .agg #[.int .i64 0, .int .i64 250, .int .i64 10, .int .i64 0, .int .i64 20]] W fun e w' => ∃ A n, e = .returned (.tuple #[.slice A 1 n, .int .i64 0]) ∧ IntsIn w' A [0] ∧ Below W.heap.size W w' := by
  have H := suits_ok h (ex_askC 250 (by decide)) ev_ac25
  refine H.mono ?_
  rw [show (suitN shp wx0 (cdl 250) shp.ks.length).map Int.ofNat = _ from ev_s25]
  rintro e w' ⟨v, rfl, hv, hb⟩
  obtain ⟨A, n, rfl, hi⟩ := hv.in_
  exact ⟨A, n, rfl, hi, hb⟩

theorem aw_t3 {W : World} {K X : Nat} (h : ShIn W ⟨shp, some ⟨K, 0, none⟩, 3, some ⟨X, 0, none⟩, 1⟩) :
    Calls Try.prog 28 #[.agg #[.slice (some ⟨K, 0, none⟩) 3 3, .slice (some ⟨X, 0, none⟩) 1 1, .int .i64 20, .int .i64 45, .int .i64 500, .int .i64 1000], .agg #[.int .i64 0, .int .i64 300, .int .i64 10, .int .i64 0, .int .i64 20]] W fun e w' => e = .returned (.tuple #[.int .i64 1, .int .i64 0]) ∧ Below W.heap.size W w' := by
  have H := callsIn_wide.1 (thin_in h (ex_askC 300 (by decide)) ev_ac3)
  refine H.mono ?_
  rw [show thinOut (thinV shp.ks (suitN shp wx0 (cdl 300) shp.ks.length)) = _ from ev_t3]
  exact fun e w' h => h

theorem aw_t28 {W : World} {K X : Nat} (h : ShIn W ⟨shp, some ⟨K, 0, none⟩, 3, some ⟨X, 0, none⟩, 1⟩) :
    Calls Try.prog 28 #[.agg #[.slice (some ⟨K, 0, none⟩) 3 3, .slice (some ⟨X, 0, none⟩) 1 1, .int .i64 20, .int .i64 45, .int .i64 500, .int .i64 1000], .agg #[.int .i64 0, .int .i64 285, .int .i64 10, .int .i64 0, .int .i64 20]] W fun e w' => e = .returned (.tuple #[.int .i64 0, .int .i64 9]) ∧ Below W.heap.size W w' := by
  have H := callsIn_wide.1 (thin_in h (ex_askC 285 (by decide)) ev_ac28)
  refine H.mono ?_
  rw [show thinOut (thinV shp.ks (suitN shp wx0 (cdl 285) shp.ks.length)) = _ from ev_t28]
  exact fun e w' h => h

theorem aw_z1 {W : World} {K X : Nat} (h : ShIn W ⟨shp, some ⟨K, 0, none⟩, 3, some ⟨X, 0, none⟩, 1⟩) :
    Calls Try.prog 30 #[.agg #[.slice (some ⟨K, 0, none⟩) 3 3, .slice (some ⟨X, 0, none⟩) 1 1, .int .i64 20, .int .i64 45, .int .i64 500, .int .i64 1000], .int .i64 1, .agg #[.int .i64 0, .int .i64 300, .int .i64 10, .int .i64 0, .int .i64 20]] W fun e w' => e = .returned (.tuple #[.agg #[.int .i64 291, .int .i64 356], .int .i64 0]) ∧ Below W.heap.size W w' := by
  have H := psizes_ok h ex_ask1 ev_ask1
  refine H.mono ?_
  rw [show sizesO (sizesV shp wk1 wx0 (cdl 300)) = _ from ev_z1]
  exact fun e w' h => h

theorem aw_z0 {W : World} {K X : Nat} (h : ShIn W ⟨shp, some ⟨K, 0, none⟩, 3, some ⟨X, 0, none⟩, 1⟩) :
    Calls Try.prog 30 #[.agg #[.slice (some ⟨K, 0, none⟩) 3 3, .slice (some ⟨X, 0, none⟩) 1 1, .int .i64 20, .int .i64 45, .int .i64 500, .int .i64 1000], .int .i64 0, .agg #[.int .i64 0, .int .i64 300, .int .i64 10, .int .i64 0, .int .i64 20]] W fun e w' => e = .returned (.tuple #[.agg #[.int .i64 218, .int .i64 284], .int .i64 0]) ∧ Below W.heap.size W w' := by
  have H := psizes_ok h ex_ask0 ev_ask0
  refine H.mono ?_
  rw [show sizesO (sizesV shp wk0 wx0 (cdl 300)) = _ from ev_z0]
  exact fun e w' h => h

theorem aw_z2 {W : World} {K X : Nat} (h : ShIn W ⟨shp, some ⟨K, 0, none⟩, 3, some ⟨X, 0, none⟩, 1⟩) :
    Calls Try.prog 30 #[.agg #[.slice (some ⟨K, 0, none⟩) 3 3, .slice (some ⟨X, 0, none⟩) 1 1, .int .i64 20, .int .i64 45, .int .i64 500, .int .i64 1000], .int .i64 2, .agg #[.int .i64 0, .int .i64 300, .int .i64 10, .int .i64 0, .int .i64 20]] W fun e w' => e = .returned (.tuple #[.agg #[.int .i64 0, .int .i64 0], .int .i64 9]) ∧ Below W.heap.size W w' := by
  have H := psizes_ok h ex_ask2 ev_ask2
  refine H.mono ?_
  rw [show sizesO (sizesV shp wk2 wx0 (cdl 300)) = _ from ev_z2]
  exact fun e w' h => h
end Go.Proofs.Ytkjfommdeljefaa
