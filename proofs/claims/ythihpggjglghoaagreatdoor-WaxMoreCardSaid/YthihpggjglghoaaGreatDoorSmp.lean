/- wax.open, look, differ, knows, everyKind, judge, floor, atMost, found, checkReadings: contracts. -/
import Derived.Test.YthihpggjglghoaaGreatDoorCk
import Derived.StillTailTactics
import Derived.Deep.RegionWith
namespace Go.Proofs.YthihpggjglghoaaGreatDoor
open Go.RowKit Go.Shelf

theorem wt (n lo hi : Int) (w : World) (h : lo ≤ n ∧ n ≤ hi) : Calls Tryz.prog 68 #[.int .i64 n, .int .i64 lo, .int .i64 hi] w fun e w' => e = .returned (.bool true) ∧ w = w' := by
  have := within_any n lo hi w
  rwa [decide_eq_true h] at this
theorem wf (n lo hi : Int) (w : World) (h : ¬ (lo ≤ n ∧ n ≤ hi)) : Calls Tryz.prog 68 #[.int .i64 n, .int .i64 lo, .int .i64 hi] w fun e w' => e = .returned (.bool false) ∧ w = w' := by
  have := within_any n lo hi w
  rwa [decide_eq_false h] at this

/-- WxPure 1, WxImpure 0, WxPerhaps 2. -/
def judgeV (lo hi pu : Int) : Int := if pu ≤ lo then 1 else if hi < pu then 0 else 2
set_option maxHeartbeats 400000 in
theorem judge_any (lo hi pu : Int) (w : World) :
    Calls Tryz.prog 42 #[.agg #[.int .i64 lo, .int .i64 hi], .int .i64 pu] w fun e w' => e = .returned (.int .i64 (judgeV lo hi pu)) ∧ Below w.heap.size w w' := by
  have hb0 : ∀ o, Below w.heap.size w (w.alloc o) := fun o => (Below.refl _ w).alloc (Nat.le_refl _) _
  unfold judgeV
  by_cases h1 : pu ≤ lo
  · go_enter Tryz.func42, Tryz.ntmps42
    go_wp2
    go_ret
    exact ⟨by simp, hb0 _⟩
  · by_cases h2 : hi < pu
    · go_enter Tryz.func42, Tryz.ntmps42
      go_wp2
      go_ret
      exact ⟨by simp, hb0 _⟩
    · go_enter Tryz.func42, Tryz.ntmps42
      go_wp2
      go_ret
      exact ⟨by simp, hb0 _⟩

theorem tdiv_neg_facts (a b : Int) (ha : a < 0) (hb : 1 ≤ b) : (a.tmod b < 0 → a / b = a.tdiv b - 1) ∧ (0 ≤ a.tmod b → a / b = a.tdiv b) ∧ a ≤ a.tdiv b ∧ a.tdiv b ≤ 0 := by
  obtain ⟨x, rfl⟩ : ∃ x, a = -x := ⟨-a, by omega⟩
  have hx : 0 ≤ x := by omega
  rw [Int.neg_tmod, Int.neg_tdiv, Int.tmod_eq_emod_of_nonneg hx, Int.tdiv_eq_ediv_of_nonneg hx]
  have h1 := Int.emod_nonneg x (show b ≠ 0 by omega)
  have h2 := Int.emod_lt_of_pos x (show 0 < b by omega)
  have h3 := Int.emod_add_mul_ediv x b
  have h4 : x / b ≤ x := Int.ediv_le_self _ hx
  have h5 : 0 ≤ x / b := Int.ediv_nonneg hx (by omega)
  generalize x % b = r at *
  generalize x / b = q at *
  refine ⟨fun h => ?_, fun h => ?_, by omega, by omega⟩
  · refine ((Int.ediv_emod_unique (show 0 < b by omega)).2 ⟨(?_ : (b - r) + b * (-q - 1) = -x), by omega, by omega⟩).1
    rw [Int.mul_sub, Int.mul_neg]; omega
  · refine ((Int.ediv_emod_unique (show 0 < b by omega)).2 ⟨(?_ : (0 : Int) + b * (-q) = -x), by omega, by omega⟩).1
    rw [Int.mul_neg]; omega

set_option maxHeartbeats 400000 in
theorem floor_any (a b : Int) (w : World) (ha : -1000000000 ≤ a) (ha' : a ≤ 1000000000) (hb : 1 ≤ b) (hb' : b ≤ 1000000000) :
    Calls Tryz.prog 105 #[.int .i64 a, .int .i64 b] w fun e w' => e = .returned (.int .i64 (a / b)) ∧ w = w' := by
  by_cases h0 : 0 ≤ a
  · have h1 := Int.emod_nonneg a (show b ≠ 0 by omega)
    have h2 : ¬ a % b < 0 := by omega
    go_enter Tryz.func105, Tryz.ntmps105
    go_wp2
    go_ret
    exact ⟨rfl, rfl⟩
  · obtain ⟨k1, k2, k3, k4⟩ := tdiv_neg_facts a b (by omega) hb
    by_cases h1 : a.tmod b < 0
    · have K := Lib.hid (k1 h1)
      clear k1 k2
      go_enter Tryz.func105, Tryz.ntmps105
      go_wp2
      go_ret
      exact ⟨by rw [K.out]; rfl, rfl⟩
    · have K := Lib.hid (k2 (by omega))
      clear k1 k2
      go_enter Tryz.func105, Tryz.ntmps105
      go_wp2
      go_ret
      exact ⟨by rw [K.out]; rfl, rfl⟩

set_option maxHeartbeats 400000 in
theorem atMost_any (f l : Int) (w : World) :
    Calls Tryz.prog 87 #[.int .i64 f, .int .i64 l] w fun e w' => e = .returned (.func (.func 104) #[] #[.pointer (some ⟨w.heap.size, 0, none⟩), .pointer (some ⟨w.heap.size + 1, 0, none⟩)]) ∧ w' = ((w.alloc (.cells #[.int .i64 f] 3)).alloc (.cells #[.int .i64 l] 3)) := by
  go_enter Tryz.func87, Tryz.ntmps87
  go_wp2
  go_ret
  exact ⟨rfl, rfl⟩

/-- A bound applied to a range of parts. -/
def applyB (f l : Int) (p : Int × Int) : Int × Int :=
  if 0 < f then (p.1, min p.2 (l / f)) else if f < 0 then (max p.1 (-(l / -f)), p.2) else if l < 0 then (p.1, p.1 - 1) else p

theorem ediv_bd (l d : Int) (hl : -1000000000 ≤ l ∧ l ≤ 1000000000) (hd : 1 ≤ d) : -1000000000 ≤ l / d ∧ l / d ≤ 1000000000 := by
  have h1 := Int.emod_add_mul_ediv l d
  have h2 := Int.emod_lt_of_pos l (show 0 < d by omega)
  have h0 := Int.emod_nonneg l (show d ≠ 0 by omega)
  constructor
  · by_cases hn : l / d < -1000000000
    · have h3 : d * (l / d) ≤ d * (-1000000001) := Int.mul_le_mul_of_nonneg_left (by omega) (by omega)
      omega
    · omega
  · by_cases hl0 : 0 ≤ l
    · have := Int.ediv_le_self d hl0; omega
    · have : l / d < 0 := Int.ediv_neg_of_neg_of_pos (by omega) (by omega); omega

set_option maxRecDepth 100000 in
set_option maxHeartbeats 2000000 in
theorem bound_any (f l : Int) (p : Int × Int) (B1 B2 : Nat) (w : World) (hf : -1000000000 ≤ f ∧ f ≤ 1000000000) (hl : -1000000000 ≤ l ∧ l ≤ 1000000000) (hp : -1000000000 ≤ p.1 ∧ p.1 ≤ 1000000000)
    (hb1 : B1 < w.heap.size) (hb2 : B2 < w.heap.size) (h1 : w.cell? ⟨B1, 0, none⟩ = some (.int .i64 f)) (h2 : w.cell? ⟨B2, 0, none⟩ = some (.int .i64 l)) :
    Calls Tryz.prog 104 #[.agg #[.int .i64 p.1, .int .i64 p.2], .pointer (some ⟨B1, 0, none⟩), .pointer (some ⟨B2, 0, none⟩)] w fun e w' => e = .returned (.agg #[.int .i64 (applyB f l p).1, .int .i64 (applyB f l p).2]) ∧ Below w.heap.size w w' := by
  have n1 : ¬ B1 = w.heap.size := by omega
  have n2 : ¬ B2 = w.heap.size := by omega
  have n3 : ¬ B1 = w.heap.size + 1 := by omega
  have n4 : ¬ B2 = w.heap.size + 1 := by omega
  obtain ⟨lo, hi⟩ := p
  have hb0 : Below w.heap.size w ((w.alloc (.cells #[.int .i64 lo, .int .i64 hi] 35)).alloc (.cells #[.int .i64 0, .int .i64 0] 35)) := ((Below.refl _ w).alloc (Nat.le_refl _) _).alloc (by simp) _
  unfold applyB
  dsimp only at *
  by_cases hf0 : 0 < f
  · rw [if_pos hf0]
    have HFl := Lib.hid (fun w => (floor_any l f w (by omega) (by omega) (by omega) (by omega)).mono fun _ _ h => (⟨h.1, h.2.symm⟩ : _ ∧ _ = w))
    generalize l / f = q at *
    go_enter Tryz.func104, Tryz.ntmps104
    go_wp2_with fail
    refine wp_region_still_tail 7 (by kernel_rfl) (by kernel_rfl) ?_
    simp only [List.take_succ_cons, List.take_zero, List.drop_succ_cons, List.drop_zero]
    generalize hWd : ({ (w.alloc (.cells #[.int .i64 lo, .int .i64 hi] 43)).alloc (.cells #[.int .i64 0, .int .i64 0] 43) with drawn := ((w.alloc (.cells #[.int .i64 lo, .int .i64 hi] 43)).alloc (.cells #[.int .i64 0, .int .i64 0] 43)).drawn + 1 } : World) = Wd
    have HW := Lib.hid hWd
    have g1 : Wd.cell? ⟨B1, 0, none⟩ = some (.int .i64 f) := by rw [← hWd]; show World.cell? ((w.alloc (.cells #[.int .i64 lo, .int .i64 hi] 43)).alloc (.cells #[.int .i64 0, .int .i64 0] 43)) _ = _; simp [go_sem, *]
    have g2 : Wd.cell? ⟨B2, 0, none⟩ = some (.int .i64 l) := by rw [← hWd]; show World.cell? ((w.alloc (.cells #[.int .i64 lo, .int .i64 hi] 43)).alloc (.cells #[.int .i64 0, .int .i64 0] 43)) _ = _; simp [go_sem, *]
    have g3 : Wd.cell? ⟨w.heap.size, 0, none⟩ = some (.int .i64 lo) := by rw [← hWd]; show World.cell? ((w.alloc (.cells #[.int .i64 lo, .int .i64 hi] 43)).alloc (.cells #[.int .i64 0, .int .i64 0] 43)) _ = _; simp [go_sem]
    have g4 : Wd.cell? ⟨w.heap.size, 1, none⟩ = some (.int .i64 hi) := by rw [← hWd]; show World.cell? ((w.alloc (.cells #[.int .i64 lo, .int .i64 hi] 43)).alloc (.cells #[.int .i64 0, .int .i64 0] 43)) _ = _; simp [go_sem]
    clear hWd
    repeat still_step
    still_call (HFl.out _)
    repeat still_step
    refine wpStill_nil ?_
    obtain rfl := HW.out
    clear g1 g2 g3 g4 HW
    change wpList _ _ _ _ _ (World.drew _)
    go_wp2_with fail
    all_goals exact bodyPost_ret (v := .agg #[.int .i64 lo, .int .i64 (min hi q)]) (by simp [results, Tryz.results104, go_sem]; omega) rfl ⟨rfl, (by repeat (first | exact Below.refl _ _ | refine Below.drew ?_ | refine Below.alloc ?_ (by first | exact Nat.le_refl _ | (simp; done) | (simp; omega)) _))⟩
  · rw [if_neg hf0]
    by_cases hf1 : f < 0
    · rw [if_pos hf1]
      obtain ⟨hq2, hq1⟩ := ediv_bd l (-f) hl (by omega)
      have HFl := Lib.hid (fun w => (floor_any l (-f) w (by omega) (by omega) (by omega) (by omega)).mono fun _ _ h => (⟨h.1, h.2.symm⟩ : _ ∧ _ = w))
      generalize l / -f = q at *
      have k1 : IntKind.i64.wrap (-f) = -f := IntWalk.i64_in _ (by omega)
      have k2 : IntKind.i64.wrap (-q) = -q := IntWalk.i64_in _ (by omega)
      go_enter Tryz.func104, Tryz.ntmps104
      go_wp2_with fail
      refine wp_region_still_tail 9 (by kernel_rfl) (by kernel_rfl) ?_
      simp only [List.take_succ_cons, List.take_zero, List.drop_succ_cons, List.drop_zero]
      generalize hWd : ({ (w.alloc (.cells #[.int .i64 lo, .int .i64 hi] 43)).alloc (.cells #[.int .i64 0, .int .i64 0] 43) with drawn := ((w.alloc (.cells #[.int .i64 lo, .int .i64 hi] 43)).alloc (.cells #[.int .i64 0, .int .i64 0] 43)).drawn + 1 } : World) = Wd
      have HW := Lib.hid hWd
      have g1 : Wd.cell? ⟨B1, 0, none⟩ = some (.int .i64 f) := by rw [← hWd]; show World.cell? ((w.alloc (.cells #[.int .i64 lo, .int .i64 hi] 43)).alloc (.cells #[.int .i64 0, .int .i64 0] 43)) _ = _; simp [go_sem, *]
      have g2 : Wd.cell? ⟨B2, 0, none⟩ = some (.int .i64 l) := by rw [← hWd]; show World.cell? ((w.alloc (.cells #[.int .i64 lo, .int .i64 hi] 43)).alloc (.cells #[.int .i64 0, .int .i64 0] 43)) _ = _; simp [go_sem, *]
      have g3 : Wd.cell? ⟨w.heap.size, 0, none⟩ = some (.int .i64 lo) := by rw [← hWd]; show World.cell? ((w.alloc (.cells #[.int .i64 lo, .int .i64 hi] 43)).alloc (.cells #[.int .i64 0, .int .i64 0] 43)) _ = _; simp [go_sem]
      have g4 : Wd.cell? ⟨w.heap.size, 1, none⟩ = some (.int .i64 hi) := by rw [← hWd]; show World.cell? ((w.alloc (.cells #[.int .i64 lo, .int .i64 hi] 43)).alloc (.cells #[.int .i64 0, .int .i64 0] 43)) _ = _; simp [go_sem]
      clear hWd
      repeat still_step
      still_call (HFl.out _)
      repeat still_step
      refine wpStill_nil ?_
      obtain rfl := HW.out
      clear g1 g2 g3 g4 HW
      change wpList _ _ _ _ _ (World.drew _)
      clear k1 k2
      go_wp2_with fail
      all_goals exact bodyPost_ret (v := .agg #[.int .i64 (max lo (-q)), .int .i64 hi]) (by simp [results, Tryz.results104, go_sem]; omega) rfl ⟨rfl, (by repeat (first | exact Below.refl _ _ | refine Below.drew ?_ | refine Below.alloc ?_ (by first | exact Nat.le_refl _ | (simp; done) | (simp; omega)) _))⟩
    · rw [if_neg hf1]
      by_cases hl0 : l < 0
      · rw [if_pos hl0]
        go_enter Tryz.func104, Tryz.ntmps104
        go_wp2_with fail
        exact bodyPost_ret (v := .agg #[.int .i64 lo, .int .i64 (lo - 1)]) (by simp [results, Tryz.results104, go_sem]) rfl ⟨rfl, ((Below.refl _ w).alloc (Nat.le_refl _) _).alloc (by simp) _⟩
      · rw [if_neg hl0]
        go_enter Tryz.func104, Tryz.ntmps104
        go_wp2_with fail
        exact bodyPost_ret (v := .agg #[.int .i64 lo, .int .i64 hi]) (by simp [results, Tryz.results104, go_sem]) rfl ⟨rfl, ((Below.refl _ w).alloc (Nat.le_refl _) _).alloc (by simp) _⟩

/-- What found returns. -/
def foundV (p q : Int × Int) (wr : Int) : Int := if max (q.1 - p.1) (p.2 - q.2) ≤ 0 then 1001 else 1000 * (p.2 - p.1 + 2 * wr) / max (q.1 - p.1) (p.2 - q.2) + 1
set_option maxHeartbeats 400000 in
theorem found_any (p q : Int × Int) (wr : Int) (w : World) (h1 : 0 ≤ p.1 ∧ p.1 ≤ p.2 ∧ p.2 ≤ 100000) (h2 : 0 ≤ q.1 ∧ q.1 ≤ 100000 ∧ 0 ≤ q.2 ∧ q.2 ≤ 100000) (h3 : 0 ≤ wr ∧ wr ≤ 10000) :
    Calls Tryz.prog 62 #[.agg #[.int .i64 p.1, .int .i64 p.2], .agg #[.int .i64 q.1, .int .i64 q.2], .int .i64 wr] w fun e w' => e = .returned (.int .i64 (foundV p q wr)) ∧ Below w.heap.size w w' := by
  obtain ⟨a, b⟩ := p
  obtain ⟨c, d⟩ := q
  have hb0 : ∀ o o', Below w.heap.size w ((w.alloc o).alloc o') := fun o o' => ((Below.refl _ w).alloc (Nat.le_refl _) _).alloc (by simp) _
  unfold foundV
  dsimp only at *
  obtain ⟨p1, p2, p3⟩ := h1
  obtain ⟨q1, q2, q3, q4⟩ := h2
  obtain ⟨r1, r2⟩ := h3
  by_cases hm : c - a < b - d
  · rw [Int.max_eq_right (by omega)]
    by_cases h0 : b - d ≤ 0
    · rw [if_pos h0]
      go_enter Tryz.func62, Tryz.ntmps62
      go_wp2
      go_ret
      exact ⟨rfl, hb0 _ _⟩
    · rw [if_neg h0]
      have hq := Int.ediv_nonneg (a := 1000 * (b - a + 2 * wr)) (b := b - d) (by omega) (by omega)
      have hq' := Int.ediv_le_self (a := 1000 * (b - a + 2 * wr)) (b - d) (by omega)
      go_enter Tryz.func62, Tryz.ntmps62
      go_wp2
      go_ret
      exact ⟨rfl, hb0 _ _⟩
  · rw [Int.max_eq_left (by omega)]
    by_cases h0 : c - a ≤ 0
    · rw [if_pos h0]
      go_enter Tryz.func62, Tryz.ntmps62
      go_wp2
      go_ret
      exact ⟨rfl, hb0 _ _⟩
    · rw [if_neg h0]
      have hq := Int.ediv_nonneg (a := 1000 * (b - a + 2 * wr)) (b := c - a) (by omega) (by omega)
      have hq' := Int.ediv_le_self (a := 1000 * (b - a + 2 * wr)) (c - a) (by omega)
      go_enter Tryz.func62, Tryz.ntmps62
      go_wp2
      go_ret
      exact ⟨by simp, hb0 _ _⟩

set_option maxHeartbeats 400000 in
theorem knows_any (v0 v3 : Value) (ka : Option Addr) (nk kc : Nat) (pu k : Int) (w : World) (hn : nk ≤ 9223372036854775807) :
    Calls Tryz.prog 39 #[.agg #[v0, .slice ka nk kc, .int .i64 pu, v3], .int .i64 k] w fun e w' => e = .returned (.bool (decide (0 ≤ k ∧ k ≤ nk - 1))) ∧ Below w.heap.size w w' := by
  go_enter Tryz.func39, Tryz.ntmps39
  go_wp2_with fail
  refine (within_any _ _ _ _).mono ?_
  rintro e w1 ⟨rfl, rfl⟩
  go_wp2_with fail
  go_ret
  exact ⟨ret_bool (by simp), (Below.refl _ w).alloc (Nat.le_refl _) _⟩

theorem knows_t (v0 v3 : Value) (ka : Option Addr) (nk kc : Nat) (pu k : Int) (w : World) (hn : nk ≤ 9223372036854775807) (h : 0 ≤ k ∧ k ≤ nk - 1) :
    Calls Tryz.prog 39 #[.agg #[v0, .slice ka nk kc, .int .i64 pu, v3], .int .i64 k] w fun e w' => e = .returned (.bool true) ∧ Below w.heap.size w w' := by
  have := knows_any v0 v3 ka nk kc pu k w hn
  rwa [decide_eq_true h] at this
theorem knows_f (v0 v3 : Value) (ka : Option Addr) (nk kc : Nat) (pu k : Int) (w : World) (hn : nk ≤ 9223372036854775807) (h : ¬ (0 ≤ k ∧ k ≤ nk - 1)) :
    Calls Tryz.prog 39 #[.agg #[v0, .slice ka nk kc, .int .i64 pu, v3], .int .i64 k] w fun e w' => e = .returned (.bool false) ∧ Below w.heap.size w w' := by
  have := knows_any v0 v3 ka nk kc pu k w hn
  rwa [decide_eq_false h] at this

/-- The error of two kinds that have to be different ones. -/
def differV (nk : Nat) (a b : Int) : Int := if (0 ≤ a ∧ a ≤ nk - 1) ∧ 0 ≤ b ∧ b ≤ nk - 1 then (if a = b then 2 else 0) else 4

set_option maxHeartbeats 1000000 in
theorem differ_any (v0 v3 : Value) (ka : Option Addr) (nk kc : Nat) (pu a b : Int) (w : World) (hn : nk ≤ 9223372036854775807) :
    Calls Tryz.prog 57 #[.agg #[v0, .slice ka nk kc, .int .i64 pu, v3], .int .i64 a, .int .i64 b] w fun e w' => e = .returned (.int .i64 (differV nk a b)) ∧ Below w.heap.size w w' := by
  unfold differV
  have HT := Lib.hid (fun (k : Int) (w : World) => knows_t v0 v3 ka nk kc pu k w hn)
  have HF := Lib.hid (fun (k : Int) (w : World) => knows_f v0 v3 ka nk kc pu k w hn)
  by_cases h1 : 0 ≤ a ∧ a ≤ nk - 1
  · by_cases h2 : 0 ≤ b ∧ b ≤ nk - 1
    · rw [if_pos ⟨h1, h2⟩]
      by_cases h3 : a = b
      · subst h3
        rw [if_pos rfl]
        go_enter Tryz.func57, Tryz.ntmps57
        go_wp2_with fail
        refine (HT.out a _ h1).mono ?_
        rintro e w1 ⟨rfl, hb1⟩
        obtain ⟨x0, x1, x2, x3, hbw, hsz⟩ := box4 hb1
        clear hb1
        go_wp2_with fail
        refine (HT.out a _ h1).mono ?_
        rintro e w2 ⟨rfl, hb2⟩
        go_wp2_with fail
        go_ret
        exact ⟨rfl, hbw.trans (hb2.mono hbw.size)⟩
      · rw [if_neg h3]
        have h4 : (a == b) = false := by simp [h3]
        go_enter Tryz.func57, Tryz.ntmps57
        go_wp2_with fail
        refine (HT.out a _ h1).mono ?_
        rintro e w1 ⟨rfl, hb1⟩
        obtain ⟨x0, x1, x2, x3, hbw, hsz⟩ := box4 hb1
        clear hb1
        go_wp2_with fail
        refine (HT.out b _ h2).mono ?_
        rintro e w2 ⟨rfl, hb2⟩
        go_wp2_with fail
        go_ret
        exact ⟨rfl, hbw.trans (hb2.mono hbw.size)⟩
    · rw [if_neg (fun h => h2 h.2)]
      go_enter Tryz.func57, Tryz.ntmps57
      go_wp2_with fail
      refine (HT.out a _ h1).mono ?_
      rintro e w1 ⟨rfl, hb1⟩
      obtain ⟨x0, x1, x2, x3, hbw, hsz⟩ := box4 hb1
      clear hb1
      go_wp2_with fail
      refine (HF.out b _ h2).mono ?_
      rintro e w2 ⟨rfl, hb2⟩
      go_wp2_with fail
      go_ret
      exact ⟨rfl, hbw.trans (hb2.mono hbw.size)⟩
  · rw [if_neg (fun h => h1 h.1)]
    go_enter Tryz.func57, Tryz.ntmps57
    go_wp2_with fail
    refine (HF.out a _ h1).mono ?_
    rintro e w1 ⟨rfl, hb1⟩
    obtain ⟨x0, x1, x2, x3, hbw, hsz⟩ := box4 hb1
    clear hb1
    go_wp2_with fail
    go_ret
    exact ⟨rfl, hbw⟩

set_option maxHeartbeats 1000000 in
theorem checkReadings_any (A : Option Addr) (c : Nat) (l : List Int) (np : Int) (w : World) (hl : l.length ≤ 9223372036854775807) (hR : IntsAt w w.heap.size A l) :
    Calls Tryz.prog 63 #[.slice A l.length c, .int .i64 np] w fun e w' => e = .returned (.int .i64 (readsErr l np)) ∧ w = w' := by
  have HR := Lib.hid hR
  clear hR
  by_cases hn : (l.length : Int) = np
  · have hnb : ((l.length : Int) != np) = false := by simp [hn]
    have HE : Hid (readsErr l np = if l.any (fun n => decide (n ≠ -1 ∧ ¬ (0 ≤ n ∧ n ≤ 100000))) then 7 else 0) := by unfold readsErr; rw [if_neg (by simpa using hn)]; rfl
    generalize readsErr l np = R at *
    clear hn
    go_enter Tryz.func63, Tryz.ntmps63
    go_wp2_with fail
    go_loop [13] (fun i => ∃ k : Nat, k ≤ l.length ∧ i = .int .i64 k ∧ Hid (∀ i y, i < k → l[i]? = some y → ¬ (y ≠ -1 ∧ ¬ (0 ≤ y ∧ y ≤ 100000)))) (fun i => l.length - (intOf i).toNat)
    case atStart => exact ⟨0, Nat.zero_le _, rfl, fun i y hi => absurd hi (by omega)⟩
    case round =>
      obtain ⟨k, hk, rfl, hno⟩ := hrel
      by_cases hlt : k < l.length
      · obtain ⟨x, hx⟩ : ∃ x, l[k]? = some x := ⟨l[k], List.getElem?_eq_getElem hlt⟩
        obtain ⟨b, o, rfl, hbB, hc1⟩ := ints_at HR.out hx
        have HX := Lib.hid hx
        clear hx
        have hstep : ¬ (x ≠ -1 ∧ ¬ (0 ≤ x ∧ x ≤ 100000)) → Hid (∀ i y, i < k + 1 → l[i]? = some y → ¬ (y ≠ -1 ∧ ¬ (0 ≤ y ∧ y ≤ 100000))) := fun h i y hi hy => by
          by_cases hik : i = k
          · subst hik; rw [HX.out] at hy; cases hy; exact h
          · exact hno.out i y (by omega) hy
        by_cases h1 : x = -1
        · subst h1
          have HS := hstep (by simp)
          clear hstep
          go_wp2_with fail
          go_round
          case rel => exact ⟨k + 1, by omega, by go_num, HS⟩
          case measure => simp [intOf]; omega
        · have h1' : (x != -1) = true := by simp [h1]
          by_cases h2 : 0 ≤ x ∧ x ≤ 100000
          · have HS := hstep (fun h => h.2 h2)
            clear hstep
            go_wp2_with fail
            refine (wt x 0 100000 _ h2).mono ?_
            rintro e w1 ⟨rfl, rfl⟩
            go_wp2_with fail
            go_round
            case rel => exact ⟨k + 1, by omega, by go_num, HS⟩
            case measure => simp [intOf]; omega
          · have hE := HE.out
            rw [if_pos (List.any_eq_true.2 ⟨x, List.mem_of_getElem? HX.out, by simpa using ⟨h1, by omega⟩⟩)] at hE
            clear hstep HE
            have HE := Lib.hid hE
            clear hE
            go_wp2_with fail
            refine (wf x 0 100000 _ h2).mono ?_
            rintro e w1 ⟨rfl, rfl⟩
            go_wp2_with fail
            go_ret
            exact ⟨ret_i64 HE.out.symm, rfl⟩
      · have hE := HE.out
        rw [if_neg (by
          intro h
          obtain ⟨y, hy, hp⟩ := List.any_eq_true.1 h
          obtain ⟨i, hi, e⟩ := List.getElem_of_mem hy
          exact hno.out i y (by omega) (by rw [List.getElem?_eq_getElem hi, e]) (of_decide_eq_true hp))] at hE
        clear HE
        have HE := Lib.hid hE
        clear hE
        go_wp2_with fail
        go_ret
        exact ⟨ret_i64 HE.out.symm, rfl⟩
  · have hnb : ((l.length : Int) != np) = true := by simp [hn]
    have HE : Hid (readsErr l np = 3) := by unfold readsErr; rw [if_pos hn]; rfl
    generalize readsErr l np = R at *
    go_enter Tryz.func63, Tryz.ntmps63
    go_wp2_with fail
    go_ret
    exact ⟨ret_i64 HE.out.symm, rfl⟩
end Go.Proofs.YthihpggjglghoaaGreatDoor
