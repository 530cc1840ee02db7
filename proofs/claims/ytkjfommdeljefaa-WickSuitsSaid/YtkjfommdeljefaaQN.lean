/- sort.Search, wick.first: contracts. -/
import Derived.Test.YtkjfommdeljefaaGc
namespace Go.Proofs.Ytkjfommdeljefaa
open Go.RowKit Go.Shelf Go.Maps
attribute [local go_sem] Oper.semAt_some


theorem canF_runs {s : Sh} {k : Wk} {x : Wx} {c : Cd} (hs : 0 ≤ s.phi) {d e : Int} (h : d ≤ e) (hd : canF s 4 k x c d = false) : canF s 4 k x c e = false := by
  have h1 : s.phi * d ≤ s.phi * e := Int.mul_le_mul_of_nonneg_left h hs
  simp only [canF, isF, Bool.or_eq_false_iff] at hd ⊢
  simp at hd ⊢
  omega
theorem canF_tunnels {s : Sh} {k : Wk} {x : Wx} {c : Cd} (hs : 0 ≤ s.plo) {d e : Int} (h : d ≤ e) (hd : canF s 3 k x c d = true) : canF s 3 k x c e = true := by
  have h1 : s.plo * d ≤ s.plo * e := Int.mul_le_mul_of_nonneg_left h hs
  simp only [canF, isF, Bool.or_eq_true] at hd ⊢
  simp at hd ⊢
  omega
/-- Where a search stands: not so below i, so from j on. -/
structure SeaG (h : Nat → Bool) (i j : Nat) : Prop where
  le : i ≤ j
  top : j ≤ 2000
  low : ∀ m, m < i → h m = false
  high : ∀ m, j ≤ m → m < 2000 → h m = true
/-- The first number below 2000 for which something holds. -/
def splitAt (h : Nat → Bool) : Nat := ((List.range 2000).find? h).getD 2000
theorem splitAt_le (h : Nat → Bool) : splitAt h ≤ 2000 := by
  unfold splitAt
  cases e : (List.range 2000).find? h with
  | none => simp
  | some j => have := List.mem_of_find?_eq_some e; simp at this ⊢; omega
theorem SeaG.eq {h : Nat → Bool} {i : Nat} (s : SeaG h i i) : splitAt h = i := by
  unfold splitAt
  by_cases hi : i < 2000
  · have : (List.range 2000).find? h = some i := by
      rw [List.find?_range_eq_some]
      exact ⟨s.high i (Nat.le_refl _) hi, by simpa using hi, fun j hj => by simp [s.low j hj]⟩
    rw [this]; rfl
  · have : (List.range 2000).find? h = none := by
      rw [List.find?_eq_none]
      intro j hj
      have := s.low j (by simp at hj; omega)
      simp [this]
    rw [this]; have := s.top; simp; omega
theorem half_facts {i j : Nat} (h : i < j) (hj : j ≤ 2000) : i ≤ (i + j) / 2 ∧ (i + j) / 2 < j ∧ IntKind.i64.wrap ((i : Int) + j) = ((i + j : Nat) : Int) := by
  refine ⟨by omega, by omega, ?_⟩
  rw [IntWalk.i64_in _ (by omega)]; omega
theorem meas_up {i j h : Nat} (h1 : i ≤ h) (h2 : h < j) : (intOf (Value.int .i64 (j : Int))).toNat - (intOf (Value.int .i64 ((h + 1 : Nat) : Int))).toNat < (intOf (Value.int .i64 (j : Int))).toNat - (intOf (Value.int .i64 (i : Int))).toNat := by
  simp only [intOf, Int.toNat_natCast]; omega
theorem meas_down {i j h : Nat} (h1 : i ≤ h) (h2 : h < j) : (intOf (Value.int .i64 (h : Int))).toNat - (intOf (Value.int .i64 (i : Int))).toNat < (intOf (Value.int .i64 (j : Int))).toNat - (intOf (Value.int .i64 (i : Int))).toNat := by
  simp only [intOf, Int.toNat_natCast]; omega
set_option maxRecDepth 100000 in
set_option maxHeartbeats 1000000 in
theorem search_any {w : World} {B1 : Nat} {h : Nat → Bool} (hmono : ∀ i j, i ≤ j → h i = true → h j = true)
    (hc : ∀ W, Below w.heap.size w W → ∀ n : Nat, n < 2000 → Calls Try.prog 107 #[.int .i64 (n : Int), .pointer (some ⟨B1, 0, none⟩)] W fun e w' => e = .returned (.bool (h n)) ∧ Below W.heap.size W w') :
    Calls Try.prog 106 #[.int .i64 2000, .func (.func 107) #[] #[.pointer (some ⟨B1, 0, none⟩)]] w fun e w' => e = .returned (.int .i64 (splitAt h)) ∧ Below w.heap.size w w' := by
  have HH := Lib.hid hc
  have HM := Lib.hid hmono
  have eg : ∀ args w, (callFunc 107 args).run Try.prog w = .ok (.enter 107 args) w := enters_of Try.func107 (by kernel_rfl) rfl
  clear hc hmono
  go_enter Try.func106, Try.ntmps106
  go_wp2_with fail
  go_loopw [5, 6] (fun x y W => ∃ i j : Nat, x = .int .i64 i ∧ y = .int .i64 j ∧ Hid (SeaG h i j) ∧ Hid (Below w.heap.size w W)) (fun x y _ => (intOf y).toNat - (intOf x).toNat)
  case atStart => exact ⟨0, 2000, rfl, rfl, ⟨by omega, by omega, fun m hm => absurd hm (by omega), fun m h1 h2 => absurd h2 (by omega)⟩, Below.refl _ _⟩
  case round =>
    obtain ⟨i, j, rfl, rfl, HS, HB⟩ := hrel
    have hij := HS.out.le
    have hj := HS.out.top
    by_cases hlt : i < j
    · obtain ⟨k1, k2, k3⟩ := half_facts hlt hj
      have k4 : ((i : Int) + j) = ((i + j : Nat) : Int) := by omega
      have HC := Lib.hid (HH.out wr HB.out ((i + j) / 2) (by omega))
      generalize hs : i + j = s at *
      have hs2 : (s : Int) ≤ 4000 := by omega
      have hil : (i : Int) < (j : Int) := by omega
      have HE2 := Lib.hid (show (s : Int) / 2 = ((s / 2 : Nat) : Int) by omega)
      rw [← HE2.out] at HC
      have HK := Lib.hid (And.intro k1 k2)
      have hw1 : IntKind.i64.wrap ((s : Int) / 2 + 1) = (s : Int) / 2 + 1 := IntWalk.i64_in _ (by omega)
      clear k1 k2
      cases hsh : h (s / 2) with
      | false =>
        rw [hsh] at HC
        have HS2 : Hid (SeaG h (s / 2 + 1) j) := ⟨HK.out.2, HS.out.top, fun m hm => by
          cases hb : h m with
          | false => rfl
          | true => exact absurd (HM.out m (s / 2) (by omega) hb) (by rw [hsh]; decide), HS.out.high⟩
        clear hsh
        go_wp2_with (first | (refine HC.out.mono ?_; rintro e w1 ⟨rfl, hb1⟩; have HB1 := Lib.hid (HB.out.trans (hb1.mono HB.out.size)); clear hb1) | fail)
        go_roundw
        case rel => exact ⟨s / 2 + 1, j, by rw [HE2.out]; go_num, rfl, HS2, HB1⟩
        case measure => rw [HE2.out]; exact meas_up HK.out.1 HK.out.2
      | true =>
        rw [hsh] at HC
        have HS2 : Hid (SeaG h i (s / 2)) := ⟨HK.out.1, by have := HK.out.2; have := HS.out.top; omega, HS.out.low, fun m h1 _ => HM.out (s / 2) m h1 hsh⟩
        clear hsh
        go_wp2_with (first | (refine HC.out.mono ?_; rintro e w1 ⟨rfl, hb1⟩; have HB1 := Lib.hid (HB.out.trans (hb1.mono HB.out.size)); clear hb1) | fail)
        go_roundw
        case rel => exact ⟨i, s / 2, rfl, by rw [HE2.out], HS2, HB1⟩
        case measure => rw [HE2.out]; exact meas_down HK.out.1 HK.out.2
    · obtain rfl : i = j := by omega
      have HL := Lib.hid (HS.out.eq)
      have hl0 : ¬ ((i : Int) < (i : Int)) := by omega
      go_wp2_with fail
      go_ret
      exact ⟨ret_i64 (by rw [HL.out]), HB.out⟩
set_option maxRecDepth 100000 in
theorem first_any {w : World} {F V I : Nat} {g : Int → Bool} (eg : ∀ args w, (callFunc F args).run Try.prog w = .ok (.enter F args) w) (hmono : ∀ i j : Int, i ≤ j → g i = true → g j = true)
    (hc : ∀ W, Below w.heap.size w W → ∀ d : Int, 1 ≤ d ∧ d ≤ 2000 → Calls Try.prog F #[.int .i64 d, .pointer (some ⟨V, 0, none⟩), .pointer (some ⟨I, 0, none⟩)] W fun e w' => e = .returned (.bool (g d)) ∧ Below W.heap.size W w') :
    Calls Try.prog 91 #[.func (.func F) #[] #[.pointer (some ⟨V, 0, none⟩), .pointer (some ⟨I, 0, none⟩)]] w fun e w' => e = .returned (.int .i64 (1 + ((splitAt fun i : Nat => g ((i : Int) + 1)) : Int))) ∧ Below w.heap.size w w' := by
  have hb0 := (Bx.nil w).alloc #[.func (.func F) #[] #[.pointer (some ⟨V, 0, none⟩), .pointer (some ⟨I, 0, none⟩)]] 136
  have HB := Lib.hid hb0
  have HS := Lib.hid (search_any (w := w.alloc (.cells #[.func (.func F) #[] #[.pointer (some ⟨V, 0, none⟩), .pointer (some ⟨I, 0, none⟩)]] 136)) (B1 := w.heap.size) (h := fun i => g ((i : Int) + 1)) (fun i j hij => hmono _ _ (by omega)) (fun W hW n hn => by
    have hbl : Blk W w.heap.size 136 #[.func (.func F) #[] #[.pointer (some ⟨V, 0, none⟩), .pointer (some ⟨I, 0, none⟩)]] := (Blk.new w _ _).on hW
    have HC := Lib.hid (hc W (hb0.b.trans (hW.mono hb0.b.size)) ((n : Int) + 1) (by omega))
    have c0 := hbl.cell 0
    have hw1 : IntKind.i64.wrap ((n : Int) + 1) = (n : Int) + 1 := IntWalk.i64_in _ (by omega)
    clear hW hbl
    go_enter Try.func107, Try.ntmps107
    go_wp2_with (refine HC.out.mono ?_; rintro e w1 ⟨rfl, hb⟩; have HD := Lib.hid hb; clear hb)
    go_ret
    exact ⟨rfl, HD.out⟩))
  have hle := splitAt_le (fun i : Nat => g ((i : Int) + 1))
  clear hc hmono hb0
  generalize splitAt (fun i : Nat => g ((i : Int) + 1)) = n at *
  have hw1 : IntKind.i64.wrap (1 + (n : Int)) = 1 + (n : Int) := IntWalk.i64_in _ (by omega)
  go_enter Try.func91, Try.ntmps91
  go_wp2_with (refine HS.out.mono ?_; rintro e w1 ⟨rfl, hb⟩; have HD := Lib.hid (HB.out.on hb); clear hb)
  go_ret
  exact ⟨rfl, HD.out.b⟩
end Go.Proofs.Ytkjfommdeljefaa
