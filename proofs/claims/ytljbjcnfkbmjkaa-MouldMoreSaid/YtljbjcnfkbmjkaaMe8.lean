/- sort.Search with mould.closed's closure; mould.latest: contracts. -/
import Derived.Test.YtljbjcnfkbmjkaaMdG
import Derived.Test.YtljbjcnfkbmjkaaGa
namespace Go.Proofs.Ytljbjcnfkbmjkaa
open Go.RowKit Go.Shelf Go.Maps
attribute [local go_sem] Oper.semAt_some

theorem half_facts {i j : Nat} (h : i < j) (hj : j ≤ 601) : i ≤ (i + j) / 2 ∧ (i + j) / 2 < j ∧ IntKind.i64.wrap ((i : Int) + j) = ((i + j : Nat) : Int) := by
  refine ⟨by omega, by omega, ?_⟩
  rw [IntWalk.i64_in _ (by omega)]; omega
theorem meas_up {i j h : Nat} (h1 : i ≤ h) (h2 : h < j) : (intOf (Value.int .i64 (j : Int))).toNat - (intOf (Value.int .i64 ((h + 1 : Nat) : Int))).toNat < (intOf (Value.int .i64 (j : Int))).toNat - (intOf (Value.int .i64 (i : Int))).toNat := by
  simp only [intOf, Int.toNat_natCast]; omega
theorem meas_down {i j h : Nat} (h1 : i ≤ h) (h2 : h < j) : (intOf (Value.int .i64 (h : Int))).toNat - (intOf (Value.int .i64 (i : Int))).toNat < (intOf (Value.int .i64 (j : Int))).toNat - (intOf (Value.int .i64 (i : Int))).toNat := by
  simp only [intOf, Int.toNat_natCast]; omega
set_option maxRecDepth 100000 in
set_option maxHeartbeats 1000000 in
theorem search_any {w : World} {m : Md} {o : List Int} {b cc B1 B2 : Nat} (h1 : Blk w B1 106 #[.map (some b), .map (some cc)]) (h2 : Blk w B2 88 #[.int .i64 m.rings, .int .i64 m.give, .int .i64 m.plo, .int .i64 m.phi, .int .i64 m.wlo, .int .i64 m.whi, .int .i64 m.st, .int .i64 m.shrink, .int .i64 m.skin, .int .i64 m.fill, .int .i64 m.gap, .int .i64 m.deep]) (hm : MapAt w b o) (h8 : o.length ≤ 8) :
    Calls Try.prog 95 #[.int .i64 601, .func (.func 92) #[] #[.pointer (some ⟨B1, 0, none⟩), .pointer (some ⟨B2, 0, none⟩)]] w fun e w' => e = .returned (.int .i64 (lastAt m o 601 + 1)) ∧ Below w.heap.size w w' := by
  have H1 := Lib.hid h1
  have H2 := Lib.hid h2
  have HM := Lib.hid hm
  have eg : ∀ args w, (callFunc 92 args).run Try.prog w = .ok (.enter 92 args) w := enters_of Try.func92 (by kernel_rfl) rfl
  clear h1 h2 hm
  go_enter Try.func95, Try.ntmps95
  go_wp2_with fail
  go_loopw [5, 6] (fun x y W => ∃ i j : Nat, x = .int .i64 i ∧ y = .int .i64 j ∧ Hid (SeaAt m o 601 i j) ∧ Hid (Below w.heap.size w W)) (fun x y _ => (intOf y).toNat - (intOf x).toNat)
  case atStart => exact ⟨0, 601, rfl, rfl, SeaAt.start m o 601, Below.refl _ _⟩
  case round =>
    obtain ⟨i, j, rfl, rfl, HS, HB⟩ := hrel
    have hij := HS.out.1
    have hj := HS.out.2.1
    by_cases hlt : i < j
    · obtain ⟨k1, k2, k3⟩ := half_facts hlt hj
      have k4 : ((i : Int) + j) = ((i + j : Nat) : Int) := by omega
      generalize hs : i + j = s at *
      have hs2 : (s : Int) ≤ 1202 := by omega
      have HC := Lib.hid (closedF_any (n := (s : Int) / 2) (H1.out.on HB.out) (H2.out.on HB.out) (HM.out.on HB.out) h8)
      have hil : (i : Int) < (j : Int) := by omega
      have HE2 := Lib.hid (show (s : Int) / 2 = ((s / 2 : Nat) : Int) by omega)
      have HK := Lib.hid (And.intro k1 k2)
      have hw1 : IntKind.i64.wrap ((s : Int) / 2 + 1) = (s : Int) / 2 + 1 := IntWalk.i64_in _ (by omega)
      clear k1 k2
      cases hsh : shut m o ((s : Int) / 2) with
      | false =>
        rw [hsh] at HC
        have HS2 : Hid (SeaAt m o 601 (s / 2 + 1) j) := HS.out.up HK.out.2 (by rw [← HE2.out]; exact hsh)
        clear hsh
        go_wp2_with (first | (refine HC.out.mono ?_; rintro e w1 ⟨rfl, hb1⟩; have HB1 := Lib.hid (HB.out.trans (hb1.mono HB.out.size)); clear hb1) | fail)
        go_roundw
        case rel => exact ⟨s / 2 + 1, j, by rw [HE2.out]; go_num, rfl, HS2, HB1⟩
        case measure => rw [HE2.out]; exact meas_up HK.out.1 HK.out.2
      | true =>
        rw [hsh] at HC
        have HS2 : Hid (SeaAt m o 601 i (s / 2)) := HS.out.down HK.out.1 HK.out.2 (by rw [← HE2.out]; exact hsh)
        clear hsh
        go_wp2_with (first | (refine HC.out.mono ?_; rintro e w1 ⟨rfl, hb1⟩; have HB1 := Lib.hid (HB.out.trans (hb1.mono HB.out.size)); clear hb1) | fail)
        go_roundw
        case rel => exact ⟨i, s / 2, rfl, by rw [HE2.out], HS2, HB1⟩
        case measure => rw [HE2.out]; exact meas_down HK.out.1 HK.out.2
    · obtain rfl : i = j := by omega
      have HL := Lib.hid (HS.out.last)
      have hl0 : ¬ ((i : Int) < (i : Int)) := by omega
      go_wp2_with fail
      go_ret
      exact ⟨ret_i64 (by rw [HL.out]; omega), HB.out⟩
theorem lastAt_b (m : Md) (o : List Int) {L : Int} (hL : lastAt m o 601 = L) : -1 ≤ L ∧ L < 601 := by
  have h := lastAt_bounds m o 601
  rw [hL] at h
  exact h
theorem closed_any2 {m : Md} {b c : Nat} (w : World) :
    Calls Try.prog 75 #[.agg #[.int .i64 m.rings, .int .i64 m.give, .int .i64 m.plo, .int .i64 m.phi, .int .i64 m.wlo, .int .i64 m.whi, .int .i64 m.st, .int .i64 m.shrink, .int .i64 m.skin, .int .i64 m.fill, .int .i64 m.gap, .int .i64 m.deep], .agg #[.map (some b), .map (some c)]] w fun e w' => ∃ V, e = .returned (.func (.func 92) #[] #[.pointer (some ⟨V + 1, 0, none⟩), .pointer (some ⟨V, 0, none⟩)]) ∧ Below w.heap.size w w' ∧ Blk w' V 88 #[.int .i64 m.rings, .int .i64 m.give, .int .i64 m.plo, .int .i64 m.phi, .int .i64 m.wlo, .int .i64 m.whi, .int .i64 m.st, .int .i64 m.shrink, .int .i64 m.skin, .int .i64 m.fill, .int .i64 m.gap, .int .i64 m.deep] ∧ Blk w' (V + 1) 106 #[.map (some b), .map (some c)] :=
  (closed_any (m := m) (b := b) (c := c) w).mono fun _ _ h => ⟨_, h.1, h.2⟩
theorem search_any2 {w : World} {m : Md} {o : List Int} {L : Int} (hL : lastAt m o 601 = L) {b cc B1 B2 : Nat} (h1 : Blk w B1 106 #[.map (some b), .map (some cc)]) (h2 : Blk w B2 88 #[.int .i64 m.rings, .int .i64 m.give, .int .i64 m.plo, .int .i64 m.phi, .int .i64 m.wlo, .int .i64 m.whi, .int .i64 m.st, .int .i64 m.shrink, .int .i64 m.skin, .int .i64 m.fill, .int .i64 m.gap, .int .i64 m.deep]) (hm : MapAt w b o) (h8 : o.length ≤ 8) :
    Calls Try.prog 95 #[.int .i64 601, .func (.func 92) #[] #[.pointer (some ⟨B1, 0, none⟩), .pointer (some ⟨B2, 0, none⟩)]] w fun e w' => e = .returned (.int .i64 (L + 1)) ∧ Below w.heap.size w w' := by
  rw [← hL]
  exact search_any h1 h2 hm h8
set_option maxRecDepth 100000 in
theorem latest_any {w : World} {m : Md} {o : List Int} {L : Int} (hL : lastAt m o 601 = L) {b cc : Nat} (hm : MapAt w b o) (h8 : o.length ≤ 8) :
    Calls Try.prog 80 #[.agg #[.int .i64 m.rings, .int .i64 m.give, .int .i64 m.plo, .int .i64 m.phi, .int .i64 m.wlo, .int .i64 m.whi, .int .i64 m.st, .int .i64 m.shrink, .int .i64 m.skin, .int .i64 m.fill, .int .i64 m.gap, .int .i64 m.deep], .agg #[.map (some b), .map (some cc)]] w fun e w' => e = .returned (.int .i64 L) ∧ Below w.heap.size w w' := by
  have HM := Lib.hid hm
  have hb0 : Below w.heap.size w ((w.alloc (.cells #[.int .i64 m.rings, .int .i64 m.give, .int .i64 m.plo, .int .i64 m.phi, .int .i64 m.wlo, .int .i64 m.whi, .int .i64 m.st, .int .i64 m.shrink, .int .i64 m.skin, .int .i64 m.fill, .int .i64 m.gap, .int .i64 m.deep] 88)).alloc (.cells #[.map (some b), .map (some cc)] 106)) := ((Below.refl _ w).alloc (Nat.le_refl _) _).alloc (by simp) _
  have HB := Lib.hid hb0
  have hla := lastAt_b m o hL
  have HS := Lib.hid (fun (W : World) (B1 B2 : Nat) => search_any2 (w := W) (cc := cc) (b := b) (B1 := B1) (B2 := B2) hL)
  have hw1 : IntKind.i64.wrap (L + 1 - 1) = L := by rw [IntWalk.i64_in _ (by omega)]; omega
  clear hm hb0 hL
  go_enter Try.func80, Try.ntmps80
  go_wp2_with (first
    | (go_at_call 75; refine (closed_any2 (m := m) (b := b) (c := cc) _).mono ?_; rintro e w1 ⟨V, rfl, hb1, hk1, hk2⟩; have HB1 := Lib.hid (HB.out.trans (hb1.mono HB.out.size)); have HK := Lib.hid (HS.out _ _ _ hk2 hk1 (HM.out.on HB1.out) h8); clear hb1 hk1 hk2)
    | (go_at_call 95; refine HK.out.mono ?_; rintro e w2 ⟨rfl, hb2⟩; have HB2 := Lib.hid (HB1.out.trans (hb2.mono HB1.out.size)); clear hb2)
    | fail)
  go_ret
  exact ⟨rfl, HB2.out⟩
end Go.Proofs.Ytljbjcnfkbmjkaa
