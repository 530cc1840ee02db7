/- WaxTexts: the contract of the law's walk: for every table and string that stand in memory, the call returns true, and nothing below changes. Conditions: the base of the memory. -/
import Derived.Test.YthihpggjglghoaaGreatDoorFj
import Derived.Test.YthihpggjglghoaaGreatDoorAw
namespace Go.Proofs.YthihpggjglghoaaGreatDoor
open Go.ChangeShapes Go.WideShapes Go.ChangeAt Go.RowKit

set_option maxRecDepth 100000 in
set_option maxHeartbeats 4000000 in
theorem wtexts_any {w : World} (hB : Base w) {s : ByteArray} (hs : s.size ≤ 9223372036854775807) {pa ka : Option Addr} {pc kc : Nat} {t : Tab} (h : TabIn w pa ka pc kc t) :
    Calls Tryz.prog 3 #[.agg #[.slice pa t.ps.length pc, .slice ka t.ks.length kc, .int .i64 t.pu], .string s] w fun e w' => e = .returned (.bool true) ∧ Below w.heap.size w w' := by
  have hA := (Below.refl _ w).alloc (Nat.le_refl _) (.cells #[.slice pa t.ps.length pc, .slice ka t.ks.length kc, .int .i64 t.pu] 25)
  have HB := Lib.hid hB
  have HT := Lib.hid (h.on hA)
  have HA := Lib.hid hA
  have H1 := Lib.hid (write_any (h.on hA) (hB.on hA))
  have X0 := Lib.hid (Blk.new w 25 #[.slice pa t.ps.length pc, .slice ka t.ks.length kc, .int .i64 t.pu])
  clear h hB hA
  go_enter Tryz.func3, Tryz.ntmps3
  go_wp2_with fail
  refine H1.out.mono ?_
  rintro e w1 ⟨rfl, hb⟩
  have X1 := Lib.hid (X0.out.on hb)
  have H2 := Lib.hid (rwrite_any (HT.out.on hb))
  have HW1 := Lib.hid (HA.out.trans (hb.mono (by simp)))
  obtain ⟨x0, x1, x2, _, _, _, _⟩ := X1.out.three
  clear hb X0 HT HA H1 X1
  generalize writeV t = wt at *
  obtain ⟨tx, en⟩ := wt
  go_wp2_with fail
  refine H2.out.mono ?_
  rintro e w2 ⟨rfl, hb⟩
  have HWW := Lib.hid (HW1.out.trans (hb.mono HW1.out.size))
  have hq : (tx.toList == tx.toList) = true := by simp
  have hq2 : (en == en) = true := by simp
  have H3 := Lib.hid (fun (W : World) (hW : Below w.heap.size w W) => read_any (HB.out.on hW) s hs)
  have H4 := Lib.hid (fun (W : World) => show Calls Tryz.prog 8 #[.string s] W (ReadOut W (readV s)) by rw [← readR_eq]; exact rread_any s hs)
  clear hb H2 HW1 x0 x1 x2
  go_wp2_with fail
  have h3 := H3.out _ HWW.out
  clear H3
  cases hR : readV s with
  | mk R n =>
    rw [hR] at h3 H4
    have hn2 : (n == n) = true := by simp
    cases R with
    | none =>
      have H3 := Lib.hid h3
      clear h3 hR
      refine H3.out.mono ?_
      rintro e w5 ⟨rfl, hb⟩
      have HW5 := Lib.hid (HWW.out.trans (hb.mono HWW.out.size))
      have hA5 := (Below.refl _ w5).alloc (Nat.le_refl _) (.cells #[.slice none 0 0, .slice none 0 0, .int .i64 0] 25)
      have X5 := Lib.hid (Blk.new w5 25 #[.slice none 0 0, .slice none 0 0, .int .i64 0])
      have HA5 := Lib.hid hA5
      clear hb hA5 H3 HWW
      go_wp2_with fail
      refine (H4.out _).mono ?_
      rintro e w6 ⟨rfl, hb⟩
      have HA6 := Lib.hid (HA5.out.trans (hb.mono (by simp)))
      have hA7 := (Below.refl _ w6).alloc (Nat.le_refl _) (.cells #[.slice none 0 0, .slice none 0 0, .int .i64 0] 25)
      have HW7 := Lib.hid ((HW5.out.trans (HA6.out.mono HW5.out.size)).trans (hA7.mono (HW5.out.trans (HA6.out.mono HW5.out.size)).size))
      obtain ⟨y0, y1, y2, _, _, _, _⟩ := ((X5.out.on hb).on hA7).three
      obtain ⟨u0, u1, u2, _, _, _, _⟩ := (Blk.new w6 25 #[.slice none 0 0, .slice none 0 0, .int .i64 0]).three
      clear hb HA5 HA6 HW5 hA7 X5 H4
      go_wp2_with fail
      refine (tabs_nil' _).mono ?_
      rintro e w8 ⟨rfl, hb⟩
      have HW8 := Lib.hid (HW7.out.trans (hb.mono HW7.out.size))
      have H8 := Lib.hid (awake_any (HB.out.on HW8.out))
      clear hb HW7
      go_wp2_with fail
      refine H8.out.mono ?_
      rintro e w9 ⟨rfl, hb⟩
      go_wp2_with fail
      go_ret
      exact ⟨rfl, HW8.out.trans (hb.mono HW8.out.size)⟩
    | some x =>
      obtain ⟨l, pu, kl⟩ := x
      have H3 := Lib.hid h3
      clear h3 hR
      refine H3.out.mono ?_
      rintro e w5 ⟨pa3, pc3, ka3, kc3, ks3, rfl, hT3, hks3, hb⟩
      have HW5 := Lib.hid (HWW.out.trans (hb.mono HWW.out.size))
      have hA5 := (Below.refl _ w5).alloc (Nat.le_refl _) (.cells #[.slice pa3 l.length pc3, .slice ka3 ks3.length kc3, .int .i64 pu] 25)
      have X5 := Lib.hid (Blk.new w5 25 #[.slice pa3 l.length pc3, .slice ka3 ks3.length kc3, .int .i64 pu])
      have HA5 := Lib.hid hA5
      have HT3 := Lib.hid (hT3.on hA5)
      have HKS := Lib.hid hks3
      clear hb hA5 H3 HWW hT3 hks3
      go_wp2_with fail
      refine (H4.out _).mono ?_
      rintro e w6 ⟨pa4, pc4, ka4, kc4, ks4, rfl, hT4, hks4, hb⟩
      have HA6 := Lib.hid (HA5.out.trans (hb.mono (by simp)))
      have hA7 := (Below.refl _ w6).alloc (Nat.le_refl _) (.cells #[.slice pa4 l.length pc4, .slice ka4 ks4.length kc4, .int .i64 pu] 25)
      have HW7 := Lib.hid ((HW5.out.trans (HA6.out.mono HW5.out.size)).trans (hA7.mono (HW5.out.trans (HA6.out.mono HW5.out.size)).size))
      obtain ⟨y0, y1, y2, _, _, _, _⟩ := ((X5.out.on hb).on hA7).three
      obtain ⟨u0, u1, u2, _, _, _, _⟩ := (Blk.new w6 25 #[.slice pa4 l.length pc4, .slice ka4 ks4.length kc4, .int .i64 pu]).three
      have h5 := tables_any ((HT3.out.on hb).on hA7) (hT4.on hA7)
      rw [show decide (tabEq ⟨l, ks3, pu⟩ ⟨l, ks4, pu⟩) = true from decide_eq_true ⟨rfl, HKS.out.trans hks4.symm, rfl⟩] at h5
      have H5 := Lib.hid h5
      clear hb HA5 HA6 HW5 hA7 X5 H4 hT4 hks4 h5 HT3 HKS
      go_wp2_with fail
      refine H5.out.mono ?_
      rintro e w8 ⟨rfl, hb⟩
      have HW8 := Lib.hid (HW7.out.trans (hb.mono HW7.out.size))
      have H8 := Lib.hid (awake_any (HB.out.on HW8.out))
      clear hb HW7
      go_wp2_with fail
      refine H8.out.mono ?_
      rintro e w9 ⟨rfl, hb⟩
      go_wp2_with fail
      go_ret
      exact ⟨rfl, HW8.out.trans (hb.mono HW8.out.size)⟩
end Go.Proofs.YthihpggjglghoaaGreatDoor
