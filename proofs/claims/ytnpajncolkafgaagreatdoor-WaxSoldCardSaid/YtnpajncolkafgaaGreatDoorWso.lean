/- The contract of law 5, the walk: for every table, readings and number that stand in memory, the call returns true, and nothing below changes. Conditions: the base of the memory. -/
import Derived.Test.YtnpajncolkafgaaGreatDoorFh
import Derived.Test.YtnpajncolkafgaaGreatDoorAw
import Derived.BigQuiet
namespace Go.Proofs.YtnpajncolkafgaaGreatDoor
open Go.ChangeShapes Go.WideShapes Go.ChangeAt Go.RowKit

/-- Two lists that calls made, equal. -/
theorem ints_eq {w : World} {A B : Option Addr} {c d : Nat} {l : List Int} (h1 : IntsIn w A l) (h2 : IntsIn w B l) : Calls Tryz.prog 27 #[.slice A l.length c, .slice B l.length d] w fun e w' => e = .returned (.bool true) ∧ Below w.heap.size w w' :=
  (ints_any (c := c) (d := d) h1 h2).mono fun e w' ⟨he, hb⟩ => ⟨by rw [he, decide_eq_true rfl], hb⟩
theorem span_yes (a b : Int) (w : World) : (binOp .eql 35 (.agg #[.int .i64 a, .int .i64 b]) (.agg #[.int .i64 a, .int .i64 b])).run Tryz.prog w = .ok (.bool true) w := span_same a b w

set_option maxRecDepth 100000 in
set_option maxHeartbeats 2000000 in
theorem wsold_any {w : World} (hB : Base w) {pa ka ra : Option Addr} {pc kc rc : Nat} {t : Tab} {l : List Int} (z : Int) (h : RdIn w pa ka ra pc kc t l) :
    Calls Tryz.prog 5 #[.agg #[.slice pa t.ps.length pc, .slice ka t.ks.length kc, .int .i64 t.pu], .slice ra l.length rc, .int .i64 z] w fun e w' => e = .returned (.bool true) ∧ Below w.heap.size w w' := by
  have hJ : AlJ w #[.slice pa t.ps.length pc, .slice ka t.ks.length kc, .int .i64 t.pu] (w.alloc (.cells #[.slice pa t.ps.length pc, .slice ka t.ks.length kc, .int .i64 t.pu] 25)) := ⟨Blk.new w _ _, (Below.refl _ w).alloc (Nat.le_refl _) _⟩
  have hp := h.tab.tab.lp
  have hk := h.tab.tab.lk
  have hl := h.rds.len
  have HJ := Lib.hid hJ
  have H1 := Lib.hid (setsT_any (rc := rc) (h.on hJ.b))
  have H2 := Lib.hid (fun (W : World) (hW : Below w.heap.size w W) => rsets_any (rc := rc) (h.on hW))
  have H3 := Lib.hid (fun (W : World) (hW : Below w.heap.size w W) => within2_any (rc := rc) (h.on hW))
  have H4 := Lib.hid (fun (W : World) (hW : Below w.heap.size w W) => rwithin_any (rc := rc) (h.on hW))
  have H5 := Lib.hid (fun (W : World) (hW : Below w.heap.size w W) => sold_any (rc := rc) (h.on hW) z)
  have H6 := Lib.hid (fun (W : World) (hW : Below w.heap.size w W) => rsold_any (rc := rc) (h.on hW) z)
  have H7 := Lib.hid (fun (W : World) (hW : Below w.heap.size w W) => awake_any (hB.on hW))
  clear h hJ hB
  generalize setsT t l = R at *
  generalize withinV t l = V at *
  generalize soldV t l z = Q at *
  obtain ⟨R1, R2⟩ := R
  obtain ⟨⟨V1, V2⟩, V3⟩ := V
  obtain ⟨⟨Q1, Q2⟩, Q3, Q4⟩ := Q
  dsimp only at *
  have g1 : (R2 != R2) = false := by simp
  have g2 : (V3 != V3) = false := by simp
  have g3 : (Q3 == Q3) = true := by simp
  have g4 : (Q4 == Q4) = true := by simp
  have hq := fun (w : World) => span_yes Q1 Q2 w
  go_enter Tryz.func5, Tryz.ntmps5
  go_wp2_with fail
  refine H1.out.mono ?_
  rintro e w1 ⟨v1, rfl, h1, hb1⟩
  obtain ⟨A1, c1, rfl, i1⟩ := h1.in_
  have HJ := Lib.hid (HJ.out.on hb1)
  obtain ⟨x0, x1, x2, -, -, -, -⟩ := HJ.out.tb.three
  clear h1 hb1 H1
  go_wp2_with fail
  refine (H2.out _ HJ.out.b).mono ?_
  rintro e w2 ⟨v2, rfl, h2, hb2⟩
  obtain ⟨A2, c2, rfl, i2⟩ := h2.in_
  have HI1 := Lib.hid (ints_eq (c := c1) (d := c2) (i1.on hb2) i2)
  have HJ := Lib.hid (HJ.out.on hb2)
  clear h2 hb2 H2 i1 i2
  go_wp2_with fail
  refine HI1.out.mono ?_
  rintro e w3 ⟨rfl, hb3⟩
  have HJ := Lib.hid (HJ.out.on hb3)
  obtain ⟨x0, x1, x2, -, -, -, -⟩ := HJ.out.tb.three
  clear hb3 HI1
  go_wp2_with fail
  refine (H3.out _ HJ.out.b).mono ?_
  rintro e w4 ⟨v3, v4, rfl, h3, h4, hb4⟩
  obtain ⟨A3, c3, rfl, i3⟩ := h3.in_
  obtain ⟨A4, c4, rfl, i4⟩ := h4.in_
  have HJ := Lib.hid (HJ.out.on hb4)
  obtain ⟨x0, x1, x2, -, -, -, -⟩ := HJ.out.tb.three
  clear h3 h4 hb4 H3
  go_wp2_with fail
  refine (H4.out _ HJ.out.b).mono ?_
  rintro e w5 ⟨v5, v6, rfl, h5, h6, hb5⟩
  obtain ⟨A5, c5, rfl, i5⟩ := h5.in_
  obtain ⟨A6, c6, rfl, i6⟩ := h6.in_
  have HI2 := Lib.hid (ints_eq (c := c3) (d := c5) (i3.on hb5) i5)
  have HI3 := Lib.hid (fun (W : World) (hW : Below w5.heap.size w5 W) => ints_eq (c := c4) (d := c6) ((i4.on hb5).on hW) (i6.on hW))
  have HJ := Lib.hid (HJ.out.on hb5)
  clear h5 h6 hb5 H4 i3 i4 i5 i6
  go_wp2_with fail
  refine HI2.out.mono ?_
  rintro e w6 ⟨rfl, hb6⟩
  have HI4 := Lib.hid (HI3.out _ hb6)
  have HJ := Lib.hid (HJ.out.on hb6)
  clear hb6 HI2 HI3
  go_wp2_with fail
  refine HI4.out.mono ?_
  rintro e w7 ⟨rfl, hb7⟩
  have HJ := Lib.hid (HJ.out.on hb7)
  obtain ⟨x0, x1, x2, -, -, -, -⟩ := HJ.out.tb.three
  clear hb7 HI4
  go_wp2_with fail
  refine (H5.out _ HJ.out.b).mono ?_
  rintro e w8 ⟨rfl, hb8⟩
  have hX := (HJ.out.on hb8).on ((Below.refl _ w8).alloc (Nat.le_refl _) (.cells #[.int .i64 Q1, .int .i64 Q2] 35))
  have S1 := Lib.hid (Blk.new w8 35 #[.int .i64 Q1, .int .i64 Q2])
  have HJ := Lib.hid hX
  obtain ⟨x0, x1, x2, -, -, -, -⟩ := HJ.out.tb.three
  clear hb8 H5 hX
  go_wp2_with fail
  refine (H6.out _ HJ.out.b).mono ?_
  rintro e w9 ⟨rfl, hb9⟩
  have S2 := S1.out.on hb9
  obtain ⟨s0, s1, -, -, sl⟩ := S2.two
  have HJ := Lib.hid ((HJ.out.on hb9).on ((Below.refl _ w9).alloc (Nat.le_refl _) (.cells #[.int .i64 Q1, .int .i64 Q2] 35)))
  have H8 := Lib.hid (H7.out _ HJ.out.b)
  clear hb9 H6 S1 S2 H7
  go_wp2_with fail
  refine H8.out.mono ?_
  rintro e w10 ⟨rfl, hb10⟩
  have HJ := Lib.hid (HJ.out.on hb10)
  clear hb10
  go_wp2_with fail
  go_ret
  exact ⟨rfl, HJ.out.b⟩
end Go.Proofs.YtnpajncolkafgaaGreatDoor
