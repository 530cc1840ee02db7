/- law's WaxKnown: contract. -/
import Derived.Test.YtnpajncolkafgaaGreatDoorAw
namespace Go.Proofs.YtnpajncolkafgaaGreatDoor
open Go.RowKit Go.Shelf

/-- What WaxKnown has at its end. -/
structure KnI (w : World) (b1 b2 b3 : Nat) (mA nA : Option Addr) (W : World) : Prop where
  B1 : Blk W b1 35 #[.int .i64 834, .int .i64 1000]
  B2 : Blk W b2 35 #[.int .i64 637, .int .i64 1000]
  B3 : Blk W b3 35 #[.int .i64 319, .int .i64 647]
  S1 : IntsIn W mA [0]
  S2 : IntsIn W nA [0, 1, 2]
  b : Below w.heap.size w W
section
variable {w W W' : World} {b1 b2 b3 : Nat} {mA nA : Option Addr}
theorem KnI.on (h : KnI w b1 b2 b3 mA nA W) (hb : Below W.heap.size W W') : KnI w b1 b2 b3 mA nA W' :=
  ⟨h.B1.on hb, h.B2.on hb, h.B3.on hb, h.S1.on hb, h.S2.on hb, h.b.trans (hb.mono h.b.size)⟩
theorem KnI.alloc (h : KnI w b1 b2 b3 mA nA W) (o : Obj) : KnI w b1 b2 b3 mA nA (W.alloc o) := h.on ((Below.refl _ W).alloc (Nat.le_refl _) _)
theorem KnI.drew (h : KnI w b1 b2 b3 mA nA W) : KnI w b1 b2 b3 mA nA W.drew := h.on (Below.refl _ W).drew
theorem KnI.held (h : KnI w b1 b2 b3 mA nA W) : W.cell? ⟨b1, 0, none⟩ = some (.int .i64 834) ∧ W.cell? ⟨b1, 1, none⟩ = some (.int .i64 1000) ∧ W.cell? ⟨b2, 0, none⟩ = some (.int .i64 637) ∧ W.cell? ⟨b2, 1, none⟩ = some (.int .i64 1000) ∧
    W.cell? ⟨b3, 0, none⟩ = some (.int .i64 319) ∧ W.cell? ⟨b3, 1, none⟩ = some (.int .i64 647) ∧ KnI w b1 b2 b3 mA nA W :=
  ⟨h.B1.cell 0, h.B1.cell 1, h.B2.cell 0, h.B2.cell 1, h.B3.cell 0, h.B3.cell 1, h⟩
theorem kn_intsA {sc g : Nat} {X : World} (hg : g = X.heap.size) (h : KnI w b1 b2 b3 mA nA (X.alloc (.cells #[.int .i64 0] 3))) :
    Calls Tryz.prog 27 #[.slice mA 1 sc, .slice (some ⟨g, 0, none⟩) 1 1] (X.alloc (.cells #[.int .i64 0] 3)) fun e w' => e = .returned (.bool true) ∧ Below (X.alloc (.cells #[.int .i64 0] 3)).heap.size (X.alloc (.cells #[.int .i64 0] 3)) w' := by
  subst hg
  exact aw_ints (l := [0]) h.S1
theorem kn_intsB {sc g : Nat} {X : World} (hg : g = X.heap.size) (h : KnI w b1 b2 b3 mA nA (X.alloc (.cells #[.int .i64 0, .int .i64 1, .int .i64 2] 3))) :
    Calls Tryz.prog 27 #[.slice nA 3 sc, .slice (some ⟨g, 0, none⟩) 3 3] (X.alloc (.cells #[.int .i64 0, .int .i64 1, .int .i64 2] 3)) fun e w' => e = .returned (.bool true) ∧ Below (X.alloc (.cells #[.int .i64 0, .int .i64 1, .int .i64 2] 3)).heap.size (X.alloc (.cells #[.int .i64 0, .int .i64 1, .int .i64 2] 3)) w' := by
  subst hg
  exact aw_ints (l := [0, 1, 2]) h.S2
end

theorem lspan_below (a b : Int) (w : World) : Calls Tryz.prog 38 #[.int .i64 a, .int .i64 b] w fun e w' => e = .returned (.agg #[.int .i64 a, .int .i64 b]) ∧ Below w.heap.size w w' :=
  (lspan_any a b w).mono fun e w' ⟨he, hw⟩ => ⟨he, by subst hw; exact (Below.refl _ w).alloc (Nat.le_refl _) _⟩

set_option maxRecDepth 100000 in
set_option maxHeartbeats 4000000 in
theorem known_any {w : World} (hB : Base w) : Calls Tryz.prog 7 #[] w fun e w' => e = .returned (.bool true) ∧ Below w.heap.size w w' := by
  have HB := Lib.hid hB
  clear hB
  go_enter Tryz.func7, Tryz.ntmps7
  go_wp2_with fail
  refine (table_any _).mono ?_
  rintro e w1 ⟨pa, ka, a0, a1, a2, rfl, hT, hb⟩
  have HW := Lib.hid hb
  have H := Lib.hid (aw_mixed3 hT)
  clear hT hb
  go_wp2_with fail
  refine H.out.mono ?_
  rintro e w2 ⟨rfl, hb⟩
  have HW := Lib.hid (HW.out.trans (hb.mono HW.out.size))
  clear H hb
  go_wp2_with fail
  refine (table_any _).mono ?_
  rintro e w3 ⟨pa, ka, a0, a1, a2, rfl, hT, hb⟩
  have B1 := Lib.hid ((Blk.new w2 35 #[.int .i64 834, .int .i64 1000]).on hb)
  have HW := Lib.hid (HW.out.trans ((below_new hb).mono HW.out.size))
  have H := Lib.hid (aw_sold2 hT)
  clear hT hb
  go_wp2_with fail
  refine H.out.mono ?_
  rintro e w4 ⟨rfl, hb⟩
  have B1 := Lib.hid (B1.out.on hb)
  have HW := Lib.hid (HW.out.trans (hb.mono HW.out.size))
  clear H hb
  go_wp2_with fail
  refine (table_any _).mono ?_
  rintro e w5 ⟨pa, ka, a0, a1, a2, rfl, hT, hb⟩
  have B2 := Lib.hid ((Blk.new w4 35 #[.int .i64 637, .int .i64 1000]).on hb)
  have B1 := Lib.hid (B1.out.on (below_new hb))
  have HW := Lib.hid (HW.out.trans ((below_new hb).mono HW.out.size))
  have H := Lib.hid (aw_sold3 hT)
  clear hT hb
  go_wp2_with fail
  refine H.out.mono ?_
  rintro e w6 ⟨rfl, hb⟩
  have B1 := Lib.hid (B1.out.on hb)
  have B2 := Lib.hid (B2.out.on hb)
  have HW := Lib.hid (HW.out.trans (hb.mono HW.out.size))
  clear H hb
  go_wp2_with fail
  refine (table_any _).mono ?_
  rintro e w7 ⟨pa, ka, a0, a1, a2, rfl, hT, hb⟩
  have B3 := Lib.hid ((Blk.new w6 35 #[.int .i64 319, .int .i64 647]).on hb)
  have B1 := Lib.hid (B1.out.on (below_new hb))
  have B2 := Lib.hid (B2.out.on (below_new hb))
  have HW := Lib.hid (HW.out.trans ((below_new hb).mono HW.out.size))
  have H := Lib.hid (aw_within2 hT)
  clear hT hb
  go_wp2_with fail
  refine H.out.mono ?_
  rintro e w8 ⟨mA, mc, nA, nc, rfl, hS, hS2, hb⟩
  have B1 := Lib.hid (B1.out.on hb)
  have B2 := Lib.hid (B2.out.on hb)
  have B3 := Lib.hid (B3.out.on hb)
  have S1 := Lib.hid hS
  have S2 := Lib.hid hS2
  have HW := Lib.hid (HW.out.trans (hb.mono HW.out.size))
  clear H hb hS hS2
  go_wp2_with fail
  refine (table_any _).mono ?_
  rintro e w9 ⟨pa, ka, a0, a1, a2, rfl, hT, hb⟩
  have B1 := Lib.hid (B1.out.on hb)
  have B2 := Lib.hid (B2.out.on hb)
  have B3 := Lib.hid (B3.out.on hb)
  have S1 := Lib.hid (S1.out.on hb)
  have S2 := Lib.hid (S2.out.on hb)
  have HW := Lib.hid (HW.out.trans (hb.mono HW.out.size))
  have H := Lib.hid (aw_detect2 hT)
  clear hT hb
  go_wp2_with fail
  refine H.out.mono ?_
  rintro e w10 ⟨rfl, hb⟩
  have hI : KnI w w2.heap.size w4.heap.size w6.heap.size mA nA w10.drew := KnI.drew ⟨B1.out.on hb, B2.out.on hb, B3.out.on hb, S1.out.on hb, S2.out.on hb, HW.out.trans (hb.mono HW.out.size)⟩
  have hg := @run_eqGuard_agg Tryz.prog
  have hgg := span_guard
  have hq1 := span_same 834 1000
  have hq2 := span_same 637 1000
  have hq3 := span_same 319 647
  clear H hb B1 B2 B3 S1 S2 HW
  go_wp2_with fail
  try simp only [List.append]
  go_region_held3 (fun w' => w'.cell? ⟨w2.heap.size, 0, none⟩ = some (.int .i64 834) ∧ w'.cell? ⟨w2.heap.size, 1, none⟩ = some (.int .i64 1000) ∧ w'.cell? ⟨w4.heap.size, 0, none⟩ = some (.int .i64 637) ∧ w'.cell? ⟨w4.heap.size, 1, none⟩ = some (.int .i64 1000) ∧
    w'.cell? ⟨w6.heap.size, 0, none⟩ = some (.int .i64 319) ∧ w'.cell? ⟨w6.heap.size, 1, none⟩ = some (.int .i64 647) ∧ KnI w w2.heap.size w4.heap.size w6.heap.size mA nA w')
    ((refine KnI.held ?_; first | assumption | (go_split_ands; assumption) | (go_split_ands; refine KnI.alloc ?_ _; assumption) | (go_split_ands; refine KnI.on ?_ hbN; assumption)))
    (first | (go_at_call 38; refine (lspan_below _ _ _).mono ?_; rintro e w' ⟨rfl, hbN⟩) | (go_at_call 27; go_split_ands; (with_reducible refine (kn_intsA (by simp) (by assumption)).mono ?_); rintro e w' ⟨rfl, hbN⟩) | (go_at_call 27; go_split_ands; (with_reducible refine (kn_intsB (by simp) (by assumption)).mono ?_); rintro e w' ⟨rfl, hbN⟩) | (go_at_call 20; go_split_ands; refine (awake_any (HB.out.on (KnI.b (by assumption)))).mono ?_; rintro e w' ⟨rfl, hbN⟩) | fail)
  go_wp2_with fail
  go_ret
  first
    | exact ⟨rfl, KnI.b (by assumption)⟩
    | (go_split_ands; exact ⟨rfl, KnI.b (by assumption)⟩)
    | exact ⟨rfl, KnI.b (KnI.on (by assumption) hbN)⟩
    | (go_split_ands; exact ⟨rfl, KnI.b (KnI.on (by assumption) hbN)⟩)
end Go.Proofs.YtnpajncolkafgaaGreatDoor
