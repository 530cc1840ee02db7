/- law's Awake: contract. -/
import Derived.Test.YthihpggjglghoaaGreatDoorAwl
namespace Go.Proofs.YthihpggjglghoaaGreatDoor
open Go.RowKit Go.Shelf

theorem ltext_any (w : World) : Calls Tryz.prog 33 #[] w fun e w' => e = .returned (.string textB) ∧ w' = w := by
  go_enter Tryz.func33, Tryz.ntmps33
  go_wp2
  go_ret
  exact ⟨rfl, rfl⟩

set_option maxRecDepth 100000 in
set_option maxHeartbeats 4000000 in
theorem awake_any {w : World} (hB : Base w) : Calls Tryz.prog 10 #[] w fun e w' => e = .returned (.bool true) ∧ Below w.heap.size w w' := by
  have HB := Lib.hid hB
  clear hB
  go_enter Tryz.func10, Tryz.ntmps10
  go_wp2_with fail
  refine (table_any _).mono ?_
  rintro e w1 ⟨pa, ka, a0, a1, a2, rfl, hT, hb⟩
  have HW := Lib.hid hb
  have H := Lib.hid (aw_mixed1 hT)
  clear hT hb
  go_wp2_with fail
  refine H.out.mono ?_
  rintro e w2 ⟨rfl, hb⟩
  have HW := Lib.hid (HW.out.trans (hb.mono HW.out.size))
  have hz1 := hb.size
  clear H hb
  go_wp2_with fail
  refine (table_any _).mono ?_
  rintro e w3 ⟨pa, ka, a0, a1, a2, rfl, hT, hb⟩
  have B1 := Lib.hid ((Blk.new w2 43 #[.int .i64 637, .int .i64 1000]).on hb)
  have HW := Lib.hid (HW.out.trans ((below_new hb).mono HW.out.size))
  have hz2 := (below_new hb).size
  have H := Lib.hid (aw_mixed2 hT)
  clear hT hb
  go_wp2_with fail
  refine H.out.mono ?_
  rintro e w4 ⟨rfl, hb⟩
  have B1 := Lib.hid (B1.out.on hb)
  have HW := Lib.hid (HW.out.trans (hb.mono HW.out.size))
  have hz3 := hb.size
  clear H hb
  go_wp2_with fail
  refine (table_any _).mono ?_
  rintro e w5 ⟨pa, ka, a0, a1, a2, rfl, hT, hb⟩
  have B1 := Lib.hid (B1.out.on (below_new hb))
  have HW := Lib.hid (HW.out.trans ((below_new hb).mono HW.out.size))
  have hz4 := (below_new hb).size
  have H := Lib.hid (aw_sets hT)
  clear hT hb
  go_wp2_with fail
  refine H.out.mono ?_
  rintro e w6 ⟨sA, sc, rfl, hS, hb⟩
  have B1 := Lib.hid (B1.out.on hb)
  have HW := Lib.hid (HW.out.trans (hb.mono HW.out.size))
  have hz5 := hb.size
  have S1 := Lib.hid hS
  clear H hb hS
  go_wp2_with fail
  refine (table_any _).mono ?_
  rintro e w7 ⟨pa, ka, a0, a1, a2, rfl, hT, hb⟩
  have B1 := Lib.hid (B1.out.on hb)
  have S1 := Lib.hid (S1.out.on hb)
  have HW := Lib.hid (HW.out.trans (hb.mono HW.out.size))
  have hz6 := hb.size
  have H := Lib.hid (aw_sold1 hT)
  clear hT hb
  go_wp2_with fail
  refine H.out.mono ?_
  rintro e w8 ⟨rfl, hb⟩
  have B1 := Lib.hid (B1.out.on hb)
  have S1 := Lib.hid (S1.out.on hb)
  have HW := Lib.hid (HW.out.trans (hb.mono HW.out.size))
  have hz7 := hb.size
  clear H hb
  go_wp2_with fail
  refine (table_any _).mono ?_
  rintro e w9 ⟨pa, ka, a0, a1, a2, rfl, hT, hb⟩
  have B2 := Lib.hid ((Blk.new w8 43 #[.int .i64 967, .int .i64 1000]).on hb)
  have B1 := Lib.hid (B1.out.on (below_new hb))
  have S1 := Lib.hid (S1.out.on (below_new hb))
  have HW := Lib.hid (HW.out.trans ((below_new hb).mono HW.out.size))
  have hz8 := (below_new hb).size
  have H := Lib.hid (aw_within1 hT)
  clear hT hb
  go_wp2_with fail
  refine H.out.mono ?_
  rintro e w10 ⟨mA, mc, nA, nc, rfl, hS, hS2, hb⟩
  have B1 := Lib.hid (B1.out.on hb)
  have B2 := Lib.hid (B2.out.on hb)
  have S1 := Lib.hid (S1.out.on hb)
  have S2 := Lib.hid hS
  have S3 := Lib.hid hS2
  have HW := Lib.hid (HW.out.trans (hb.mono HW.out.size))
  have hz9 := hb.size
  clear H hb hS hS2
  go_wp2_with fail
  refine (table_any _).mono ?_
  rintro e w11 ⟨pa, ka, a0, a1, a2, rfl, hT, hb⟩
  have B1 := Lib.hid (B1.out.on hb)
  have B2 := Lib.hid (B2.out.on hb)
  have S1 := Lib.hid (S1.out.on hb)
  have S2 := Lib.hid (S2.out.on hb)
  have S3 := Lib.hid (S3.out.on hb)
  have HW := Lib.hid (HW.out.trans (hb.mono HW.out.size))
  have hz10 := hb.size
  have H := Lib.hid (aw_detect1 hT)
  clear hT hb
  go_wp2_with fail
  refine H.out.mono ?_
  rintro e w12 ⟨rfl, hb⟩
  have B1 := Lib.hid (B1.out.on hb)
  have B2 := Lib.hid (B2.out.on hb)
  have S1 := Lib.hid (S1.out.on hb)
  have S2 := Lib.hid (S2.out.on hb)
  have S3 := Lib.hid (S3.out.on hb)
  have HW := Lib.hid (HW.out.trans (hb.mono HW.out.size))
  have hz11 := hb.size
  clear H hb
  go_wp2_with fail
  refine (table_any _).mono ?_
  rintro e w13 ⟨pa, ka, a0, a1, a2, rfl, hT, hb⟩
  have B1 := Lib.hid (B1.out.on hb)
  have B2 := Lib.hid (B2.out.on hb)
  have S1 := Lib.hid (S1.out.on hb)
  have S2 := Lib.hid (S2.out.on hb)
  have S3 := Lib.hid (S3.out.on hb)
  have HW := Lib.hid (HW.out.trans (hb.mono HW.out.size))
  have hz12 := hb.size
  have H := Lib.hid (aw_write hT (HB.out.on HW.out))
  clear hT hb
  go_wp2_with fail
  refine H.out.mono ?_
  rintro e w14 ⟨rfl, hb⟩
  have B1 := Lib.hid (B1.out.on hb)
  have B2 := Lib.hid (B2.out.on hb)
  have S1 := Lib.hid (S1.out.on hb)
  have S2 := Lib.hid (S2.out.on hb)
  have S3 := Lib.hid (S3.out.on hb)
  have HW := Lib.hid (HW.out.trans (hb.mono HW.out.size))
  have hz13 := hb.size
  have H := Lib.hid (aw_read (HB.out.on HW.out))
  clear hb
  go_wp2_with fail
  refine H.out.mono ?_
  rintro e w15 ⟨pa, pc, ka, kc, ks, rfl, hT, hK, hb⟩
  have B1 := Lib.hid (B1.out.on hb)
  have B2 := Lib.hid (B2.out.on hb)
  have S1 := Lib.hid (S1.out.on hb)
  have S2 := Lib.hid (S2.out.on hb)
  have S3 := Lib.hid (S3.out.on hb)
  have HW := Lib.hid (HW.out.trans (hb.mono HW.out.size))
  have hz14 := hb.size
  have hA := (Below.refl _ w15).alloc (Nat.le_refl _) (.cells #[.slice pa 2 pc, .slice ka 3 kc, .int .i64 950] 25)
  have hI : AwI w w2.heap.size w8.heap.size w15.heap.size sA mA nA pa ka pc kc ks (w15.alloc (.cells #[.slice pa 2 pc, .slice ka 3 kc, .int .i64 950] 25)).drew :=
    AwI.drew ⟨B1.out.on hA, B2.out.on hA, Blk.new w15 _ _, S1.out.on hA, S2.out.on hA, S3.out.on hA, hT.on hA, HW.out.trans (hA.mono HW.out.size)⟩
  have HK := Lib.hid hK
  have hg := @run_eqGuard_agg Tryz.prog
  have hgg := span_guard
  have hq1 := span_same 637 1000
  have hq2 := span_same 967 1000
  clear hA hT hK hb H B1 B2 S1 S2 S3 HW HB hz1 hz2 hz3 hz4 hz5 hz6 hz7 hz8 hz9 hz10 hz11 hz12 hz13 hz14
  go_wp2_with fail
  simp only [List.append]
  go_region_held3 (fun w' => w'.cell? ⟨w2.heap.size, 0, none⟩ = some (.int .i64 637) ∧ w'.cell? ⟨w2.heap.size, 1, none⟩ = some (.int .i64 1000) ∧ w'.cell? ⟨w8.heap.size, 0, none⟩ = some (.int .i64 967) ∧ w'.cell? ⟨w8.heap.size, 1, none⟩ = some (.int .i64 1000) ∧
    w'.cell? ⟨w15.heap.size, 0, none⟩ = some (.slice pa 2 pc) ∧ w'.cell? ⟨w15.heap.size, 1, none⟩ = some (.slice ka 3 kc) ∧ w'.cell? ⟨w15.heap.size, 2, none⟩ = some (.int .i64 950) ∧ AwI w w2.heap.size w8.heap.size w15.heap.size sA mA nA pa ka pc kc ks w')
    ((refine AwI.held ?_; first | assumption | (go_split_ands; assumption) | (go_split_ands; refine AwI.alloc ?_ _; assumption) | (go_split_ands; refine AwI.on ?_ hbN; assumption)))
    (first | (go_at_call 30; (with_reducible refine (aw_name1 _).mono ?_); rintro e w' ⟨rfl, hbN⟩) | (go_at_call 30; (with_reducible refine (aw_name2 _).mono ?_); rintro e w' ⟨rfl, hbN⟩) | (go_at_call 31; refine (lspan_any _ _ _).mono ?_; rintro e w' ⟨rfl, rfl⟩) | (go_at_call 32; go_split_ands; (with_reducible refine (aw_intsA (by simp) (by assumption)).mono ?_); rintro e w' ⟨rfl, hbN⟩) | (go_at_call 32; go_split_ands; (with_reducible refine (aw_intsB (by simp) (by assumption)).mono ?_); rintro e w' ⟨rfl, hbN⟩) | (go_at_call 32; go_split_ands; (with_reducible refine (aw_intsC (by simp) (by assumption)).mono ?_); rintro e w' ⟨rfl, hbN⟩) | (go_at_call 33; refine (ltext_any _).mono ?_; rintro e w' ⟨rfl, rfl⟩) | (go_at_call 27; refine (table_any _).mono ?_; rintro e w' ⟨qa, kq, a0, a1, a2, rfl, hT2, hbN⟩) | (go_at_call 9; go_split_ands; refine (aw_tables (AwI.T (by assumption)) HK.out hT2).mono ?_; rintro e w' ⟨rfl, hbN⟩) | fail)
  go_wp2_with fail
  go_ret
  first
    | exact ⟨rfl, AwI.b (by assumption)⟩
    | (go_split_ands; exact ⟨rfl, AwI.b (by assumption)⟩)
    | exact ⟨rfl, AwI.b (AwI.on (by assumption) hbN)⟩
    | (go_split_ands; exact ⟨rfl, AwI.b (AwI.on (by assumption) hbN)⟩)
end Go.Proofs.YthihpggjglghoaaGreatDoor
