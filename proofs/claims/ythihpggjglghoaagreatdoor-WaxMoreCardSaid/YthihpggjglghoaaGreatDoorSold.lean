/- wax.Sold: contract. -/
import Derived.Test.YthihpggjglghoaaGreatDoorPof
namespace Go.Proofs.YthihpggjglghoaaGreatDoor
open Go.RowKit Go.Shelf

/-- What Sold returns. -/
def soldV (t : Tab) (l : List Int) (kind : Int) : (Int × Int) × Int × Int :=
  if lookErr t l ≠ 0 then ((0, 0), 0, lookErr t l) else if ¬ (0 ≤ kind ∧ kind ≤ t.ks.length - 1) then ((0, 0), 0, 4) else
  if (partsOfV t l kind.toNat).2 < (partsOfV t l kind.toNat).1 then ((0, 0), 0, 9) else (partsOfV t l kind.toNat, judgeV (partsOfV t l kind.toNat).1 (partsOfV t l kind.toNat).2 t.pu, 0)

set_option maxRecDepth 100000 in
set_option maxHeartbeats 2000000 in
theorem sold_look {w : World} {pa ka ra : Option Addr} {pc kc rc : Nat} {t : Tab} {l : List Int} (h : RdIn w pa ka ra pc kc t l) (k : Int) (h0 : lookErr t l ≠ 0) :
    Calls Tryz.prog 13 #[.agg #[.slice pa t.ps.length pc, .slice ka t.ks.length kc, .int .i64 t.pu], .slice ra l.length rc, .int .i64 k] w fun e w' => e = .returned (.tuple #[.agg #[.int .i64 0, .int .i64 0], .int .i64 0, .int .i64 (lookErr t l)]) ∧ Below w.heap.size w w' := by
  have hB0 : Below w.heap.size w ((w.alloc (.cells #[.slice pa t.ps.length pc, .slice ka t.ks.length kc, .int .i64 t.pu] 25)).alloc (.cells #[.int .i64 0, .int .i64 0] 43)) := ((Below.refl _ w).alloc (Nat.le_refl _) _).alloc (by simp) _
  have HL := Lib.hid (look_err (rc := rc) (h.on hB0).tab (h.on hB0).rds h0)
  have h1 := h.tab.tab.lp
  have h2 := h.tab.tab.lk
  have h3 := h.rds.len
  clear h
  generalize lookErr t l = z at *
  have z2 : (z != 0) = true := by simpa using h0
  go_enter Tryz.func13, Tryz.ntmps13
  go_wp2_with fail
  refine HL.out.mono ?_
  rintro e w1 ⟨rfl, hb1⟩
  have BR := Lib.hid (Blk.on (Blk.new1 w 43 #[.int .i64 0, .int .i64 0] (.cells #[.slice pa t.ps.length pc, .slice ka t.ks.length kc, .int .i64 t.pu] 25)) hb1)
  have hbw := hB0.trans (hb1.mono hB0.size)
  have hl := BR.out.lt
  clear HL hb1
  obtain ⟨r0, r1, r2, r3, r4⟩ := BR.out.two
  go_wp2_with fail
  refine bodyPost_ret (v := .tuple #[.agg #[.int .i64 0, .int .i64 0], .int .i64 0, .int .i64 z]) ?_ rfl ⟨rfl, by repeat (first | exact hbw | refine Below.setCell ?_ (by simp) _ | refine Below.alloc ?_ (by first | omega | (simp; omega)) _)⟩
  simp [results, Tryz.results13, go_sem, *]

set_option maxRecDepth 100000 in
set_option maxHeartbeats 2000000 in
theorem sold_none {w : World} {pa ka ra : Option Addr} {pc kc rc : Nat} {t : Tab} {l : List Int} (h : RdIn w pa ka ra pc kc t l) (k : Int) (h0 : lookErr t l = 0) (hk : ¬ (0 ≤ k ∧ k ≤ t.ks.length - 1)) :
    Calls Tryz.prog 13 #[.agg #[.slice pa t.ps.length pc, .slice ka t.ks.length kc, .int .i64 t.pu], .slice ra l.length rc, .int .i64 k] w fun e w' => e = .returned (.tuple #[.agg #[.int .i64 0, .int .i64 0], .int .i64 0, .int .i64 4]) ∧ Below w.heap.size w w' := by
  have hB0 : Below w.heap.size w ((w.alloc (.cells #[.slice pa t.ps.length pc, .slice ka t.ks.length kc, .int .i64 t.pu] 25)).alloc (.cells #[.int .i64 0, .int .i64 0] 43)) := ((Below.refl _ w).alloc (Nat.le_refl _) _).alloc (by simp) _
  have HL := Lib.hid ((h.on hB0).look (rc := rc) h0)
  have h1 := h.tab.tab.lp
  have h2 := h.tab.tab.lk
  have h3 := h.rds.len
  have HK := Lib.hid (fun (W : World) => knows_f (.slice pa t.ps.length pc) (.slice ra l.length rc) ka t.ks.length kc t.pu k W h2 hk)
  clear h h0 hk
  go_enter Tryz.func13, Tryz.ntmps13
  go_wp2_with fail
  refine HL.out.mono ?_
  rintro e w1 ⟨rfl, hb1⟩
  have BR := Lib.hid (Blk.on (Blk.new1 w 43 #[.int .i64 0, .int .i64 0] (.cells #[.slice pa t.ps.length pc, .slice ka t.ks.length kc, .int .i64 t.pu] 25)) hb1)
  have hbw := hB0.trans (hb1.mono hB0.size)
  have hl := BR.out.lt
  clear HL hb1
  go_wp2_with fail
  refine (HK.out _).mono ?_
  rintro e w2 ⟨rfl, hb2⟩
  have BR2 := Lib.hid (Blk.on (BR.out.alloc _) hb2)
  have BS2 := Lib.hid (Blk.on (Blk.new w1 57 #[.slice pa t.ps.length pc, .slice ka t.ks.length kc, .int .i64 t.pu, .slice ra l.length rc]) hb2)
  have hbw2 := ((hbw.alloc (by omega) _).trans (hb2.mono (by simp; omega)))
  clear BR hb2 HK
  obtain ⟨r0, r1, r2, r3, r4⟩ := BR2.out.two
  go_wp2_with fail
  refine bodyPost_ret (v := .tuple #[.agg #[.int .i64 0, .int .i64 0], .int .i64 0, .int .i64 4]) ?_ rfl ⟨rfl, by repeat (first | exact hbw2 | refine Below.setCell ?_ (by simp) _ | refine Below.alloc ?_ (by first | omega | (simp; omega)) _)⟩
  simp [results, Tryz.results13, go_sem, *]

set_option maxRecDepth 100000 in
set_option maxHeartbeats 2000000 in
theorem sold_ok {w : World} {pa ka ra : Option Addr} {pc kc rc : Nat} {t : Tab} {l : List Int} (h : RdIn w pa ka ra pc kc t l) (k : Nat) (h0 : lookErr t l = 0) (hk : k < t.ks.length) (R : (Int × Int) × Int × Int) (hR : R = if (partsOfV t l k).2 < (partsOfV t l k).1 then ((0, 0), 0, 9) else (partsOfV t l k, judgeV (partsOfV t l k).1 (partsOfV t l k).2 t.pu, 0)) :
    Calls Tryz.prog 13 #[.agg #[.slice pa t.ps.length pc, .slice ka t.ks.length kc, .int .i64 t.pu], .slice ra l.length rc, .int .i64 k] w fun e w' => e = .returned (.tuple #[.agg #[.int .i64 R.1.1, .int .i64 R.1.2], .int .i64 R.2.1, .int .i64 R.2.2]) ∧ Below w.heap.size w w' := by
  have hB0 : Below w.heap.size w ((w.alloc (.cells #[.slice pa t.ps.length pc, .slice ka t.ks.length kc, .int .i64 t.pu] 25)).alloc (.cells #[.int .i64 0, .int .i64 0] 43)) := ((Below.refl _ w).alloc (Nat.le_refl _) _).alloc (by simp) _
  have HL := Lib.hid ((h.on hB0).look (rc := rc) h0)
  have h1 := h.tab.tab.lp
  have h2 := h.tab.tab.lk
  have h3 := h.rds.len
  have HK := Lib.hid (fun (W : World) => knows_t (.slice pa t.ps.length pc) (.slice ra l.length rc) ka t.ks.length kc t.pu k W h2 ⟨by omega, by omega⟩)
  have HS := Lib.hid (h.sam h0)
  have HP := Lib.hid (fun (W : World) (hB : Below w.heap.size w W) => partsOf_any (rc := rc) (HS.out.on hB) k hk)
  have HR := Lib.hid hR
  clear h h0 hk hR HS
  generalize partsOfV t l k = p at *
  go_enter Tryz.func13, Tryz.ntmps13
  go_wp2_with fail
  refine HL.out.mono ?_
  rintro e w1 ⟨rfl, hb1⟩
  have BR := Lib.hid (Blk.on (Blk.new1 w 43 #[.int .i64 0, .int .i64 0] (.cells #[.slice pa t.ps.length pc, .slice ka t.ks.length kc, .int .i64 t.pu] 25)) hb1)
  have hbw := hB0.trans (hb1.mono hB0.size)
  have hl := BR.out.lt
  clear HL hb1
  go_wp2_with fail
  refine (HK.out _).mono ?_
  rintro e w2 ⟨rfl, hb2⟩
  have BR2 := Lib.hid (Blk.on (BR.out.alloc _) hb2)
  have BS2 := Lib.hid (Blk.on (Blk.new w1 57 #[.slice pa t.ps.length pc, .slice ka t.ks.length kc, .int .i64 t.pu, .slice ra l.length rc]) hb2)
  have hbw2 := ((hbw.alloc (by omega) _).trans (hb2.mono (by simp; omega)))
  clear BR hb2 HK
  obtain ⟨s0, s1, s2, s3, _, _, _, _, s8⟩ := BS2.out.four
  go_wp2_with fail
  refine (HP.out _ hbw2).mono ?_
  rintro e w3 ⟨rfl, hb3⟩
  obtain ⟨r0, r1, r2, r3, r4⟩ := (BR2.out.on hb3).two
  have BR3 := Lib.hid ((BR2.out.on hb3).set2 (.int .i64 p.1) (.int .i64 p.2))
  have BS3 := Lib.hid ((((BS2.out.on hb3)).far (p := ⟨w.heap.size + 1, 0, none⟩) (by simp; omega) (.int .i64 p.1)).far (p := ⟨w.heap.size + 1, 1, none⟩) (by simp; omega) (.int .i64 p.2))
  have hbw3 := hbw2.trans (hb3.mono hbw2.size)
  clear HP hb3 s0 s1 s2 s3
  go_wp2_with fail
  refine (empty_any p.1 p.2 _).mono ?_
  rintro e w4 ⟨rfl, hb4⟩
  obtain ⟨q0, q1, q2, q3, q4⟩ := (BR3.out.on hb4).two
  obtain ⟨_, _, t2, _, _, _, _, _, t8⟩ := (BS3.out.on hb4).four
  have hbw4 := (((hbw3.setCell (p := ⟨w.heap.size + 1, 0, none⟩) (by simp) (.int .i64 p.1)).setCell (p := ⟨w.heap.size + 1, 1, none⟩) (by simp) (.int .i64 p.2))).trans (hb4.mono (by have := hbw3.size; simp; omega))
  clear r0 r1 r2 r3
  by_cases he : p.2 < p.1
  · have HR2 := Lib.hid (HR.out.trans (if_pos he))
    clear HR
    go_wp2_with fail
    refine bodyPost_ret (v := .tuple #[.agg #[.int .i64 0, .int .i64 0], .int .i64 0, .int .i64 9]) ?_ rfl ⟨by rw [HR2.out], by repeat (first | exact hbw4 | refine Below.setCell ?_ (by simp) _ | refine Below.alloc ?_ (by first | omega | (simp; omega)) _)⟩
    simp [results, Tryz.results13, go_sem, *]
  · have HR2 := Lib.hid (HR.out.trans (if_neg he))
    clear HR
    have hde : decide (p.2 < p.1) = false := decide_eq_false he
    have HJ := Lib.hid (fun (W : World) => judge_any p.1 p.2 t.pu W)
    generalize judgeV p.1 p.2 t.pu = jv at *
    go_wp2_with fail
    go_region_held3 (fun w' => w'.cell? ⟨w.heap.size + 1, 0, none⟩ = some (.int .i64 p.1) ∧ w'.cell? ⟨w.heap.size + 1, 1, none⟩ = some (.int .i64 p.2) ∧ w'.cell? ⟨w1.heap.size, 2, none⟩ = some (.int .i64 t.pu)) (first | (simp [*]; done) | (simp [go_sem, *]; done))
      (first | (go_at_call 42; refine (HJ.out _).mono ?_; rintro e w5 ⟨rfl, hb5⟩; have hk5 := kept_of hb5; have u0 : w5.frozen? ⟨w.heap.size + 1, 0, none⟩ = false := (hb5.frozen (p := ⟨w.heap.size + 1, 0, none⟩) q4).trans q2; have u1 : w5.frozen? ⟨w.heap.size + 1, 1, none⟩ = false := (hb5.frozen (p := ⟨w.heap.size + 1, 1, none⟩) q4).trans q3))
    have hbw5 := hbw4.trans ((Below.drew (Below.refl _ w4)).trans (hb5.mono hbw4.size))
    clear hk5
    go_wp2_with fail
    refine bodyPost_ret (v := .tuple #[.agg #[.int .i64 p.1, .int .i64 p.2], .int .i64 jv, .int .i64 0]) ?_ rfl ⟨by rw [HR2.out], by repeat (first | exact hbw5 | refine Below.setCell ?_ (by simp) _ | refine Below.alloc ?_ (by first | omega | (simp; omega)) _)⟩
    simp [results, Tryz.results13, go_sem, *]

/-- **Sold returns soldV.** -/
theorem sold_any {w : World} {pa ka ra : Option Addr} {pc kc rc : Nat} {t : Tab} {l : List Int} (h : RdIn w pa ka ra pc kc t l) (k : Int) :
    Calls Tryz.prog 13 #[.agg #[.slice pa t.ps.length pc, .slice ka t.ks.length kc, .int .i64 t.pu], .slice ra l.length rc, .int .i64 k] w fun e w' => e = .returned (.tuple #[.agg #[.int .i64 (soldV t l k).1.1, .int .i64 (soldV t l k).1.2], .int .i64 (soldV t l k).2.1, .int .i64 (soldV t l k).2.2]) ∧ Below w.heap.size w w' := by
  unfold soldV
  by_cases h0 : lookErr t l = 0
  · rw [if_neg (by simpa using h0)]
    by_cases hk : 0 ≤ k ∧ k ≤ t.ks.length - 1
    · rw [if_neg (by simpa using hk)]
      obtain ⟨n, rfl⟩ := Int.eq_ofNat_of_zero_le hk.1
      rw [Int.toNat_natCast]
      exact sold_ok h n h0 (by omega) _ rfl
    · rw [if_pos hk]
      exact sold_none h k h0 hk
  · rw [if_pos h0]
    exact sold_look h k h0
end Go.Proofs.YthihpggjglghoaaGreatDoor
