/- wax.Mixed: contract. -/
import Derived.Test.YthihpggjglghoaaGreatDoorParts
import Derived.Test.YthihpggjglghoaaGreatDoorBlk
namespace Go.Proofs.YthihpggjglghoaaGreatDoor
open Go.RowKit Go.Shelf

/-- What Mixed returns. -/
def mixedV (t : Tab) (l : List Int) (a b : Int) : (Int × Int) × Int :=
  if lookErr t l ≠ 0 then ((0, 0), lookErr t l) else if differV t.ks.length a b ≠ 0 then ((0, 0), differV t.ks.length a b) else
  if (tightL (bnds t l a.toNat b.toNat) (0, 1000)).2 < (tightL (bnds t l a.toNat b.toNat) (0, 1000)).1 then ((0, 0), 9) else (tightL (bnds t l a.toNat b.toNat) (0, 1000), 0)

/-- A table and readings that come in. -/
structure RdIn (w : World) (pa ka ra : Option Addr) (pc kc : Nat) (t : Tab) (l : List Int) : Prop where
  tab : TabIn w pa ka pc kc t
  rds : IntsIn w ra l
theorem RdIn.on {w w' : World} {pa ka ra : Option Addr} {pc kc : Nat} {t : Tab} {l : List Int} (h : RdIn w pa ka ra pc kc t l) (hb : Below w.heap.size w w') : RdIn w' pa ka ra pc kc t l := ⟨h.tab.on hb, h.rds.on hb⟩
theorem RdIn.sam {w : World} {pa ka ra : Option Addr} {pc kc : Nat} {t : Tab} {l : List Int} (h : RdIn w pa ka ra pc kc t l) (h0 : lookErr t l = 0) : SamIn w pa ka ra pc kc t l := ⟨h.tab, h.rds, valid_of (lookErr_ok h0).1, (lookErr_ok h0).2⟩
theorem RdIn.look {w : World} {pa ka ra : Option Addr} {pc kc rc : Nat} {t : Tab} {l : List Int} (h : RdIn w pa ka ra pc kc t l) (h0 : lookErr t l = 0) :
    Calls Tryz.prog 35 #[.agg #[.slice pa t.ps.length pc, .slice ka t.ks.length kc, .int .i64 t.pu], .slice ra l.length rc] w fun e w' => e = .returned (.tuple #[.agg #[.slice pa t.ps.length pc, .slice ka t.ks.length kc, .int .i64 t.pu, .slice ra l.length rc], .int .i64 0]) ∧ Below w.heap.size w w' :=
  look_ok h.tab h.rds (lookErr_ok h0).1 (lookErr_ok h0).2

set_option maxRecDepth 100000 in
set_option maxHeartbeats 1000000 in
theorem mixed_look {w : World} {pa ka ra : Option Addr} {pc kc rc : Nat} {t : Tab} {l : List Int} (h : RdIn w pa ka ra pc kc t l) (a b : Int) (h0 : lookErr t l ≠ 0) :
    Calls Tryz.prog 26 #[.agg #[.slice pa t.ps.length pc, .slice ka t.ks.length kc, .int .i64 t.pu], .slice ra l.length rc, .int .i64 a, .int .i64 b] w fun e w' => e = .returned (.tuple #[.agg #[.int .i64 0, .int .i64 0], .int .i64 (lookErr t l)]) ∧ Below w.heap.size w w' := by
  have hB0 : Below w.heap.size w ((w.alloc (.cells #[.slice pa t.ps.length pc, .slice ka t.ks.length kc, .int .i64 t.pu] 25)).alloc (.cells #[.int .i64 0, .int .i64 0] 43)) := ((Below.refl _ w).alloc (Nat.le_refl _) _).alloc (by simp) _
  have HL := Lib.hid (look_err (rc := rc) (h.on hB0).tab (h.on hB0).rds h0)
  have h1 := h.tab.tab.lp
  have h2 := h.tab.tab.lk
  have h3 := h.rds.len
  clear h
  generalize lookErr t l = z at *
  have z1 : (z == 0) = false := by simpa using h0
  have z2 : (z != 0) = true := by simpa using h0
  go_enter Tryz.func26, Tryz.ntmps26
  go_wp2_with fail
  refine HL.out.mono ?_
  rintro e w1 ⟨rfl, hb1⟩
  obtain ⟨r0, r1, r2, r3, r4⟩ := (Blk.on (Blk.new1 w 43 #[.int .i64 0, .int .i64 0] (.cells #[.slice pa t.ps.length pc, .slice ka t.ks.length kc, .int .i64 t.pu] 25)) hb1).two
  have hbw := hB0.trans (hb1.mono hB0.size)
  clear HL hb1
  go_wp2_with fail
  refine bodyPost_ret (v := .tuple #[.agg #[.int .i64 0, .int .i64 0], .int .i64 z]) ?_ rfl ⟨rfl, by repeat (first | exact hbw | refine Below.setCell ?_ (by simp) _ | refine Below.alloc ?_ (by first | omega | (simp; omega)) _)⟩
  simp [results, Tryz.results26, go_sem, *]

set_option maxRecDepth 100000 in
set_option maxHeartbeats 1000000 in
theorem mixed_diff {w : World} {pa ka ra : Option Addr} {pc kc rc : Nat} {t : Tab} {l : List Int} (h : RdIn w pa ka ra pc kc t l) (a b : Int) (h0 : lookErr t l = 0) (hd : differV t.ks.length a b ≠ 0) :
    Calls Tryz.prog 26 #[.agg #[.slice pa t.ps.length pc, .slice ka t.ks.length kc, .int .i64 t.pu], .slice ra l.length rc, .int .i64 a, .int .i64 b] w fun e w' => e = .returned (.tuple #[.agg #[.int .i64 0, .int .i64 0], .int .i64 (differV t.ks.length a b)]) ∧ Below w.heap.size w w' := by
  have hB0 : Below w.heap.size w ((w.alloc (.cells #[.slice pa t.ps.length pc, .slice ka t.ks.length kc, .int .i64 t.pu] 25)).alloc (.cells #[.int .i64 0, .int .i64 0] 43)) := ((Below.refl _ w).alloc (Nat.le_refl _) _).alloc (by simp) _
  have HL := Lib.hid ((h.on hB0).look (rc := rc) h0)
  have h1 := h.tab.tab.lp
  have h2 := h.tab.tab.lk
  have h3 := h.rds.len
  have HD := Lib.hid (fun (W : World) => differ_any (.slice pa t.ps.length pc) (.slice ra l.length rc) ka t.ks.length kc t.pu a b W h2)
  clear h h0
  generalize differV t.ks.length a b = z at *
  have z2 : (z != 0) = true := by simpa using hd
  go_enter Tryz.func26, Tryz.ntmps26
  go_wp2_with fail
  refine HL.out.mono ?_
  rintro e w1 ⟨rfl, hb1⟩
  have BR := Lib.hid (Blk.on (Blk.new1 w 43 #[.int .i64 0, .int .i64 0] (.cells #[.slice pa t.ps.length pc, .slice ka t.ks.length kc, .int .i64 t.pu] 25)) hb1)
  have hbw := hB0.trans (hb1.mono hB0.size)
  have hl := BR.out.lt
  clear HL hb1
  go_wp2_with fail
  refine (HD.out _).mono ?_
  rintro e w2 ⟨rfl, hb2⟩
  obtain ⟨r0, r1, r2, r3, r4⟩ := (Blk.on (BR.out.alloc _) hb2).two
  have hbw2 := ((hbw.alloc (by omega) _).trans (hb2.mono (by simp; omega)))
  go_wp2_with fail
  refine bodyPost_ret (v := .tuple #[.agg #[.int .i64 0, .int .i64 0], .int .i64 z]) ?_ rfl ⟨rfl, by repeat (first | exact hbw2 | refine Below.setCell ?_ (by simp) _ | refine Below.alloc ?_ (by first | omega | (simp; omega)) _)⟩
  simp [results, Tryz.results26, go_sem, *]

set_option maxRecDepth 100000 in
set_option maxHeartbeats 2000000 in
theorem mixed_ok {w : World} {pa ka ra : Option Addr} {pc kc rc : Nat} {t : Tab} {l : List Int} (h : RdIn w pa ka ra pc kc t l) (a b : Nat) (h0 : lookErr t l = 0) (hd : differV t.ks.length a b = 0) (ha : a < t.ks.length) (hb : b < t.ks.length) :
    Calls Tryz.prog 26 #[.agg #[.slice pa t.ps.length pc, .slice ka t.ks.length kc, .int .i64 t.pu], .slice ra l.length rc, .int .i64 a, .int .i64 b] w fun e w' =>
      e = .returned (.tuple #[.agg #[.int .i64 (if (tightL (bnds t l a b) (0, 1000)).2 < (tightL (bnds t l a b) (0, 1000)).1 then 0 else (tightL (bnds t l a b) (0, 1000)).1), .int .i64 (if (tightL (bnds t l a b) (0, 1000)).2 < (tightL (bnds t l a b) (0, 1000)).1 then 0 else (tightL (bnds t l a b) (0, 1000)).2)], .int .i64 (if (tightL (bnds t l a b) (0, 1000)).2 < (tightL (bnds t l a b) (0, 1000)).1 then 9 else 0)]) ∧ Below w.heap.size w w' := by
  have hB0 : Below w.heap.size w ((w.alloc (.cells #[.slice pa t.ps.length pc, .slice ka t.ks.length kc, .int .i64 t.pu] 25)).alloc (.cells #[.int .i64 0, .int .i64 0] 43)) := ((Below.refl _ w).alloc (Nat.le_refl _) _).alloc (by simp) _
  have HL := Lib.hid ((h.on hB0).look (rc := rc) h0)
  have h1 := h.tab.tab.lp
  have h2 := h.tab.tab.lk
  have h3 := h.rds.len
  have HD := Lib.hid (fun (W : World) => differ_any (.slice pa t.ps.length pc) (.slice ra l.length rc) ka t.ks.length kc t.pu a b W h2)
  rw [hd] at HD
  have HS := Lib.hid (h.sam h0)
  have HB := Lib.hid (fun (W : World) (hB : Below w.heap.size w W) => (bounds_in (rc := rc) (HS.out.on hB) a b ha hb).mono fun _ _ h => h.apart)
  have HT := Lib.hid (fun (W : World) (B : Nat) (A : Option Addr) (c : Nat) (hB : Bnds W B (.slice A (bnds t l a b).length c) (bnds t l a b)) => tighten_any (0, 1000) hB (bnds_len HS.out.val HS.out.rok a b) (by decide) (bnds_bd HS.out.val HS.out.rok a b))
  generalize bnds t l a b = bs at *
  generalize tightL bs (0, 1000) = p at *
  clear h h0 hd HS
  go_enter Tryz.func26, Tryz.ntmps26
  go_wp2_with fail
  refine HL.out.mono ?_
  rintro e w1 ⟨rfl, hb1⟩
  have BR := Lib.hid (Blk.on (Blk.new1 w 43 #[.int .i64 0, .int .i64 0] (.cells #[.slice pa t.ps.length pc, .slice ka t.ks.length kc, .int .i64 t.pu] 25)) hb1)
  have hbw := hB0.trans (hb1.mono hB0.size)
  have hl := BR.out.lt
  clear HL hb1
  go_wp2_with fail
  refine (HD.out _).mono ?_
  rintro e w2 ⟨rfl, hb2⟩
  have BR2 := Lib.hid (Blk.on (BR.out.alloc _) hb2)
  have BS2 := Lib.hid (Blk.on (Blk.new w1 57 #[.slice pa t.ps.length pc, .slice ka t.ks.length kc, .int .i64 t.pu, .slice ra l.length rc]) hb2)
  obtain ⟨s0, s1, s2, s3, _, _, _, _, s8⟩ := BS2.out.four
  have hbw2 := ((hbw.alloc (by omega) _).trans (hb2.mono (by simp; omega)))
  clear BR hb2 HD
  go_wp2_with fail
  refine (HB.out _ hbw2).mono ?_
  rintro e w3 ⟨A, c, rfl, hB3, hb3⟩
  have BR3 := Lib.hid (Blk.on BR2.out hb3)
  have hbw3 := hbw2.trans (hb3.mono hbw2.size)
  clear BR2 BS2 hb3 HB s0 s1 s2 s3
  have HTT := Lib.hid (HT.out _ _ _ _ hB3)
  clear HT hB3
  go_wp2_with fail
  refine HTT.out.mono ?_
  rintro e w4 ⟨rfl, hb4⟩
  have BR4 := Lib.hid (Blk.on BR3.out hb4)
  have hbw4 := hbw3.trans (hb4.mono hbw3.size)
  have hl4 := BR4.out.lt
  clear BR3 hb4 HTT
  go_wp2_with fail
  refine (empty_any p.1 p.2 _).mono ?_
  rintro e w5 ⟨rfl, hb5⟩
  obtain ⟨r0, r1, r2, r3, r4⟩ := (Blk.on (BR4.out.alloc _) hb5).two
  obtain ⟨q0, q1, _, _, q4⟩ := (Blk.on (Blk.new w4 43 #[.int .i64 p.1, .int .i64 p.2]) hb5).two
  have hbw5 := ((hbw4.alloc (by omega) _).trans (hb5.mono (by simp; omega)))
  clear BR4 hb5
  by_cases he : p.2 < p.1
  · go_wp2_with fail
    refine bodyPost_ret (v := .tuple #[.agg #[.int .i64 0, .int .i64 0], .int .i64 9]) ?_ rfl ⟨by simp, by repeat (first | exact hbw5 | refine Below.setCell ?_ (by simp) _ | refine Below.alloc ?_ (by first | omega | (simp; omega)) _)⟩
    simp [results, Tryz.results26, go_sem, *]
  · have he' : ¬ (p.2 < p.1) := he
    have hde : decide (p.2 < p.1) = false := decide_eq_false he
    go_wp2_with fail
    refine bodyPost_ret (v := .tuple #[.agg #[.int .i64 p.1, .int .i64 p.2], .int .i64 0]) ?_ rfl ⟨by simp, by repeat (first | exact hbw5 | refine Below.setCell ?_ (by simp) _ | refine Below.alloc ?_ (by first | omega | (simp; omega)) _)⟩
    simp [results, Tryz.results26, go_sem, *]

theorem differ_ok {nk : Nat} {a b : Int} (h : differV nk a b = 0) : ∃ x y : Nat, a = x ∧ b = y ∧ x < nk ∧ y < nk ∧ x ≠ y := by
  unfold differV at h
  split at h
  · split at h
    · simp at h
    · exact ⟨a.toNat, b.toNat, by omega, by omega, by omega, by omega, by omega⟩
  · simp at h

/-- **Mixed returns mixedV.** -/
theorem mixed_any {w : World} {pa ka ra : Option Addr} {pc kc rc : Nat} {t : Tab} {l : List Int} (h : RdIn w pa ka ra pc kc t l) (a b : Int) :
    Calls Tryz.prog 26 #[.agg #[.slice pa t.ps.length pc, .slice ka t.ks.length kc, .int .i64 t.pu], .slice ra l.length rc, .int .i64 a, .int .i64 b] w fun e w' =>
      e = .returned (.tuple #[.agg #[.int .i64 (mixedV t l a b).1.1, .int .i64 (mixedV t l a b).1.2], .int .i64 (mixedV t l a b).2]) ∧ Below w.heap.size w w' := by
  unfold mixedV
  by_cases h0 : lookErr t l = 0
  · rw [if_neg (by simpa using h0)]
    by_cases hd : differV t.ks.length a b = 0
    · rw [if_neg (by simpa using hd)]
      obtain ⟨x, y, rfl, rfl, hx, hy, _⟩ := differ_ok hd
      have := mixed_ok (rc := rc) h x y h0 hd hx hy
      rw [Int.toNat_natCast, Int.toNat_natCast]
      by_cases he : (tightL (bnds t l x y) (0, 1000)).2 < (tightL (bnds t l x y) (0, 1000)).1
      · rw [if_pos he] at *
        simpa [he] using this
      · rw [if_neg he] at *
        simpa [he] using this
    · rw [if_pos hd]
      exact mixed_diff h a b h0 hd
  · rw [if_pos h0]
    exact mixed_look h a b h0
end Go.Proofs.YthihpggjglghoaaGreatDoor
