/- MouldCools: the law. -/
import Derived.Test.YtljbjcnfkbmjkaaMeH
import Derived.Test.YtljbjcnfkbmjkaaMg6
import Derived.Test.YtljbjcnfkbmjkaaMdh
namespace Go.Proofs.Ytljbjcnfkbmjkaa
open Go.RowKit Go.Shelf Go.Maps
attribute [local go_sem] Oper.semAt_some

set_option maxRecDepth 100000 in
set_option maxHeartbeats 8000000 in
theorem lco_r1 {Q : Exit → Act → World → Prop} {w W0 : World} {m : Md} {s0 s1 s2 s4 s5 s6 s7 s8 s9 s10 s11 s12 s13 s14 s15 s16 s17 s18 s19 s20 s21 s22 s23 s24 s25 s26 s27 s28 s29 s30 s31 s32 s33 s34 s35 s36 s37 s38 s39 s40 s41 s42 s43 s44 s45 s46 s47 s48 s49 s50 s51 s52 s53 s54 s55 s56 s57 s58 s59 s60 s61 : Value} (HB : Hid (MdBk w w.heap.size 25 m W0))
    (HQ : Hid (∀ (u13 u14 u15 u16 : Value) (W : World), Below W0.heap.size W0 W → Q .normal ⟨#[s0, s1, s2, .pointer (some ⟨w.heap.size, 0, none⟩), s4, s5, s6, s7, s8, s9, s10, s11, s12, u13, u14, u15, u16, .bool false, s18, s19, s20, s21, s22, s23, s24, s25, s26, s27, s28, s29, s30, s31, s32, s33, s34, s35, s36, s37, s38, s39, s40, s41, s42, s43, s44, s45, s46, s47, s48, s49, s50, s51, s52, s53, s54, s55, s56, s57, s58, s59, s60, s61], []⟩ W)) :
    Code.wp Try.prog ((Try.f3.body.bind (regionAt 1)).getD .skip) Q ⟨#[s0, s1, s2, .pointer (some ⟨w.heap.size, 0, none⟩), s4, s5, s6, s7, s8, s9, s10, s11, s12, s13, s14, s15, s16, s17, s18, s19, s20, s21, s22, s23, s24, s25, s26, s27, s28, s29, s30, s31, s32, s33, s34, s35, s36, s37, s38, s39, s40, s41, s42, s43, s44, s45, s46, s47, s48, s49, s50, s51, s52, s53, s54, s55, s56, s57, s58, s59, s60, s61], []⟩ W0 := by
  have HP := Lib.hid (fun W => check_any m W)
  have HC := Lib.hid (fun W => rcheck_any m W)
  generalize checkM m = z at *
  have hz : (z != z) = false := by simp
  conv => arg 2; whnf
  have LAST : Hid (Below W0.heap.size W0 W0.drew) := Lib.hid ((Below.refl _ _).drew)
  obtain ⟨c0, c1x, c2x, c3, c4, c5, c6, c7, c8, c9, c10, c11⟩ := (HB.out.on LAST.out).cells
  refine wp_region_noPanic ?_
  go_region_law (first
    | (go_simp; (with_reducible refine (HP.out _).mono ?_); rintro e wa ⟨rfl, hb⟩; have NEW : Hid (Below W0.heap.size W0 wa) := LAST.out.trans (hb.mono LAST.out.size); clear LAST; have LAST := NEW; clear NEW hb c0 c1x c2x c3 c4 c5 c6 c7 c8 c9 c10 c11; obtain ⟨c0, c1x, c2x, c3, c4, c5, c6, c7, c8, c9, c10, c11⟩ := (HB.out.on LAST.out).cells)
    | (go_simp; (with_reducible refine (HC.out _).mono ?_); rintro e wa ⟨rfl, hb⟩; have NEW : Hid (Below W0.heap.size W0 wa) := LAST.out.trans (hb.mono LAST.out.size); clear LAST; have LAST := NEW; clear NEW hb c0 c1x c2x c3 c4 c5 c6 c7 c8 c9 c10 c11; obtain ⟨c0, c1x, c2x, c3, c4, c5, c6, c7, c8, c9, c10, c11⟩ := (HB.out.on LAST.out).cells)
    | fail)
  all_goals exact NoPanic.normal (HQ.out _ _ _ _ _ LAST.out)

set_option maxRecDepth 100000 in
set_option maxHeartbeats 8000000 in
theorem lcools_any (m : Md) (n : Int) {w : World} {A1 A2 : Option Addr} {c1 c2 : Nat} {ps ws : List Int} (hp : IntsIn w A1 ps) (hq : IntsIn w A2 ws) :
    Calls Try.prog 3 #[.agg #[.int .i64 m.rings, .int .i64 m.give, .int .i64 m.plo, .int .i64 m.phi, .int .i64 m.wlo, .int .i64 m.whi, .int .i64 m.st, .int .i64 m.shrink, .int .i64 m.skin, .int .i64 m.fill, .int .i64 m.gap, .int .i64 m.deep], .agg #[.slice A1 ps.length c1, .slice A2 ws.length c2], .int .i64 n] w fun e w' => e = .returned (.bool true) ∧ Below w.heap.size w w' := by
  have HM0 : Hid (RtB w m A1 A2 c1 c2 ps ws ((w.alloc (.cells #[.int .i64 m.rings, .int .i64 m.give, .int .i64 m.plo, .int .i64 m.phi, .int .i64 m.wlo, .int .i64 m.whi, .int .i64 m.st, .int .i64 m.shrink, .int .i64 m.skin, .int .i64 m.fill, .int .i64 m.gap, .int .i64 m.deep] 25)).alloc (.cells #[.slice A1 ps.length c1, .slice A2 ws.length c2] 28))) := by
    have hb0 : Below w.heap.size w ((w.alloc (.cells #[.int .i64 m.rings, .int .i64 m.give, .int .i64 m.plo, .int .i64 m.phi, .int .i64 m.wlo, .int .i64 m.whi, .int .i64 m.st, .int .i64 m.shrink, .int .i64 m.skin, .int .i64 m.fill, .int .i64 m.gap, .int .i64 m.deep] 25)).alloc (.cells #[.slice A1 ps.length c1, .slice A2 ws.length c2] 28)) := ((Below.refl _ w).alloc (Nat.le_refl _) _).alloc (by simp) _
    exact ⟨⟨(Blk.new w _ _).alloc _, hb0⟩, Blk.new1 w _ _ _, hp.on hb0, hq.on hb0⟩
  clear hp hq
  have HA := Lib.hid (fun (W : World) (h1 : IntsIn W A1 ps) (h2 : IntsIn W A2 ws) => cool_any (c1 := c1) (c2 := c2) m h1 h2)
  have HB := Lib.hid (fun (W : World) (h1 : IntsIn W A1 ps) (h2 : IntsIn W A2 ws) => rcool_any (c1 := c1) (c2 := c2) m h1 h2)
  have HWm := Lib.hid (fun W => mwarm_any m n W)
  have HWr := Lib.hid (fun W => rWarm_any m n W)
  generalize hcl : coolR m ps ws = cl at *
  generalize hwl : warmR m n = wl at *
  clear hcl hwl
  obtain ⟨la, f⟩ := cl
  obtain ⟨lw, g⟩ := wl
  simp only at HA HB HWm HWr
  have HIT := Lib.hid (show ∀ (W : World) (X Y : Option Addr) (a b : Nat) (_ : IntsIn W X la) (_ : IntsIn W Y la), Calls Try.prog 22 #[.slice X la.length a, .slice Y la.length b] W fun e w' => e = .returned (.bool true) ∧ Below W.heap.size W w' from
    fun W X Y a b h1 h2 => (rints_any (c := a) (d := b) h1 h2).mono fun e w' h => ⟨by rw [h.1, decide_eq_true rfl], h.2⟩)
  have HST := Lib.hid (show ∀ (W : World) (X Y : Option Addr) (a b : Nat) (_ : SpansIn W X lw) (_ : SpansIn W Y lw), Calls Try.prog 25 #[.slice X lw.length a, .slice Y lw.length b] W fun e w' => e = .returned (.bool true) ∧ Below W.heap.size W w' from
    fun W X Y a b h1 h2 => (rspans_any (c := a) (d := b) h1.at_ h1.len h2.at_ h2.len).mono fun e w' h => ⟨by rw [h.1, decide_eq_true rfl], by obtain ⟨k, rfl⟩ := h.2; exact below_drewN' (Below.refl _ _) _⟩)
  have hff : (f != f) = false := by simp
  have hgg : (g == g) = true := by simp
  go_enter Try.func3, Try.ntmps3
  go_wp2_with fail
  refine wp_of_eq (lco_r1 HM0.out.b0 (fun _ _ _ _ W1 hb1 => ?_)) (by kernel_rfl)
  have HM := Lib.hid (HM0.out.on hb1)
  clear HM0 hb1
  obtain ⟨c0, c1x, c2x, c3, c4, c5, c6, c7, c8, c9, c10, c11⟩ := HM.out.b0.cells
  have y0 := HM.out.b1.cell 0
  have y1 := HM.out.b1.cell 1
  go_wp2_with (first
      | (go_at_call 20; (with_reducible refine (HA.out _ HM.out.p HM.out.q).mono ?_); rintro e wN ⟨va, rfl, hv, hb⟩; have NEW := Lib.hid (HM.out.on hb); clear HM; have HM := NEW; clear NEW; clear c0 c1x c2x c3 c4 c5 c6 c7 c8 c9 c10 c11 y0 y1; obtain ⟨c0, c1x, c2x, c3, c4, c5, c6, c7, c8, c9, c10, c11⟩ := HM.out.b0.cells; have y0 := HM.out.b1.cell 0; have y1 := HM.out.b1.cell 1; obtain ⟨P1, d1, rfl, i1⟩ := hv.in_; have I1 := Lib.hid i1; clear hv i1; clear hb)
      | (go_at_call 21; (with_reducible refine (HB.out _ HM.out.p HM.out.q).mono ?_); rintro e wN ⟨vb, rfl, hv, hb⟩; have NEW := Lib.hid (HM.out.on hb); clear HM; have HM := NEW; clear NEW; clear c0 c1x c2x c3 c4 c5 c6 c7 c8 c9 c10 c11 y0 y1; obtain ⟨c0, c1x, c2x, c3, c4, c5, c6, c7, c8, c9, c10, c11⟩ := HM.out.b0.cells; have y0 := HM.out.b1.cell 0; have y1 := HM.out.b1.cell 1; have NI := Lib.hid (I1.out.on hb); clear I1; have I1 := NI; clear NI; obtain ⟨P2, d2, rfl, i2⟩ := hv.in_; have I2 := Lib.hid i2; clear hv i2; clear hb)
      | (go_at_call 22; (with_reducible refine (HIT.out _ _ _ _ _ I1.out I2.out).mono ?_); rintro e wN ⟨rfl, hb⟩; have NEW := Lib.hid (HM.out.on hb); clear HM; have HM := NEW; clear NEW; clear c0 c1x c2x c3 c4 c5 c6 c7 c8 c9 c10 c11 y0 y1; obtain ⟨c0, c1x, c2x, c3, c4, c5, c6, c7, c8, c9, c10, c11⟩ := HM.out.b0.cells; have y0 := HM.out.b1.cell 0; have y1 := HM.out.b1.cell 1; clear hb)
      | (go_at_call 23; (with_reducible refine (HWm.out _).mono ?_); rintro e wN ⟨vc, rfl, hv, hb⟩; have NEW := Lib.hid (HM.out.on hb); clear HM; have HM := NEW; clear NEW; clear c0 c1x c2x c3 c4 c5 c6 c7 c8 c9 c10 c11 y0 y1; obtain ⟨c0, c1x, c2x, c3, c4, c5, c6, c7, c8, c9, c10, c11⟩ := HM.out.b0.cells; have y0 := HM.out.b1.cell 0; have y1 := HM.out.b1.cell 1; obtain ⟨P3, d3, rfl, i3⟩ := SpansOut.in_ hv; have I3 := Lib.hid i3; clear hv i3; clear hb)
      | (go_at_call 24; (with_reducible refine (HWr.out _).mono ?_); rintro e wN ⟨vd, rfl, hv, hb⟩; have NEW := Lib.hid (HM.out.on hb); clear HM; have HM := NEW; clear NEW; clear c0 c1x c2x c3 c4 c5 c6 c7 c8 c9 c10 c11 y0 y1; obtain ⟨c0, c1x, c2x, c3, c4, c5, c6, c7, c8, c9, c10, c11⟩ := HM.out.b0.cells; have y0 := HM.out.b1.cell 0; have y1 := HM.out.b1.cell 1; have NI := Lib.hid (I3.out.on hb); clear I3; have I3 := NI; clear NI; obtain ⟨P4, d4, rfl, i4⟩ := SpansOut.in_ hv; have I4 := Lib.hid i4; clear hv i4; clear hb)
      | (go_at_call 25; (with_reducible refine (HST.out _ _ _ _ _ I3.out I4.out).mono ?_); rintro e wN ⟨rfl, hb⟩; have NEW := Lib.hid (HM.out.on hb); clear HM; have HM := NEW; clear NEW; clear c0 c1x c2x c3 c4 c5 c6 c7 c8 c9 c10 c11 y0 y1; obtain ⟨c0, c1x, c2x, c3, c4, c5, c6, c7, c8, c9, c10, c11⟩ := HM.out.b0.cells; have y0 := HM.out.b1.cell 0; have y1 := HM.out.b1.cell 1; clear hb)
      | (go_at_call 26; (with_reducible refine (awake_any _).mono ?_); rintro e wN ⟨rfl, hb⟩; have NEW := Lib.hid (HM.out.on hb); clear HM; have HM := NEW; clear NEW; clear c0 c1x c2x c3 c4 c5 c6 c7 c8 c9 c10 c11 y0 y1; obtain ⟨c0, c1x, c2x, c3, c4, c5, c6, c7, c8, c9, c10, c11⟩ := HM.out.b0.cells; have y0 := HM.out.b1.cell 0; have y1 := HM.out.b1.cell 1; clear hb)
      | fail)
  go_ret
  exact ⟨rfl, HM.out.b0.b⟩
end Go.Proofs.Ytljbjcnfkbmjkaa
