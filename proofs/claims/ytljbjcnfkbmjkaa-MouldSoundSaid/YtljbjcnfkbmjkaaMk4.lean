/- MouldSound: the law. -/
import Derived.Test.YtljbjcnfkbmjkaaGj
namespace Go.Proofs.Ytljbjcnfkbmjkaa
open Go.RowKit Go.Shelf Go.Maps
attribute [local go_sem] Oper.semAt_some

set_option maxRecDepth 100000 in
set_option maxHeartbeats 8000000 in
theorem lsound_any (m : Md) {w : World} {Y1 Y2 : Option Addr} {c1 c2 : Nat} {ps ws : List Int} (hp : U16In w Y1 ps) (hq : U16In w Y2 ws) :
    Calls Try.prog 11 #[.agg #[.int .i64 m.rings, .int .i64 m.give, .int .i64 m.plo, .int .i64 m.phi, .int .i64 m.wlo, .int .i64 m.whi, .int .i64 m.st, .int .i64 m.shrink, .int .i64 m.skin, .int .i64 m.fill, .int .i64 m.gap, .int .i64 m.deep], .agg #[.slice Y1 ps.length c1, .slice Y2 ws.length c2]] w fun e w' => e = .returned (.bool true) ∧ Below w.heap.size w w' := by
  have HM := Lib.hid (LtA.new w m Y1 ps.length c1 Y2 ws.length c2)
  obtain ⟨⟨bl, be⟩, hf⟩ : ∃ x, fewR m = x := ⟨_, rfl⟩
  have HFw := Lib.hid (fun W => few_law hf W)
  rcases few_split hf with ⟨hbe, rfl⟩ | ⟨rfl, hok, hnv, hbest⟩
  · have hz : (be != 0) = true := by simpa using hbe
    generalize ps.length = n1 at *
    generalize ws.length = n2 at *
    clear hp hq hf hbe
    go_enter Try.func11, Try.ntmps11
    obtain ⟨z0, z1, z2, z3, z4, z5, z6, z7, z8, z9, z10, z11⟩ := HM.out.bm.cells
    go_wp2_with (first
      | (go_at_call 33; (with_reducible refine (HFw.out _).mono ?_); rintro e w1 ⟨Af, cf, rfl, _, hb1⟩; have HM1 := Lib.hid (HM.out.on hb1); clear z0 z1 z2 z3 z4 z5 z6 z7 z8 z9 z10 z11; clear hb1)
      | (go_at_call 26; refine (awake_any _).mono ?_; rintro e w5 ⟨rfl, hb⟩; have HM5 := Lib.hid (HM1.out.on hb); clear hb)
      | fail)
    go_ret
    exact ⟨rfl, HM5.out.bm.b⟩
  · obtain ⟨a, ha⟩ : ∃ a, wh m false = a := ⟨_, rfl⟩
    obtain ⟨b, hb⟩ : ∃ b, wh m true = b := ⟨_, rfl⟩
    obtain ⟨N2, hN2⟩ : ∃ N2 : Nat, N2 = 600 := ⟨_, rfl⟩
    have T4 := TrOk.tr (N := N2) hok (by omega) ps ws
    have HT4 := Lib.hid (fun (W : World) (h : Below w.heap.size w W) => truth_law (c1 := c1) (c2 := c2) (N := N2) hok hp hq (by omega) h)
    rw [show ((N2 : Nat) : Int) = 600 by omega] at HT4
    have HW4 := Lib.hid (when_tr hok T4)
    rw [hb] at hnv
    have WO := WOk.of hok ha hb T4 hN2 hnv
    have hck := checkM_ok.2 hok
    have HC := Lib.hid (fun W => rcheck_any m W)
    rw [hck] at HC
    have hpl := hbest.plan
    have hpr := hbest.pours
    rw [ha] at hpr
    have hdp := hbest.deep
    rw [hb] at hdp
    have hd2 := Int.le_trans (WO.holl bl).2 hdp
    obtain ⟨nb, hnb⟩ : ∃ nb : Nat, bl.length = nb := ⟨_, rfl⟩
    have HE := Lib.hid (end_law hok.toMdIn WO.lw hpl rfl hnb)
    have HPo := Lib.hid (pours_law (m := m) WO.lw rfl hnb (WO.pours hpr))
    have HPl := Lib.hid (plan_law (m := m) hnb hpl)
    rw [hnb] at HFw
    generalize whenM m (trL m.plo m.phi ps (kR m)) (trL m.wlo m.whi ws N2) = wl at *
    generalize hollM m wl bl = hx at *
    generalize pourM m wl bl = px at *
    generalize ps.length = n1 at *
    generalize ws.length = n2 at *
    generalize trL m.plo m.phi ps (kR m) = tp at *
    generalize trL m.wlo m.whi ws N2 = tw at *
    clear hp hq hf hok hbest hnv T4 WO hpl hpr hdp hN2 ha hb hck hnb
    go_enter Try.func11, Try.ntmps11
    obtain ⟨z0, z1, z2, z3, z4, z5, z6, z7, z8, z9, z10, z11⟩ := HM.out.bm.cells
    go_wp2_with (first
      | (go_at_call 33; (with_reducible refine (HFw.out _).mono ?_); rintro e w1 ⟨Af, cf, rfl, hi1, hb1⟩; have HM1 := Lib.hid (And.intro (HM.out.on hb1) hi1); clear z0 z1 z2 z3 z4 z5 z6 z7 z8 z9 z10 z11; obtain ⟨z0, z1, z2, z3, z4, z5, z6, z7, z8, z9, z10, z11⟩ := HM1.out.1.bm.cells; clear hb1 hi1)
      | (go_at_call 19; (with_reducible refine (HC.out _).mono ?_); rintro e w3 ⟨rfl, hb3⟩; have H3 := Lib.hid (And.intro (HM1.out.1.on hb3) (HM1.out.2.on hb3)); clear z0 z1 z2 z3 z4 z5 z6 z7 z8 z9 z10 z11; clear hb3)
      | fail)
    refine wp_of_eq (ls4_region (S := fun W => LtA w m Y1 n1 c1 Y2 n2 c2 W ∧ IntsIn W Af bl) (fun W W' h hb => ⟨h.1.on hb, h.2.on hb⟩) (fun W h => h.1.bm) (fun W h => h.1.y) (Lib.hid fun W h => HT4.out W h.1.bm.b) HW4 H3 (Lib.hid fun u4 Ak c4 W4 i4 h4 => ?_)) (by kernel_rfl)
    have H4 := Lib.hid (And.intro h4.1 (And.intro h4.2 i4))
    clear h4 i4 H3 HT4 HW4
    obtain ⟨z0, z1, z2, z3, z4, z5, z6, z7, z8, z9, z10, z11⟩ := H4.out.1.bm.cells
    go_wp2_with (first
      | (go_at_call 43; (with_reducible refine (HPl.out _ _ _ H4.out.2.1).mono ?_); rintro e w5 ⟨rfl, hb5⟩; have H5 := Lib.hid (And.intro (H4.out.1.on hb5) (And.intro (H4.out.2.1.on hb5) (H4.out.2.2.on hb5))); clear z0 z1 z2 z3 z4 z5 z6 z7 z8 z9 z10 z11; obtain ⟨z0, z1, z2, z3, z4, z5, z6, z7, z8, z9, z10, z11⟩ := H5.out.1.bm.cells; clear hb5)
      | (go_at_call 44; (with_reducible refine (HE.out _ _ _ _ _ H5.out.2.2 H5.out.2.1).mono ?_); rintro e w6 ⟨rfl, hb6⟩; have H6 := Lib.hid (And.intro (H5.out.1.on hb6) (And.intro (H5.out.2.1.on hb6) (H5.out.2.2.on hb6))); clear z0 z1 z2 z3 z4 z5 z6 z7 z8 z9 z10 z11; obtain ⟨z0, z1, z2, z3, z4, z5, z6, z7, z8, z9, z10, z11⟩ := H6.out.1.bm.cells; clear hb6)
      | (go_at_call 46; (with_reducible refine (HPo.out _ _ _ _ _ H6.out.2.2 H6.out.2.1).mono ?_); rintro e w7 ⟨rfl, hb7⟩; have H7 := Lib.hid (H6.out.1.on hb7); clear z0 z1 z2 z3 z4 z5 z6 z7 z8 z9 z10 z11; have z11 := H7.out.bm.bk.cell 11; have hl7 := H7.out.bm.bk.lt; clear hb7)
      | (go_at_call 26; refine (awake_any _).mono ?_; rintro e w8 ⟨rfl, hb⟩; have H8 := Lib.hid (H7.out.on hb); clear hb)
      | fail)
    go_ret
    exact ⟨rfl, H8.out.bm.b⟩
end Go.Proofs.Ytljbjcnfkbmjkaa
