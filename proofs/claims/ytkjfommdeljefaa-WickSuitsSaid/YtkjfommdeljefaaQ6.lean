/- ref03.Check: contract. -/
import Derived.Test.YtkjfommdeljefaaQ5
import Derived.Deep.DeepMust
namespace Go.Proofs.Ytkjfommdeljefaa
open Go.RowKit Go.Shelf Go.Maps
attribute [local go_sem] Oper.semAt_some

set_option maxRecDepth 100000 in
set_option maxHeartbeats 4000000 in
theorem rcheck_ok {w : World} {p : Sp} (h : ShIn w p) (R : Int × Int × Int) (hR : R = checkS p.s) (q1 : inB p.s.ks.length 1 12 = true) (q2 : inB p.s.xs.length 1 6 = true) (hb : boundE p.s = 0) :
    Calls Try.prog 15 #[.agg #[.slice p.ka p.s.ks.length p.kc, .slice p.xa p.s.xs.length p.xc, .int .i64 p.s.flo, .int .i64 p.s.fhi, .int .i64 p.s.plo, .int .i64 p.s.phi]] w fun e w' => e = .returned (.tuple #[.int .i64 R.1, .int .i64 R.2.1, .int .i64 R.2.2]) ∧ Below w.heap.size w w' := by
  have hk1 := h.ks.len
  have hx1 := h.xs.len
  have hmax : p.s.ks.length ≤ 12 ∧ p.s.xs.length ≤ 6 := by rw [inB_iff] at q1 q2; omega
  have HR := Lib.hid hR
  have H0 := Lib.hid h
  have hA := (Below.refl _ w).alloc (Nat.le_refl _) (.cells #[.slice p.ka p.s.ks.length p.kc, .slice p.xa p.s.xs.length p.xc, .int .i64 p.s.flo, .int .i64 p.s.fhi, .int .i64 p.s.plo, .int .i64 p.s.phi] 27)
  have HI : Hid (CkJ w (w.alloc (.cells #[.slice p.ka p.s.ks.length p.kc, .slice p.xa p.s.xs.length p.xc, .int .i64 p.s.flo, .int .i64 p.s.fhi, .int .i64 p.s.plo, .int .i64 p.s.phi] 27)) p (.slice none 0 0) []) := ⟨World.ownsRow_nil _ _ _ _, Blk.new _ _ _, hA⟩
  have hs := spans2_call (w.alloc (.cells #[.slice p.ka p.s.ks.length p.kc, .slice p.xa p.s.xs.length p.xc, .int .i64 p.s.flo, .int .i64 p.s.fhi, .int .i64 p.s.plo, .int .i64 p.s.phi] 27)) p.s.flo p.s.fhi p.s.plo p.s.phi 0 0 2000 2000
  rw [← boundE_sp p.s ⟨q1, q2⟩, hb] at hs
  simp only [World.size_alloc] at hs
  have HS := Lib.hid hs
  have HBE := Lib.hid hb
  clear hR h hA hs hb
  go_enter Try.func15, Try.ntmps15
  go_wp2_with (first
    | (go_at_call 45; (with_reducible refine (rin3_any _ _ _ _).mono ?_); rintro e w' ⟨rfl, rfl⟩)
    | (go_at_call 46; (refine HS.out.mono ?_); rintro e w1 ⟨rfl, hb1⟩; have HJ := Lib.hid (HI.out.on (by simpa using hb1)); clear hb1)
    | fail)
  go_loopw [6, 7] (fun v i wr => ∃ k : Nat, k ≤ p.s.ks.length ∧ i = .int .i64 k ∧ Hid (CkJ w wr p v ((p.s.ks.take k).map Wk.nm)) ∧ Hid (∀ i, i < k → wickE p.s.ks i = 0)) (fun _ i _ => p.s.ks.length - (intOf i).toNat)
  case atStart => exact ⟨0, by omega, rfl, HJ, fun i hi => absurd hi (by omega)⟩
  case round =>
    obtain ⟨k, hk, rfl, HK, HN⟩ := hrel
    have hlen : ((p.s.ks.take k).map Wk.nm).length = k := by simp; omega
    obtain ⟨A, c, hv⟩ := own_slice HK.out.own
    rw [hlen] at hv
    subst hv
    have s0 := HK.out.box.cell 0
    have s1 := HK.out.box.cell 1
    have hbw := HK.out.bel
    by_cases hlt : k < p.s.ks.length
    · obtain ⟨x, hx⟩ : ∃ x, p.s.ks[k]? = some x := ⟨p.s.ks[k], List.getElem?_eq_getElem hlt⟩
      obtain ⟨b, o, hka, _, c0, c1, c2, c3⟩ := wks_at (H0.out.on hbw).ks.at_ hx
      have s2 := HK.out.own.reads.2.1
      have s4 := HK.out.own.reads.2.2.2
      have HX := Lib.hid hx
      have HP := Lib.hid (wickE_at hx)
      have HC : Hid (∀ W, Below wr.heap.size wr W → Calls Try.prog 47 #[.string x.nm, .slice A k c] W fun e w' => e = .returned (.int .i64 (nameErr ((p.s.ks.take k).map Wk.nm) x.nm)) ∧ w' = W) := fun W hW => by
        have := rnamed_any (w := W) (c := c) x.nm (H0.out.ks.nm x (List.mem_of_getElem? hx)) ((RowAt.below s2 hW (Nat.le_refl _)).mono hW.size) (by unfold maxLen at s4; omega)
        rwa [hlen] at this
      have HL := Lib.hid hlen
      have hwr : Below wr.heap.size wr (wr.alloc (.cells #[.string x.nm, .int .i64 x.th, .int .i64 x.plo, .int .i64 x.phi] 74)) := (Below.refl _ wr).alloc (Nat.le_refl _) _
      have HA := Lib.hid (HC.out _ hwr)
      have z0 := (Blk.new wr 74 #[.string x.nm, .int .i64 x.th, .int .i64 x.plo, .int .i64 x.phi]).cell 0
      have zl := (Blk.new wr 74 #[.string x.nm, .int .i64 x.th, .int .i64 x.plo, .int .i64 x.phi]).lt
      have HV := Lib.hid (rspan_any (x.plo, x.phi) 1 1000)
      clear hx s2 s4 hlen HC hwr
      generalize nameErr ((p.s.ks.take k).map Wk.nm) x.nm = z at *
      generalize spanErr (x.plo, x.phi) 1 1000 = e at *
      have hkm : k < 1000000 := by have := hmax; omega
      have hka2 : p.ka = p.ka := rfl
      rw [hka] at s0
      clear hka hka2
      by_cases hz : z = 0
      · subst hz
        cases hin : inB x.th 1 100 with
        | false =>
          have HRR : Hid (R = (2, (k : Int), 7)) := by
            have hq : wickE p.s.ks k = 7 := by rw [HP.out, hin]; simp
            show R = _
            rw [HR.out]
            unfold checkS checkOf
            rw [HBE.out, if_neg (by decide), firstAt_hit (k := k) HN.out hlt (by rw [hq]; decide), hq]
          clear HP
          go_wp2_with (first
            | (go_at_call 47; (refine HA.out.mono ?_); rintro e w9 ⟨rfl, rfl⟩)
            | (at_builtin; go_must (refine app_strs rfl _ _ rfl (l := (p.s.ks.take k).map Wk.nm) rfl (own_below HK.out.own (((Below.refl _ wr).alloc (Nat.le_refl _) _).alloc (by simp) _)) x.nm rfl (Blk.new1 _ _ _ _) (by rw [HL.out]; exact hkm) (by have := HK.out.box.lt; simp; omega) ?_); intro g cap w2 h1 h2 h3; simp only [HL.out] at h1 ⊢; obtain ⟨J1, J2⟩ := HK.out.more h1 h3; have HK2 := Lib.hid J1; have y0 := J2.cell 0; have y1 := J2.cell 1; have y2 := J2.cell 2; have y3 := J2.cell 3; have yl := J2.lt; clear h1 h2 h3 J1 J2)
            | (go_at_call 45; (with_reducible refine (rin3_any _ _ _ _).mono ?_); rintro e w' ⟨rfl, rfl⟩)
            | (go_at_call 48; (with_reducible refine (HV.out _).mono ?_); rintro e w3 ⟨rfl, hb3⟩; have HK3 := Lib.hid (HK2.out.on hb3); clear hb3)
            | fail)
          go_ret3
          exact ⟨ret3 HRR.out, HK2.out.bel⟩
        | true =>
          by_cases he : e = 0
          · subst he
            have HZ := Lib.hid (show wickE p.s.ks k = 0 by rw [HP.out, hin]; simp)
            clear HP
            go_wp2_with (first
              | (go_at_call 47; (refine HA.out.mono ?_); rintro e w9 ⟨rfl, rfl⟩)
              | (at_builtin; go_must (refine app_strs rfl _ _ rfl (l := (p.s.ks.take k).map Wk.nm) rfl (own_below HK.out.own (((Below.refl _ wr).alloc (Nat.le_refl _) _).alloc (by simp) _)) x.nm rfl (Blk.new1 _ _ _ _) (by rw [HL.out]; exact hkm) (by have := HK.out.box.lt; simp; omega) ?_); intro g cap w2 h1 h2 h3; simp only [HL.out] at h1 ⊢; obtain ⟨J1, J2⟩ := HK.out.more h1 h3; have HK2 := Lib.hid J1; have y0 := J2.cell 0; have y1 := J2.cell 1; have y2 := J2.cell 2; have y3 := J2.cell 3; have yl := J2.lt; clear h1 h2 h3 J1 J2)
              | (go_at_call 45; (with_reducible refine (rin3_any _ _ _ _).mono ?_); rintro e w' ⟨rfl, rfl⟩)
              | (go_at_call 48; (with_reducible refine (HV.out _).mono ?_); rintro e w3 ⟨rfl, hb3⟩; have HK3 := Lib.hid (HK2.out.on hb3); clear hb3)
              | fail)
            go_roundw
            case rel => exact ⟨k + 1, by omega, by go_num, by
              show CkJ _ _ _ _ _
              rw [map_take_one _ HX.out]
              exact HK3.out, fun i hi => by
              by_cases hik : i = k
              · subst hik; exact HZ.out
              · exact HN.out i (by omega)⟩
            case measure => simp [intOf]; omega
          · have he1 : (e != 0) = true := by simpa using he
            have he2 : (e == 0) = false := by simpa using he
            have HRR : Hid (R = (2, (k : Int), e)) := by
              have hq : wickE p.s.ks k = e := by rw [HP.out, hin]; simp
              show R = _
              rw [HR.out]
              unfold checkS checkOf
              rw [HBE.out, if_neg (by decide), firstAt_hit (k := k) HN.out hlt (by rw [hq]; exact he), hq]
            clear HP
            go_wp2_with (first
              | (go_at_call 47; (refine HA.out.mono ?_); rintro e w9 ⟨rfl, rfl⟩)
              | (at_builtin; go_must (refine app_strs rfl _ _ rfl (l := (p.s.ks.take k).map Wk.nm) rfl (own_below HK.out.own (((Below.refl _ wr).alloc (Nat.le_refl _) _).alloc (by simp) _)) x.nm rfl (Blk.new1 _ _ _ _) (by rw [HL.out]; exact hkm) (by have := HK.out.box.lt; simp; omega) ?_); intro g cap w2 h1 h2 h3; simp only [HL.out] at h1 ⊢; obtain ⟨J1, J2⟩ := HK.out.more h1 h3; have HK2 := Lib.hid J1; have y0 := J2.cell 0; have y1 := J2.cell 1; have y2 := J2.cell 2; have y3 := J2.cell 3; have yl := J2.lt; clear h1 h2 h3 J1 J2)
              | (go_at_call 45; (with_reducible refine (rin3_any _ _ _ _).mono ?_); rintro e w' ⟨rfl, rfl⟩)
              | (go_at_call 48; (with_reducible refine (HV.out _).mono ?_); rintro e w3 ⟨rfl, hb3⟩; have HK3 := Lib.hid (HK2.out.on hb3); clear hb3)
              | fail)
            go_ret3
            exact ⟨ret3 HRR.out, HK3.out.bel⟩
      · have hz1 : (z != 0) = true := by simpa using hz
        have hz2 : (z == 0) = false := by simpa using hz
        have HRR : Hid (R = (2, (k : Int), z)) := by
          have hq : wickE p.s.ks k = z := by rw [HP.out, if_pos hz]
          show R = _
          rw [HR.out]
          unfold checkS checkOf
          rw [HBE.out, if_neg (by decide), firstAt_hit (k := k) HN.out hlt (by rw [hq]; exact hz), hq]
        clear HP
        go_wp2_with (first
          | (go_at_call 47; (refine HA.out.mono ?_); rintro e w9 ⟨rfl, rfl⟩)
          | (at_builtin; go_must (refine app_strs rfl _ _ rfl (l := (p.s.ks.take k).map Wk.nm) rfl (own_below HK.out.own (((Below.refl _ wr).alloc (Nat.le_refl _) _).alloc (by simp) _)) x.nm rfl (Blk.new1 _ _ _ _) (by rw [HL.out]; exact hkm) (by have := HK.out.box.lt; simp; omega) ?_); intro g cap w2 h1 h2 h3; simp only [HL.out] at h1 ⊢; obtain ⟨J1, J2⟩ := HK.out.more h1 h3; have HK2 := Lib.hid J1; have y0 := J2.cell 0; have y1 := J2.cell 1; have y2 := J2.cell 2; have y3 := J2.cell 3; have yl := J2.lt; clear h1 h2 h3 J1 J2)
          | (go_at_call 45; (with_reducible refine (rin3_any _ _ _ _).mono ?_); rintro e w' ⟨rfl, rfl⟩)
          | (go_at_call 48; (with_reducible refine (HV.out _).mono ?_); rintro e w3 ⟨rfl, hb3⟩; have HK3 := Lib.hid (HK2.out.on hb3); clear hb3)
          | fail)
        go_ret3
        exact ⟨ret3 HRR.out, HK2.out.bel⟩
    · have HF0 := Lib.hid (firstAt_none (f := wickE p.s.ks) (n := p.s.ks.length) (fun i hi => HN.out i (by omega)))
      have HF : Hid (firstAt (wickE p.s.ks) p.s.ks.length = none) := HF0
      have HJ := Lib.hid HK.out.nil
      clear HF0 HN
      go_wp2_with fail
      obtain ⟨wo, rfl⟩ : ∃ wo : World, wo = wr := ⟨_, rfl⟩
      clear s0 s1 hbw HK
      go_loopw [6, 9] (fun v i wr => ∃ k : Nat, k ≤ p.s.xs.length ∧ i = .int .i64 k ∧ Hid (CkJ w wr p v ((p.s.xs.take k).map Wx.nm)) ∧ Hid (∀ i, i < k → waxE p.s.xs i = 0)) (fun _ i _ => p.s.xs.length - (intOf i).toNat)
      case atStart => exact ⟨0, by omega, rfl, HJ, fun i hi => absurd hi (by omega)⟩
      case round =>
        obtain ⟨k, hk, rfl, HK, HN⟩ := hrel
        have hlen : ((p.s.xs.take k).map Wx.nm).length = k := by simp; omega
        obtain ⟨A, c, hv⟩ := own_slice HK.out.own
        rw [hlen] at hv
        subst hv
        have s0 := HK.out.box.cell 0
        have s1 := HK.out.box.cell 1
        have hbw := HK.out.bel
        by_cases hlt : k < p.s.xs.length
        · obtain ⟨x, hx⟩ : ∃ x, p.s.xs[k]? = some x := ⟨p.s.xs[k], List.getElem?_eq_getElem hlt⟩
          obtain ⟨b, o, hka, _, c0, c1, c2, c3, c4, c5, c6, c7⟩ := wxs_at (H0.out.on hbw).xs.at_ hx
          have s2 := HK.out.own.reads.2.1
          have s4 := HK.out.own.reads.2.2.2
          have HX := Lib.hid hx
          have HP := Lib.hid (waxE_at hx)
          have HC : Hid (∀ W, Below wr.heap.size wr W → Calls Try.prog 47 #[.string x.nm, .slice A k c] W fun e w' => e = .returned (.int .i64 (nameErr ((p.s.xs.take k).map Wx.nm) x.nm)) ∧ w' = W) := fun W hW => by
            have := rnamed_any (w := W) (c := c) x.nm (H0.out.xs.nm x (List.mem_of_getElem? hx)) ((RowAt.below s2 hW (Nat.le_refl _)).mono hW.size) (by unfold maxLen at s4; omega)
            rwa [hlen] at this
          have HL := Lib.hid hlen
          have hwr : Below wr.heap.size wr (wr.alloc (.cells #[.string x.nm, .int .i64 x.flo, .int .i64 x.fhi, .int .i64 x.rlo, .int .i64 x.rhi, .int .i64 x.slo, .int .i64 x.shi, .int .i64 x.ch] 80)) := (Below.refl _ wr).alloc (Nat.le_refl _) _
          have HA := Lib.hid (HC.out _ hwr)
          have z0 := (Blk.new wr 80 #[.string x.nm, .int .i64 x.flo, .int .i64 x.fhi, .int .i64 x.rlo, .int .i64 x.rhi, .int .i64 x.slo, .int .i64 x.shi, .int .i64 x.ch]).cell 0
          have zl := (Blk.new wr 80 #[.string x.nm, .int .i64 x.flo, .int .i64 x.fhi, .int .i64 x.rlo, .int .i64 x.rhi, .int .i64 x.slo, .int .i64 x.shi, .int .i64 x.ch]).lt
          have HV := Lib.hid (fun W => spans3_call W x.flo x.fhi x.rlo x.rhi x.slo x.shi 1 1 1 300 1000 2000)
          clear hx s2 s4 hlen HC hwr
          generalize nameErr ((p.s.xs.take k).map Wx.nm) x.nm = z at *
          generalize spStep (spStep (spStep 0 (spanErr (x.flo, x.fhi) 1 300)) (spanErr (x.rlo, x.rhi) 1 1000)) (spanErr (x.slo, x.shi) 1 2000) = e at *
          have hkm : k < 1000000 := by have := hmax; omega
          have hka2 : p.xa = p.xa := rfl
          rw [hka] at s1
          clear hka hka2
          by_cases hz : z = 0
          · subst hz
            cases hin : inB x.ch 0 50 with
            | false =>
              have HRR : Hid (R = (3, (k : Int), 7)) := by
                have hq : waxE p.s.xs k = 7 := by rw [HP.out, hin]; simp
                show R = _
                rw [HR.out]
                unfold checkS checkOf
                rw [HBE.out, if_neg (by decide), HF.out, firstAt_hit (k := k) HN.out hlt (by rw [hq]; decide), hq]
              clear HP
              go_wp2_with (first
                | (go_at_call 47; (refine HA.out.mono ?_); rintro e w9 ⟨rfl, rfl⟩)
                | (at_builtin; go_must (refine app_strs rfl _ _ rfl (l := (p.s.xs.take k).map Wx.nm) rfl (own_below HK.out.own (((Below.refl _ wr).alloc (Nat.le_refl _) _).alloc (by simp) _)) x.nm rfl (Blk.new1 _ _ _ _) (by rw [HL.out]; exact hkm) (by have := HK.out.box.lt; simp; omega) ?_); intro g cap w2 h1 h2 h3; simp only [HL.out] at h1 ⊢; obtain ⟨J1, J2⟩ := HK.out.more h1 h3; have HK2 := Lib.hid J1; have y0 := J2.cell 0; have y1 := J2.cell 1; have y2 := J2.cell 2; have y3 := J2.cell 3; have y4 := J2.cell 4; have y5 := J2.cell 5; have y6 := J2.cell 6; have y7 := J2.cell 7; have yl := J2.lt; clear h1 h2 h3 J1 J2)
                | (go_at_call 45; (with_reducible refine (rin3_any _ _ _ _).mono ?_); rintro e w' ⟨rfl, rfl⟩)
                | (go_at_call 46; (refine (HV.out _).mono ?_); rintro e w3 ⟨rfl, hb3⟩; have HK3 := Lib.hid (HK2.out.on hb3); clear hb3)
                | fail)
              go_ret3
              exact ⟨ret3 HRR.out, HK2.out.bel⟩
            | true =>
              by_cases he : e = 0
              · subst he
                have HZ := Lib.hid (show waxE p.s.xs k = 0 by rw [HP.out, hin]; simp)
                clear HP
                go_wp2_with (first
                  | (go_at_call 47; (refine HA.out.mono ?_); rintro e w9 ⟨rfl, rfl⟩)
                  | (at_builtin; go_must (refine app_strs rfl _ _ rfl (l := (p.s.xs.take k).map Wx.nm) rfl (own_below HK.out.own (((Below.refl _ wr).alloc (Nat.le_refl _) _).alloc (by simp) _)) x.nm rfl (Blk.new1 _ _ _ _) (by rw [HL.out]; exact hkm) (by have := HK.out.box.lt; simp; omega) ?_); intro g cap w2 h1 h2 h3; simp only [HL.out] at h1 ⊢; obtain ⟨J1, J2⟩ := HK.out.more h1 h3; have HK2 := Lib.hid J1; have y0 := J2.cell 0; have y1 := J2.cell 1; have y2 := J2.cell 2; have y3 := J2.cell 3; have y4 := J2.cell 4; have y5 := J2.cell 5; have y6 := J2.cell 6; have y7 := J2.cell 7; have yl := J2.lt; clear h1 h2 h3 J1 J2)
                  | (go_at_call 45; (with_reducible refine (rin3_any _ _ _ _).mono ?_); rintro e w' ⟨rfl, rfl⟩)
                  | (go_at_call 46; (refine (HV.out _).mono ?_); rintro e w3 ⟨rfl, hb3⟩; have HK3 := Lib.hid (HK2.out.on hb3); clear hb3)
                  | fail)
                go_roundw
                case rel => exact ⟨k + 1, by omega, by go_num, by
                  show CkJ _ _ _ _ _
                  rw [map_take_one _ HX.out]
                  exact HK3.out, fun i hi => by
                  by_cases hik : i = k
                  · subst hik; exact HZ.out
                  · exact HN.out i (by omega)⟩
                case measure => simp [intOf]; omega
              · have he1 : (e != 0) = true := by simpa using he
                have he2 : (e == 0) = false := by simpa using he
                have HRR : Hid (R = (3, (k : Int), e)) := by
                  have hq : waxE p.s.xs k = e := by rw [HP.out, hin]; simp
                  show R = _
                  rw [HR.out]
                  unfold checkS checkOf
                  rw [HBE.out, if_neg (by decide), HF.out, firstAt_hit (k := k) HN.out hlt (by rw [hq]; exact he), hq]
                clear HP
                go_wp2_with (first
                  | (go_at_call 47; (refine HA.out.mono ?_); rintro e w9 ⟨rfl, rfl⟩)
                  | (at_builtin; go_must (refine app_strs rfl _ _ rfl (l := (p.s.xs.take k).map Wx.nm) rfl (own_below HK.out.own (((Below.refl _ wr).alloc (Nat.le_refl _) _).alloc (by simp) _)) x.nm rfl (Blk.new1 _ _ _ _) (by rw [HL.out]; exact hkm) (by have := HK.out.box.lt; simp; omega) ?_); intro g cap w2 h1 h2 h3; simp only [HL.out] at h1 ⊢; obtain ⟨J1, J2⟩ := HK.out.more h1 h3; have HK2 := Lib.hid J1; have y0 := J2.cell 0; have y1 := J2.cell 1; have y2 := J2.cell 2; have y3 := J2.cell 3; have y4 := J2.cell 4; have y5 := J2.cell 5; have y6 := J2.cell 6; have y7 := J2.cell 7; have yl := J2.lt; clear h1 h2 h3 J1 J2)
                  | (go_at_call 45; (with_reducible refine (rin3_any _ _ _ _).mono ?_); rintro e w' ⟨rfl, rfl⟩)
                  | (go_at_call 46; (refine (HV.out _).mono ?_); rintro e w3 ⟨rfl, hb3⟩; have HK3 := Lib.hid (HK2.out.on hb3); clear hb3)
                  | fail)
                go_ret3
                exact ⟨ret3 HRR.out, HK3.out.bel⟩
          · have hz1 : (z != 0) = true := by simpa using hz
            have hz2 : (z == 0) = false := by simpa using hz
            have HRR : Hid (R = (3, (k : Int), z)) := by
              have hq : waxE p.s.xs k = z := by rw [HP.out, if_pos hz]
              show R = _
              rw [HR.out]
              unfold checkS checkOf
              rw [HBE.out, if_neg (by decide), HF.out, firstAt_hit (k := k) HN.out hlt (by rw [hq]; exact hz), hq]
            clear HP
            go_wp2_with (first
              | (go_at_call 47; (refine HA.out.mono ?_); rintro e w9 ⟨rfl, rfl⟩)
              | (at_builtin; go_must (refine app_strs rfl _ _ rfl (l := (p.s.xs.take k).map Wx.nm) rfl (own_below HK.out.own (((Below.refl _ wr).alloc (Nat.le_refl _) _).alloc (by simp) _)) x.nm rfl (Blk.new1 _ _ _ _) (by rw [HL.out]; exact hkm) (by have := HK.out.box.lt; simp; omega) ?_); intro g cap w2 h1 h2 h3; simp only [HL.out] at h1 ⊢; obtain ⟨J1, J2⟩ := HK.out.more h1 h3; have HK2 := Lib.hid J1; have y0 := J2.cell 0; have y1 := J2.cell 1; have y2 := J2.cell 2; have y3 := J2.cell 3; have y4 := J2.cell 4; have y5 := J2.cell 5; have y6 := J2.cell 6; have y7 := J2.cell 7; have yl := J2.lt; clear h1 h2 h3 J1 J2)
              | (go_at_call 45; (with_reducible refine (rin3_any _ _ _ _).mono ?_); rintro e w' ⟨rfl, rfl⟩)
              | (go_at_call 46; (refine (HV.out _).mono ?_); rintro e w3 ⟨rfl, hb3⟩; have HK3 := Lib.hid (HK2.out.on hb3); clear hb3)
              | fail)
            go_ret3
            exact ⟨ret3 HRR.out, HK2.out.bel⟩
        · have HF0 := Lib.hid (firstAt_none (f := waxE p.s.xs) (n := p.s.xs.length) (fun i hi => HN.out i (by omega)))
          have HRR : Hid (R = (0, 0, 0)) := by
            show R = _
            rw [HR.out]
            unfold checkS checkOf
            rw [HBE.out, if_neg (by decide), HF.out, HF0.out]
          clear HF0 HF
          go_wp2_with fail
          go_ret3
          exact ⟨ret3 HRR.out, hbw⟩
end Go.Proofs.Ytkjfommdeljefaa
