/- MouldWarmer: the law. -/
import Derived.Test.YtljbjcnfkbmjkaaGp
namespace Go.Proofs.Ytljbjcnfkbmjkaa
open Go.RowKit Go.Shelf Go.Maps
attribute [local go_sem] Oper.semAt_some

/-- .. when both truths are there. -/
structure TwF (w : World) (m : Md) (Y1 : Option Addr) (n1 c1 : Nat) (Y2 : Option Addr) (n2 c2 : Nat) (Y3 : Option Addr) (n3 c3 : Nat) (Y4 : Option Addr) (n4 c4 : Nat) (T : Nat) (B1 : Option Addr) (k1 d1 : Nat) (tp : List Int) (B2 : Option Addr) (k2 d2 : Nat) (tw : List Int) (E1 : Option Addr) (g1 : Nat) (up : List Int) (E2 : Option Addr) (g2 : Nat) (uw : List Int) (W : World) : Prop where
  c : TwC w m Y1 n1 c1 Y2 n2 c2 Y3 n3 c3 Y4 n4 c4 T B1 k1 d1 tp B2 k2 d2 tw (.slice E1 k1 g1) (.slice E2 k2 g2) W
  t1 : IntsIn W B1 tp
  t2 : IntsIn W B2 tw
  u1 : IntsIn W E1 up
  u2 : IntsIn W E2 uw
theorem TwF.on {w W W' : World} {m : Md} {Y1 Y2 Y3 Y4 : Option Addr} {n1 c1 n2 c2 n3 c3 n4 c4 T : Nat} {B1 B2 : Option Addr} {k1 d1 k2 d2 : Nat} {tp tw : List Int} {E1 E2 : Option Addr} {g1 g2 : Nat} {up uw : List Int} (h : TwF w m Y1 n1 c1 Y2 n2 c2 Y3 n3 c3 Y4 n4 c4 T B1 k1 d1 tp B2 k2 d2 tw E1 g1 up E2 g2 uw W) (hb : Below W.heap.size W W') : TwF w m Y1 n1 c1 Y2 n2 c2 Y3 n3 c3 Y4 n4 c4 T B1 k1 d1 tp B2 k2 d2 tw E1 g1 up E2 g2 uw W' := ⟨h.c.on hb, h.t1.on hb, h.t2.on hb, h.u1.on hb, h.u2.on hb⟩
set_option maxRecDepth 100000 in
set_option maxHeartbeats 8000000 in
theorem lwarmer_any (m : Md) (x : Int) (hx : 0 ≤ x ∧ x ≤ 65535) {w : World} {Y1 Y2 Y3 Y4 : Option Addr} {c1 c2 c3 c4 : Nat} {ps ws qs vs : List Int} (hp : U16In w Y1 ps) (hq : U16In w Y2 ws) (hp2 : U16In w Y3 qs) (hq2 : U16In w Y4 vs) :
    Calls Try.prog 13 #[.agg #[.int .i64 m.rings, .int .i64 m.give, .int .i64 m.plo, .int .i64 m.phi, .int .i64 m.wlo, .int .i64 m.whi, .int .i64 m.st, .int .i64 m.shrink, .int .i64 m.skin, .int .i64 m.fill, .int .i64 m.gap, .int .i64 m.deep], .int .u16 x, .agg #[.slice Y1 ps.length c1, .slice Y2 ws.length c2, .slice Y3 qs.length c3, .slice Y4 vs.length c4]] w fun e w' => e = .returned (.bool true) ∧ Below w.heap.size w w' := by
  have HM : Hid (MdBk w w.heap.size 25 m ((w.alloc (.cells #[.int .i64 m.rings, .int .i64 m.give, .int .i64 m.plo, .int .i64 m.phi, .int .i64 m.wlo, .int .i64 m.whi, .int .i64 m.st, .int .i64 m.shrink, .int .i64 m.skin, .int .i64 m.fill, .int .i64 m.gap, .int .i64 m.deep] 25)).alloc (.cells #[.slice Y1 ps.length c1, .slice Y2 ws.length c2, .slice Y3 qs.length c3, .slice Y4 vs.length c4] 73)) ∧ Blk ((w.alloc (.cells #[.int .i64 m.rings, .int .i64 m.give, .int .i64 m.plo, .int .i64 m.phi, .int .i64 m.wlo, .int .i64 m.whi, .int .i64 m.st, .int .i64 m.shrink, .int .i64 m.skin, .int .i64 m.fill, .int .i64 m.gap, .int .i64 m.deep] 25)).alloc (.cells #[.slice Y1 ps.length c1, .slice Y2 ws.length c2, .slice Y3 qs.length c3, .slice Y4 vs.length c4] 73)) (w.heap.size + 1) 73 #[.slice Y1 ps.length c1, .slice Y2 ws.length c2, .slice Y3 qs.length c3, .slice Y4 vs.length c4]) :=
    ⟨⟨(Blk.new w _ _).alloc _, ((Below.refl _ w).alloc (Nat.le_refl _) _).alloc (by simp) _⟩, Blk.new1 w _ _ _⟩
  have HC := Lib.hid (fun W => rcheck_any m W)
  by_cases hck : checkM m = 0
  · rw [hck] at HC
    have hok := checkM_ok.1 hck
    obtain ⟨N, hN⟩ : ∃ N : Nat, x % 601 = (N : Int) := ⟨(x % 601).toNat, by omega⟩
    have hN6 : N ≤ 600 := by omega
    have HTr := Lib.hid (fun (W : World) (h : Below w.heap.size w W) => truth_law (c1 := c1) (c2 := c2) (N := N) hok hp hq hN6 h)
    have T1 := TrOk.tr (N := N) hok hN6 ps ws
    generalize trL m.plo m.phi ps (kR m) = tp at *
    generalize trL m.wlo m.whi ws N = tw at *
    have T2 : TrOk m N (upL m.phi tp qs (kR m)) (upL m.whi tw vs N) := ⟨upL_length _ _ _ _, upL_length _ _ _ _, hN6, upL_rng hok.pour T1.lp T1.p hp2.rng, upL_rng hok.wall T1.lw T1.q hq2.rng⟩
    have L1 := upL_le (l := qs) T1.lp (fun x hx => (T1.p x hx).2) hp2.rng
    have L2 := upL_le (l := vs) T1.lw (fun x hx => (T1.q x hx).2) hq2.rng
    have HL := Lib.hid (afterL_mono (by have := hok.give; omega) hok.give.2 L2 L1)
    have HW := Lib.hid (whenM_mono hok.toMdIn L1 L2)
    have HCa := Lib.hid (cool_tr hok T1)
    have HCb := Lib.hid (cool_tr hok T2)
    have HPw := Lib.hid (when_tr hok T1)
    have HQw := Lib.hid (when_tr hok T2)
    have hal : Hid ((afterL m.give tp tw).length = kR m) := by show _ = _; rw [afterL_length, T1.lp]
    have hbl : Hid ((afterL m.give (upL m.phi tp qs (kR m)) (upL m.whi tw vs N)).length = kR m) := by show _ = _; rw [afterL_length, T2.lp]
    have hpl : Hid ((whenM m tp tw).length = kR m) := by show _ = _; rw [whenM_length, T1.lp]
    have hql : Hid ((whenM m (upL m.phi tp qs (kR m)) (upL m.whi tw vs N)).length = kR m) := by show _ = _; rw [whenM_length, T2.lp]
    have HR : Hid (m.rings = ((kR m : Nat) : Int)) := (kR_eq hok.toMdIn).symm
    have hk8 : kR m ≤ 8 := (kR_le hok.toMdIn).2
    obtain ⟨n3, hn3⟩ : ∃ n3, qs.length = n3 := ⟨_, rfl⟩
    obtain ⟨n4, hn4⟩ : ∃ n4, vs.length = n4 := ⟨_, rfl⟩
    have HT3 := Lib.hid (show ∀ (k : Nat), k ≤ 100000 → ∀ W, U16In W Y3 qs → Calls Try.prog 47 #[.slice Y3 n3 c3, .int .i64 (k : Int)] W fun e w' => e = .returned (.int .i64 (turnV qs k)) ∧ w' = W from fun k hk W h => by subst hn3; exact lturn_any h k hk)
    have HT4 := Lib.hid (show ∀ (k : Nat), k ≤ 100000 → ∀ W, U16In W Y4 vs → Calls Try.prog 47 #[.slice Y4 n4 c4, .int .i64 (k : Int)] W fun e w' => e = .returned (.int .i64 (turnV vs k)) ∧ w' = W from fun k hk W h => by subst hn4; exact lturn_any h k hk)
    have HO := Lib.hid hok
    have HT1 := Lib.hid T1
    have HP3 := Lib.hid hp2
    have HP4 := Lib.hid hq2
    rw [hn3, hn4] at HM
    rw [hn3, hn4]
    generalize ps.length = n1 at *
    generalize ws.length = n2 at *
    generalize afterL m.give tp tw = al at *
    generalize afterL m.give (upL m.phi tp qs (kR m)) (upL m.whi tw vs N) = bl at *
    generalize whenM m tp tw = pl at *
    generalize whenM m (upL m.phi tp qs (kR m)) (upL m.whi tw vs N) = ql at *
    clear hck hok hp hq hp2 hq2 T1 T2 L1 L2 hn3 hn4
    go_enter Try.func13, Try.ntmps13
    obtain ⟨z0, z1, z2, z3, z4, z5, z6, z7, z8, z9, z10, z11⟩ := HM.out.1.cells
    go_wp2_with (first
      | (go_at_call 19; (with_reducible refine (HC.out _).mono ?_); rintro e w1 ⟨rfl, hb⟩; have H1 := Lib.hid (And.intro (HM.out.1.on hb) (HM.out.2.on hb)); clear z0 z1 z2 z3 z4 z5 z6 z7 z8 z9 z10 z11; obtain ⟨z0, z1, z2, z3, z4, z5, z6, z7, z8, z9, z10, z11⟩ := H1.out.1.cells; have y0 := H1.out.2.cell 0; have y1 := H1.out.2.cell 1; have yl := H1.out.2.lt; clear hb)
      | (go_at_call 38; (with_reducible refine (HTr.out _ H1.out.1.b).mono ?_); rintro e w2 ⟨B1, d1, B2, d2, rfl, i1, i2, hb⟩; have HS0 : Hid (TwB1 w m Y1 n1 c1 Y2 n2 c2 Y3 n3 c3 Y4 n4 c4 w2.heap.size B1 (kR m) d1 tp B2 N d2 tw (.slice none 0 0) [] ((w2.alloc (.cells #[.slice B1 (kR m) d1, .slice B2 N d2] 28)).alloc (.cells #[.slice none 0 0, .slice none 0 0] 28))) := ⟨⟨((H1.out.1.on hb).on ((Below.refl _ _).alloc (Nat.le_refl _) _)).on ((Below.refl _ _).alloc (Nat.le_refl _) _), ((H1.out.2.on hb).on ((Below.refl _ _).alloc (Nat.le_refl _) _)).on ((Below.refl _ _).alloc (Nat.le_refl _) _), (Blk.new w2 _ _).alloc _, Blk.new1 w2 _ _ _, RowAt.below i1.at_ (((Below.refl _ _).alloc (Nat.le_refl _) _).alloc (by simp) _) (Nat.le_refl _), RowAt.below i2.at_ (((Below.refl _ _).alloc (Nat.le_refl _) _).alloc (by simp) _) (Nat.le_refl _), (H1.out.2.on hb).lt⟩, IntsOut.nil _ _⟩; clear z0 z1 z2 z3 z4 z5 z6 z7 z8 z9 z10 z11 y0 y1 yl; clear hb i1 i2)
      | fail)
    clear hN
    go_loopw [10] (fun i W => ∃ (k : Nat) (v : Value), k ≤ kR m ∧ i = .int .i64 k ∧ Hid (TwB1 w m Y1 n1 c1 Y2 n2 c2 Y3 n3 c3 Y4 n4 c4 w2.heap.size B1 (kR m) d1 tp B2 N d2 tw v (upL m.phi tp qs k) W)) (fun i _ => kR m - (intOf i).toNat)
    case atStart => exact ⟨0, _, Nat.zero_le _, rfl, HS0⟩
    case round =>
      obtain ⟨k, v, hk, rfl, HS⟩ := hrel
      clear HS0
      have t0 := HS.out.c.t.cell 0
      have tl := HS.out.c.t.lt
      by_cases hlt : k < kR m
      · have hlt' : (k : Int) < kR m := by omega
        obtain ⟨A, c, rfl⟩ := own_slice HS.out.o
        obtain ⟨xx, hxx⟩ : ∃ y, tp[k]? = some y := ⟨tp[k]'(by rw [HT1.out.lp]; exact hlt), List.getElem?_eq_getElem _⟩
        obtain ⟨bb, oo, rfl, _, _⟩ := ints_at HS.out.c.i1 hxx
        have hr2 := HT1.out.p xx (List.mem_of_getElem? hxx)
        have hr3 := HO.out.plo
        have hr4 := HO.out.phi
        have hx20 : 0 ≤ xx ∧ xx ≤ 2000 := by omega
        have HXX := Lib.hid hxx
        clear hxx hr2 hr3 hr4
        go_wp2_with fail
        refine wp_of_eq (lm9_region (l := upL m.phi tp qs k) HXX.out hx20 hlt' HP3.out (turnV_rng HP3.out.rng k) (Lib.hid (HT3.out k (by omega))) (by rw [upL_length]; omega) HS (Lib.hid fun u5 W5 h5 => ?_)) (by kernel_rfl)
        obtain ⟨v5, h5⟩ := h5
        have H5 := Lib.hid h5
        clear h5
        go_wp2_with fail
        go_roundw
        case rel => exact ⟨k + 1, v5, Nat.succ_le_of_lt hlt, by go_num, by have h := H5.out; rw [← upL_succ HXX.out] at h; exact h⟩
        case measure => exact meas_one hlt
      · obtain rfl : k = kR m := by omega
        have hn2 : ¬ ((kR m : Int) < kR m) := by omega
        have HU0 := Lib.hid HS.out.turn
        obtain ⟨A, c, hv⟩ := own_slice HS.out.o
        go_wp2_with fail
        clear HS t0 tl hv
        generalize hX : wr.heap.size = X at *
        go_loopw [11] (fun i W => ∃ (k : Nat) (v2 : Value), k ≤ N ∧ i = .int .i64 k ∧ Hid (TwB2 w m Y1 n1 c1 Y2 n2 c2 Y3 n3 c3 Y4 n4 c4 w2.heap.size B1 (kR m) d1 tp B2 N d2 tw X v (upL m.phi tp qs (kR m)) v2 (upL m.whi tw vs k) W)) (fun i _ => N - (intOf i).toNat)
        case atStart => exact ⟨0, _, Nat.zero_le _, rfl, HU0⟩
        case round =>
          obtain ⟨k, v2, hk3, rfl, HU⟩ := hrel
          clear HU0
          by_cases hlt : k < N
          · have hlt' : (k : Int) < N := by omega
            obtain ⟨A3, c3', rfl⟩ := own_slice HU.out.o2
            obtain ⟨xx, hxx⟩ : ∃ y, tw[k]? = some y := ⟨tw[k]'(by rw [HT1.out.lw]; exact hlt), List.getElem?_eq_getElem _⟩
            obtain ⟨bb, oo, rfl, _, _⟩ := ints_at HU.out.d.c.i2 hxx
            have hr2 := HT1.out.q xx (List.mem_of_getElem? hxx)
            have hr3 := HO.out.wlo
            have hr4 := HO.out.whi
            have hx20 : 0 ≤ xx ∧ xx ≤ 2000 := by omega
            have HXX := Lib.hid hxx
            clear hxx hr2 hr3 hr4
            go_wp2_with fail
            refine wp_of_eq (lm13_region (l := upL m.whi tw vs k) HXX.out hx20 hlt' HP4.out (turnV_rng HP4.out.rng k) (Lib.hid (HT4.out k (by omega))) (by rw [upL_length]; omega) HU (Lib.hid fun u5 W5 h5 => ?_)) (by kernel_rfl)
            obtain ⟨v5, h5⟩ := h5
            have H5 := Lib.hid h5
            clear h5
            go_wp2_with fail
            go_roundw
            case rel => exact ⟨k + 1, v5, Nat.succ_le_of_lt hlt, by go_num, by have h := H5.out; rw [← upL_succ HXX.out] at h; exact h⟩
            case measure => exact meas_one hlt
          · obtain rfl : k = N := by omega
            have hn3' : ¬ ((k : Int) < k) := by omega
            have HFF : ∃ E1 g1 E2 g2, Hid (TwF w m Y1 n1 c1 Y2 n2 c2 Y3 n3 c3 Y4 n4 c4 w2.heap.size B1 (kR m) d1 tp B2 k d2 tw E1 g1 (upL m.phi tp qs (kR m)) E2 g2 (upL m.whi tw vs k) wr) := by
              obtain ⟨E1, g1, e1, i1⟩ := HU.out.d.o1.in_
              obtain ⟨E2, g2, e2, i2⟩ := HU.out.o2.in_
              rw [upL_length] at e1 e2
              subst e1 e2
              have h1 := HU.out.d.c
              have h2 := h1.sz
              have h3 := HT1.out.lp
              have h4 := HT1.out.lw
              exact ⟨E1, g1, E2, g2, h1, ⟨h1.i1.mono (by omega), by omega⟩, ⟨h1.i2.mono (by omega), by omega⟩, i1, i2⟩
            obtain ⟨E1, g1, E2, g2, HF⟩ := HFF
            clear HU
            generalize upL m.phi tp qs (kR m) = up at *
            generalize upL m.whi tw vs k = uw at *
            obtain ⟨z0, z1, z2, z3, z4, z5, z6, z7, z8, z9, z10, z11⟩ := HF.out.c.b0.cells
            have t0 := HF.out.c.t.cell 0
            have t1 := HF.out.c.t.cell 1
            have tl := HF.out.c.t.lt
            go_wp2_with (first
              | (go_at_call 20; (with_reducible refine (HCa.out _ _ _ _ _ HF.out.t1 HF.out.t2).mono ?_); rintro e wA ⟨Aa, ca, rfl, ia, hb⟩; have HA := Lib.hid (And.intro (HF.out.on hb) ia); clear z0 z1 z2 z3 z4 z5 z6 z7 z8 z9 z10 z11 t0 t1 tl; clear hb ia; obtain ⟨z0, z1, z2, z3, z4, z5, z6, z7, z8, z9, z10, z11⟩ := HA.out.1.c.b0.cells; have s0 := HA.out.1.c.u.cell 0; have s1 := HA.out.1.c.u.cell 1; have sl := HA.out.1.c.u.lt)
              | (go_at_call 20; (with_reducible refine (HCb.out _ _ _ _ _ HA.out.1.u1 HA.out.1.u2).mono ?_); rintro e wB ⟨Ab, cb, rfl, ib, hb⟩; have HB := Lib.hid (And.intro (HA.out.1.on hb) (And.intro (HA.out.2.on hb) ib)); clear z0 z1 z2 z3 z4 z5 z6 z7 z8 z9 z10 z11 s0 s1 sl; clear hb ib; have z0 := HB.out.1.c.b0.bk.cell 0; have zl := HB.out.1.c.b0.bk.lt; rw [show m.rings = ((kR m : Nat) : Int) from HR.out] at z0)
              | fail)
            clear z0 zl HF HA
            refine wp_of_eq (lm18_region (S := fun W => TwF w m Y1 n1 c1 Y2 n2 c2 Y3 n3 c3 Y4 n4 c4 w2.heap.size B1 (kR m) d1 tp B2 k d2 tw E1 g1 up E2 g2 uw W ∧ IntsIn W Aa al ∧ IntsIn W Ab bl) (fun W W' h hb => ⟨h.1.on hb, h.2.1.on hb, h.2.2.on hb⟩) (fun W h => h.1.c.b0) (fun W h => h.1.c.t) (fun W h => h.1.c.u) (fun W h => h.1.t1) (fun W h => h.1.t2) (fun W h => h.1.u1) (fun W h => h.1.u2) HPw HQw HB (Lib.hid fun u18 Ap cp Aq cq W18 i18 j18 h18 => ?_)) (by kernel_rfl)
            have HG : Hid (TwF w m Y1 n1 c1 Y2 n2 c2 Y3 n3 c3 Y4 n4 c4 w2.heap.size B1 (kR m) d1 tp B2 k d2 tw E1 g1 up E2 g2 uw W18 ∧ IntsIn W18 Aa al ∧ IntsIn W18 Ab bl ∧ IntsIn W18 Ap pl ∧ IntsIn W18 Aq ql) := ⟨h18.1, h18.2.1, h18.2.2, i18, j18⟩
            clear h18 i18 j18 HB
            go_wp2_with fail
            go_loopw [18] (fun i W => ∃ (q : Nat), q ≤ kR m ∧ i = .int .i64 q ∧ Hid (TwF w m Y1 n1 c1 Y2 n2 c2 Y3 n3 c3 Y4 n4 c4 w2.heap.size B1 (kR m) d1 tp B2 k d2 tw E1 g1 up E2 g2 uw W ∧ IntsIn W Aa al ∧ IntsIn W Ab bl ∧ IntsIn W Ap pl ∧ IntsIn W Aq ql)) (fun i _ => kR m - (intOf i).toNat)
            case atStart => exact ⟨0, Nat.zero_le _, rfl, HG⟩
            case round =>
              obtain ⟨q, hq, rfl, HS⟩ := hrel
              clear HG
              have d0 := HS.out.1.c.b0.bk.cell 0
              rw [show m.rings = ((kR m : Nat) : Int) from HR.out] at d0
              by_cases hlt : q < kR m
              · have hlt' : (q : Int) < kR m := by omega
                obtain ⟨ra, ha⟩ : ∃ y, al[q]? = some y := ⟨al[q]'(by rw [hal.out]; exact hlt), List.getElem?_eq_getElem _⟩
                obtain ⟨rb, hb⟩ : ∃ y, bl[q]? = some y := ⟨bl[q]'(by rw [hbl.out]; exact hlt), List.getElem?_eq_getElem _⟩
                obtain ⟨rp, hp⟩ : ∃ y, pl[q]? = some y := ⟨pl[q]'(by rw [hpl.out]; exact hlt), List.getElem?_eq_getElem _⟩
                obtain ⟨rq, hq'⟩ : ∃ y, ql[q]? = some y := ⟨ql[q]'(by rw [hql.out]; exact hlt), List.getElem?_eq_getElem _⟩
                have r1 := HL.out.get ha hb
                have r2 := HW.out.get hp hq'
                obtain ⟨b1, o1, rfl, _, _⟩ := ints_at HS.out.2.1.at_ ha
                obtain ⟨b2, o2, rfl, _, _⟩ := ints_at HS.out.2.2.1.at_ hb
                obtain ⟨b3, o3, rfl, _, _⟩ := ints_at HS.out.2.2.2.1.at_ hp
                obtain ⟨b4, o4, rfl, _, _⟩ := ints_at HS.out.2.2.2.2.at_ hq'
                have HX := Lib.hid (And.intro ha (And.intro hb (And.intro hp hq')))
                have HR12 := Lib.hid (And.intro r1 r2)
                clear ha hb hp hq' r1 r2
                by_cases hq0 : 0 ≤ rq
                · go_wp2_with fail
                  refine wp_of_eq (lm22c_region (S := fun W => TwF w m Y1 n1 c1 Y2 n2 c2 Y3 n3 c3 Y4 n4 c4 w2.heap.size B1 (kR m) d1 tp B2 k d2 tw E1 g1 up E2 g2 uw W ∧ IntsIn W (some ⟨b1, o1, none⟩) al ∧ IntsIn W (some ⟨b2, o2, none⟩) bl ∧ IntsIn W (some ⟨b3, o3, none⟩) pl ∧ IntsIn W (some ⟨b4, o4, none⟩) ql) (fun W W' h hb => ⟨h.1.on hb, h.2.1.on hb, h.2.2.1.on hb, h.2.2.2.1.on hb, h.2.2.2.2.on hb⟩) hlt' (fun W h => by obtain ⟨_, _, e, _, dd⟩ := ints_at h.2.1.at_ HX.out.1; cases e; exact dd) (fun W h => by obtain ⟨_, _, e, _, dd⟩ := ints_at h.2.2.1.at_ HX.out.2.1; cases e; exact dd) (fun W h => by obtain ⟨_, _, e, _, dd⟩ := ints_at h.2.2.2.1.at_ HX.out.2.2.1; cases e; exact dd) (fun W h => by obtain ⟨_, _, e, _, dd⟩ := ints_at h.2.2.2.2.at_ HX.out.2.2.2; cases e; exact dd) (by have := HR12.out.1; omega) (by have := HR12.out.2; omega) hq0 (by have := HR12.out.2; omega) HS (Lib.hid fun u22 W22 h22 => ?_)) (by kernel_rfl)
                  have H22 := Lib.hid h22
                  clear h22
                  go_wp2_with fail
                  go_roundw
                  case rel => exact ⟨q + 1, Nat.succ_le_of_lt hlt, by go_num, H22⟩
                  case measure => exact meas_one hlt
                · by_cases hp0 : rp < 0
                  · go_wp2_with fail
                    refine wp_of_eq (lm22a_region (S := fun W => TwF w m Y1 n1 c1 Y2 n2 c2 Y3 n3 c3 Y4 n4 c4 w2.heap.size B1 (kR m) d1 tp B2 k d2 tw E1 g1 up E2 g2 uw W ∧ IntsIn W (some ⟨b1, o1, none⟩) al ∧ IntsIn W (some ⟨b2, o2, none⟩) bl ∧ IntsIn W (some ⟨b3, o3, none⟩) pl ∧ IntsIn W (some ⟨b4, o4, none⟩) ql) (fun W W' h hb => ⟨h.1.on hb, h.2.1.on hb, h.2.2.1.on hb, h.2.2.2.1.on hb, h.2.2.2.2.on hb⟩) hlt' (fun W h => by obtain ⟨_, _, e, _, dd⟩ := ints_at h.2.1.at_ HX.out.1; cases e; exact dd) (fun W h => by obtain ⟨_, _, e, _, dd⟩ := ints_at h.2.2.1.at_ HX.out.2.1; cases e; exact dd) (fun W h => by obtain ⟨_, _, e, _, dd⟩ := ints_at h.2.2.2.1.at_ HX.out.2.2.1; cases e; exact dd) (fun W h => by obtain ⟨_, _, e, _, dd⟩ := ints_at h.2.2.2.2.at_ HX.out.2.2.2; cases e; exact dd) (by have := HR12.out.1; omega) hp0 (by omega) HS (Lib.hid fun u22 W22 h22 => ?_)) (by kernel_rfl)
                    have H22 := Lib.hid h22
                    clear h22
                    go_wp2_with fail
                    go_roundw
                    case rel => exact ⟨q + 1, Nat.succ_le_of_lt hlt, by go_num, H22⟩
                    case measure => exact meas_one hlt
                  · go_wp2_with fail
                    refine wp_of_eq (lm22b_region (S := fun W => TwF w m Y1 n1 c1 Y2 n2 c2 Y3 n3 c3 Y4 n4 c4 w2.heap.size B1 (kR m) d1 tp B2 k d2 tw E1 g1 up E2 g2 uw W ∧ IntsIn W (some ⟨b1, o1, none⟩) al ∧ IntsIn W (some ⟨b2, o2, none⟩) bl ∧ IntsIn W (some ⟨b3, o3, none⟩) pl ∧ IntsIn W (some ⟨b4, o4, none⟩) ql) (fun W W' h hb => ⟨h.1.on hb, h.2.1.on hb, h.2.2.1.on hb, h.2.2.2.1.on hb, h.2.2.2.2.on hb⟩) hlt' (fun W h => by obtain ⟨_, _, e, _, dd⟩ := ints_at h.2.1.at_ HX.out.1; cases e; exact dd) (fun W h => by obtain ⟨_, _, e, _, dd⟩ := ints_at h.2.2.1.at_ HX.out.2.1; cases e; exact dd) (fun W h => by obtain ⟨_, _, e, _, dd⟩ := ints_at h.2.2.2.1.at_ HX.out.2.2.1; cases e; exact dd) (fun W h => by obtain ⟨_, _, e, _, dd⟩ := ints_at h.2.2.2.2.at_ HX.out.2.2.2; cases e; exact dd) (by have := HR12.out.1; omega) (by omega) (by omega) HS (Lib.hid fun u22 W22 h22 => ?_)) (by kernel_rfl)
                    have H22 := Lib.hid h22
                    clear h22
                    go_wp2_with fail
                    go_roundw
                    case rel => exact ⟨q + 1, Nat.succ_le_of_lt hlt, by go_num, H22⟩
                    case measure => exact meas_one hlt
              · obtain rfl : q = kR m := by omega
                have hn5 : ¬ ((kR m : Int) < (kR m : Int)) := by omega
                go_wp2_with (first
                  | (go_at_call 26; refine (awake_any _).mono ?_; rintro e wE ⟨rfl, hb⟩; have HE := Lib.hid (HS.out.1.c.b0.on hb); clear hb)
                  | fail)
                go_ret
                exact ⟨rfl, HE.out.b⟩
  · have hz : (checkM m != 0) = true := by simpa using hck
    generalize checkM m = z at *
    generalize ps.length = n1 at *
    generalize ws.length = n2 at *
    generalize qs.length = n3 at *
    generalize vs.length = n4 at *
    clear hp hq hp2 hq2
    go_enter Try.func13, Try.ntmps13
    obtain ⟨z0, z1, z2, z3, z4, z5, z6, z7, z8, z9, z10, z11⟩ := HM.out.1.cells
    go_wp2_with (first
      | (go_at_call 19; (with_reducible refine (HC.out _).mono ?_); rintro e w1 ⟨rfl, hb⟩; have H1 := Lib.hid (HM.out.1.on hb); clear z0 z1 z2 z3 z4 z5 z6 z7 z8 z9 z10 z11; clear hb)
      | (go_at_call 26; refine (awake_any _).mono ?_; rintro e wE ⟨rfl, hb⟩; have HE := Lib.hid (H1.out.on hb); clear hb)
      | fail)
    go_ret
    exact ⟨rfl, HE.out.b⟩
end Go.Proofs.Ytljbjcnfkbmjkaa
