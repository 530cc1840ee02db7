/- MouldTrue: the law. -/
import Derived.Test.YtljbjcnfkbmjkaaGj
namespace Go.Proofs.Ytljbjcnfkbmjkaa
open Go.RowKit Go.Shelf Go.Maps
attribute [local go_sem] Oper.semAt_some

set_option maxRecDepth 100000 in
set_option maxHeartbeats 8000000 in
theorem ltrue_any (m : Md) (x : Int) (hx : 0 ≤ x ∧ x ≤ 65535) {w : World} {Y1 Y2 : Option Addr} {c1 c2 : Nat} {ps ws : List Int} (hp : U16In w Y1 ps) (hq : U16In w Y2 ws) :
    Calls Try.prog 7 #[.agg #[.int .i64 m.rings, .int .i64 m.give, .int .i64 m.plo, .int .i64 m.phi, .int .i64 m.wlo, .int .i64 m.whi, .int .i64 m.st, .int .i64 m.shrink, .int .i64 m.skin, .int .i64 m.fill, .int .i64 m.gap, .int .i64 m.deep], .int .u16 x, .agg #[.slice Y1 ps.length c1, .slice Y2 ws.length c2]] w fun e w' => e = .returned (.bool true) ∧ Below w.heap.size w w' := by
  have HM := Lib.hid (LtA.new w m Y1 ps.length c1 Y2 ws.length c2)
  obtain ⟨N, hN⟩ : ∃ N : Nat, x % 601 = (N : Int) := ⟨(x % 601).toNat, by omega⟩
  have hN6 := Lib.hid (show N ≤ 600 by omega)
  have HC := Lib.hid (fun W => rcheck_any m W)
  by_cases hck : checkM m = 0
  · rw [hck] at HC
    have hok := Lib.hid (checkM_ok.1 hck)
    obtain ⟨a, ha⟩ : ∃ a, wh m false = a := ⟨_, rfl⟩
    obtain ⟨b, hb⟩ : ∃ b, wh m true = b := ⟨_, rfl⟩
    obtain ⟨N2, hN2⟩ : ∃ N2 : Nat, N2 = 600 := ⟨_, rfl⟩
    have hla : Hid (a.length = kR m) := by rw [← ha]; exact wh_length m false
    have hlb : Hid (b.length = kR m) := by rw [← hb]; exact wh_length m true
    have T5 := TrOk.tr hok.out hN6.out ps ws
    have T16 := TrOk.tr (N := N2) hok.out (by omega) ps ws
    have HT5 := Lib.hid (fun (W : World) (h : Below w.heap.size w W) => truth_law (c1 := c1) (c2 := c2) (N := N) hok.out hp hq hN6.out h)
    have HT16 := Lib.hid (fun (W : World) (h : Below w.heap.size w W) => truth_law (c1 := c1) (c2 := c2) (N := N2) hok.out hp hq (by omega) h)
    rw [show ((N2 : Nat) : Int) = 600 by omega] at HT16
    have HC5 := Lib.hid (cool_tr hok.out T5)
    have HW16 := Lib.hid (when_tr hok.out T16)
    have HL := Lib.hid (after_ab hok.out T5)
    have HWl := Lib.hid (when_ab hok.out ha hb T16 hN2)
    have hal : Hid ((afterL m.give (trL m.plo m.phi ps (kR m)) (trL m.wlo m.whi ws N)).length = kR m) := by show _ = _; rw [afterL_length, trL_length]
    have hwl : Hid ((whenM m (trL m.plo m.phi ps (kR m)) (trL m.wlo m.whi ws N2)).length = kR m) := by show _ = _; rw [whenM_length, trL_length]
    have HWm := Lib.hid (fun W => warm_law hck hN6.out W)
    have HZg := Lib.hid (fun hn => sets_good hck ha hb hn)
    have HZn := Lib.hid (fun hn => sets_never hck hb hn)
    have HR : Hid (m.rings = ((kR m : Nat) : Int)) := (kR_eq hok.out.toMdIn).symm
    have hk8 : kR m ≤ 8 := (kR_le hok.out.toMdIn).2
    have hlc := Lib.hid (warmL_length m false N)
    have hlh := Lib.hid (warmL_length m true N)
    generalize ps.length = n1 at *
    generalize ws.length = n2 at *
    generalize warmL m false N = cl at *
    generalize warmL m true N = hl at *
    generalize afterL m.give (trL m.plo m.phi ps (kR m)) (trL m.wlo m.whi ws N) = al at *
    generalize whenM m (trL m.plo m.phi ps (kR m)) (trL m.wlo m.whi ws N2) = wl at *
    generalize trL m.plo m.phi ps (kR m) = tp at *
    generalize trL m.wlo m.whi ws N = tw at *
    generalize trL m.wlo m.whi ws N2 = tw2 at *
    clear hck hN2 ha hb T5 T16 hp hq
    go_enter Try.func7, Try.ntmps7
    obtain ⟨z0, z1, z2, z3, z4, z5, z6, z7, z8, z9, z10, z11⟩ := HM.out.bm.cells
    go_wp2_with (first
      | (go_at_call 23; (with_reducible refine (HWm.out _).mono ?_); rintro e w1 ⟨Aw, cw, rfl, hv1, hb1⟩; have HM1 := Lib.hid (HM.out.on hb1); have HV1 := Lib.hid hv1; clear z0 z1 z2 z3 z4 z5 z6 z7 z8 z9 z10 z11; obtain ⟨z0, z1, z2, z3, z4, z5, z6, z7, z8, z9, z10, z11⟩ := HM1.out.bm.cells; clear hb1 hv1)
      | (go_at_call 19; (with_reducible refine (HC.out _).mono ?_); rintro e w3 ⟨rfl, hb3⟩; have H3 := Lib.hid (And.intro (HM1.out.on hb3) (HV1.out.on hb3)); clear z0 z1 z2 z3 z4 z5 z6 z7 z8 z9 z10 z11; clear hb3)
      | fail)
    refine wp_of_eq (lt5_region (S := fun W => LtA w m Y1 n1 c1 Y2 n2 c2 W ∧ SpansIn W Aw (zipS cl hl)) (fun W W' h hb => ⟨h.1.on hb, h.2.on hb⟩) (fun W h => h.1.bm) (fun W h => h.1.y) (Lib.hid fun W h => HT5.out W h.1.bm.b) HC5 H3 (Lib.hid fun u5 Al c5 W5 i5 h5 => ?_)) (by kernel_rfl)
    have H5 := Lib.hid (And.intro h5.1 (And.intro h5.2 i5))
    clear h5 i5 H3 HT5 HC5 hN
    have d0 := H5.out.1.bm.bk.cell 0
    rw [show m.rings = ((kR m : Nat) : Int) from HR.out] at d0
    go_wp2_with fail
    clear d0
    go_loopw [12] (fun i W => ∃ (k : Nat), k ≤ kR m ∧ i = .int .i64 k ∧ Hid (LtA w m Y1 n1 c1 Y2 n2 c2 W ∧ SpansIn W Aw (zipS cl hl) ∧ IntsIn W Al al)) (fun i _ => kR m - (intOf i).toNat)
    case atStart => exact ⟨0, Nat.zero_le _, rfl, H5⟩
    case round =>
      obtain ⟨k, hk, rfl, HS⟩ := hrel
      clear H5
      have d0 := HS.out.1.bm.bk.cell 0
      rw [show m.rings = ((kR m : Nat) : Int) from HR.out] at d0
      by_cases hlt : k < kR m
      · have hlt' : (k : Int) < kR m := by omega
        obtain ⟨pp, hp1⟩ : ∃ x, cl[k]? = some x := ⟨cl[k]'(by rw [hlc.out]; exact hlt), List.getElem?_eq_getElem _⟩
        obtain ⟨qq, hq1⟩ : ∃ y, hl[k]? = some y := ⟨hl[k]'(by rw [hlh.out]; exact hlt), List.getElem?_eq_getElem _⟩
        obtain ⟨xx, hx1⟩ : ∃ y, al[k]? = some y := ⟨al[k]'(by rw [hal.out]; exact hlt), List.getElem?_eq_getElem _⟩
        have hin := lle_in HL.out.1 HL.out.2 hx1 hp1 hq1
        obtain ⟨b1, o1, rfl, _, _, _⟩ := spans_at HS.out.2.1.at_ (zip_get hp1 hq1)
        obtain ⟨b2, o2, rfl, _, _⟩ := ints_at HS.out.2.2.at_ hx1
        have HX := Lib.hid hx1
        have HP := Lib.hid (zip_get hp1 hq1)
        have HI := Lib.hid hin
        clear hx1 hp1 hq1 hin
        go_wp2_with fail
        refine wp_of_eq (lt11_region (S := fun W => LtA w m Y1 n1 c1 Y2 n2 c2 W ∧ SpansIn W (some ⟨b1, o1, none⟩) (zipS cl hl) ∧ IntsIn W (some ⟨b2, o2, none⟩) al) (fun W W' h hb => ⟨h.1.on hb, h.2.1.on hb, h.2.2.on hb⟩) hlt' (fun W h => by
          obtain ⟨_, _, e, _, d1, d2⟩ := spans_at h.2.1.at_ HP.out; cases e; exact ⟨d1, d2⟩) (fun W h => by
          obtain ⟨_, _, e, _, d1⟩ := ints_at h.2.2.at_ HX.out; cases e; exact d1) HI.out HS (Lib.hid fun u11 W11 h11 => ?_)) (by kernel_rfl)
        have H11 := Lib.hid h11
        clear h11
        go_wp2_with fail
        go_roundw
        case rel => exact ⟨k + 1, Nat.succ_le_of_lt hlt, by go_num, H11⟩
        case measure => exact meas_one hlt
      · obtain rfl : k = kR m := by omega
        have hn2 : ¬ ((kR m : Int) < m.rings) := by rw [HR.out]; omega
        clear d0
        obtain ⟨z0, z1, z2, z3, z4, z5, z6, z7, z8, z9, z10, z11⟩ := HS.out.1.bm.cells
        by_cases hnv : never b = true
        · have HZ := Lib.hid (HZn.out hnv)
          clear HZn HZg
          go_wp2_with (first
            | (go_at_call 27; (with_reducible refine (HZ.out _).mono ?_); rintro e w3 ⟨As, cs, rfl, hb3⟩; have H10 := Lib.hid (HS.out.1.on hb3); clear hb3; clear z0 z1 z2 z3 z4 z5 z6 z7 z8 z9 z10 z11)
            | (go_at_call 26; refine (awake_any _).mono ?_; rintro e w5 ⟨rfl, hb⟩; have H11 := Lib.hid (H10.out.on hb); clear hb)
            | fail)
          go_ret
          exact ⟨rfl, H11.out.bm.b⟩
        · have hnf : never b = false := by simpa using hnv
          have HZ := Lib.hid (HZg.out hnf)
          have HNN := Lib.hid (never_get hnf)
          clear HZn HZg hnv hnf
          go_wp2_with (first
            | (go_at_call 27; (with_reducible refine (HZ.out _).mono ?_); rintro e w3 ⟨As, cs, rfl, hs3, hb3⟩; have H10 := Lib.hid (And.intro (HS.out.1.on hb3) hs3); clear hb3 hs3; clear z0 z1 z2 z3 z4 z5 z6 z7 z8 z9 z10 z11)
            | fail)
          clear HS
          refine wp_of_eq (lt16_region (S := fun W => LtA w m Y1 n1 c1 Y2 n2 c2 W ∧ SpansIn W As (zipS a b)) (fun W W' h hb => ⟨h.1.on hb, h.2.on hb⟩) (fun W h => h.1.bm) (fun W h => h.1.y) (Lib.hid fun W h => HT16.out W h.1.bm.b) HW16 H10 (Lib.hid fun u16 Ak c16 W16 i16 h16 => ?_)) (by kernel_rfl)
          have H16 := Lib.hid (And.intro h16.1 (And.intro h16.2 i16))
          clear h16 i16 H10 HT16 HW16
          have d0 := H16.out.1.bm.bk.cell 0
          rw [show m.rings = ((kR m : Nat) : Int) from HR.out] at d0
          go_wp2_with fail
          clear d0
          go_loopw [15] (fun i W => ∃ (k : Nat), k ≤ kR m ∧ i = .int .i64 k ∧ Hid (LtA w m Y1 n1 c1 Y2 n2 c2 W ∧ SpansIn W As (zipS a b) ∧ IntsIn W Ak wl)) (fun i _ => kR m - (intOf i).toNat)
          case atStart => exact ⟨0, Nat.zero_le _, rfl, H16⟩
          case round =>
            obtain ⟨k, hk, rfl, HS⟩ := hrel
            clear H16
            have d0 := HS.out.1.bm.bk.cell 0
            rw [show m.rings = ((kR m : Nat) : Int) from HR.out] at d0
            by_cases hlt : k < kR m
            · have hlt' : (k : Int) < kR m := by omega
              obtain ⟨pp, hp1⟩ : ∃ x, a[k]? = some x := ⟨a[k]'(by rw [hla.out]; exact hlt), List.getElem?_eq_getElem _⟩
              obtain ⟨qq, hq1⟩ : ∃ y, b[k]? = some y := ⟨b[k]'(by rw [hlb.out]; exact hlt), List.getElem?_eq_getElem _⟩
              obtain ⟨xx, hx1⟩ : ∃ y, wl[k]? = some y := ⟨wl[k]'(by rw [hwl.out]; exact hlt), List.getElem?_eq_getElem _⟩
              have hin := wle_in HWl.out.1 HWl.out.2 hx1 hp1 hq1 (HNN.out _ (List.mem_of_getElem? hq1))
              obtain ⟨b1, o1, rfl, _, _, _⟩ := spans_at HS.out.2.1.at_ (zip_get hp1 hq1)
              obtain ⟨b2, o2, rfl, _, _⟩ := ints_at HS.out.2.2.at_ hx1
              have HX := Lib.hid hx1
              have HP := Lib.hid (zip_get hp1 hq1)
              have HI := Lib.hid hin
              clear hx1 hp1 hq1 hin
              go_wp2_with fail
              refine wp_of_eq (lt22_region (S := fun W => LtA w m Y1 n1 c1 Y2 n2 c2 W ∧ SpansIn W (some ⟨b1, o1, none⟩) (zipS a b) ∧ IntsIn W (some ⟨b2, o2, none⟩) wl) (fun W W' h hb => ⟨h.1.on hb, h.2.1.on hb, h.2.2.on hb⟩) hlt' (fun W h => by
                obtain ⟨_, _, e, _, d1, d2⟩ := spans_at h.2.1.at_ HP.out; cases e; exact ⟨d1, d2⟩) (fun W h => by
                obtain ⟨_, _, e, _, d1⟩ := ints_at h.2.2.at_ HX.out; cases e; exact d1) HI.out HS (Lib.hid fun u22 W22 h22 => ?_)) (by kernel_rfl)
              have H22 := Lib.hid h22
              clear h22
              go_wp2_with fail
              go_roundw
              case rel => exact ⟨k + 1, Nat.succ_le_of_lt hlt, by go_num, H22⟩
              case measure => exact meas_one hlt
            · obtain rfl : k = kR m := by omega
              have hn2 : ¬ ((kR m : Int) < (kR m : Int)) := by omega
              go_wp2_with (first
                | (go_at_call 26; refine (awake_any _).mono ?_; rintro e w5 ⟨rfl, hb⟩; have H11 := Lib.hid (HS.out.1.on hb); clear hb)
                | fail)
              go_ret
              exact ⟨rfl, H11.out.bm.b⟩
  · have HWm := Lib.hid (fun W => mwarm_any m N W)
    rw [show warmR m (N : Int) = ([], checkM m) from if_pos hck] at HWm
    have hz : (checkM m != 0) = true := by simpa using hck
    have hz2 : (checkM m == checkM m) = true := by simp
    generalize checkM m = z at *
    generalize ps.length = n1 at *
    generalize ws.length = n2 at *
    clear hp hq
    go_enter Try.func7, Try.ntmps7
    obtain ⟨z0, z1, z2, z3, z4, z5, z6, z7, z8, z9, z10, z11⟩ := HM.out.bm.cells
    go_wp2_with (first
      | (go_at_call 23; (with_reducible refine (HWm.out _).mono ?_); rintro e w1 ⟨v, rfl, hv1, hb1⟩; obtain ⟨Aw, cw, rfl, _⟩ := SpansOut.in_ hv1; have NEW := Lib.hid (HM.out.on hb1); clear HM; have HM := NEW; clear NEW; clear z0 z1 z2 z3 z4 z5 z6 z7 z8 z9 z10 z11; obtain ⟨z0, z1, z2, z3, z4, z5, z6, z7, z8, z9, z10, z11⟩ := HM.out.bm.cells; clear hb1 hv1)
      | (go_at_call 19; (with_reducible refine (HC.out _).mono ?_); rintro e w3 ⟨rfl, hb3⟩; have NEW := Lib.hid (HM.out.on hb3); clear HM; have HM := NEW; clear NEW; clear z0 z1 z2 z3 z4 z5 z6 z7 z8 z9 z10 z11; obtain ⟨z0, z1, z2, z3, z4, z5, z6, z7, z8, z9, z10, z11⟩ := HM.out.bm.cells; clear hb3)
      | (go_at_call 26; refine (awake_any _).mono ?_; rintro e w5 ⟨rfl, hb⟩; have HM5 := Lib.hid (HM.out.on hb); clear hb)
      | fail)
    go_ret
    exact ⟨rfl, HM5.out.bm.b⟩
end Go.Proofs.Ytljbjcnfkbmjkaa
