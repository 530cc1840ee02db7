/- The contract of law 8, the walk: for every table and truth that stand in memory, the call returns true, and nothing below changes. Conditions: the base of the memory. -/
import Derived.Test.YtnpajncolkafgaaGreatDoorFg
import Derived.Test.YtnpajncolkafgaaGreatDoorAw
import Derived.BigQuiet
namespace Go.Proofs.YtnpajncolkafgaaGreatDoor
open Go.ChangeShapes Go.WideShapes Go.ChangeAt Go.RowKit

set_option maxRecDepth 100000 in
set_option maxHeartbeats 2000000 in
theorem wtruth_any {w : World} (hB : Base w) {pa ka : Option Addr} {pc kc : Nat} {t : Tab} (hT : TabIn w pa ka pc kc t) {nA eA : Option Addr} {nl el : List Int} {nc ec : Nat} (a b n rd : Int) (ha : 0 ≤ a ∧ a ≤ 255) (hb : 0 ≤ b ∧ b ≤ 255) (hn : 0 ≤ n ∧ n ≤ 65535) (hrd : 0 ≤ rd ∧ rd ≤ 255) (hN : U16In w nA nl) (hE : U16In w eA el) :
    Calls Tryz.prog 8 #[.agg #[.slice pa t.ps.length pc, .slice ka t.ks.length kc, .int .i64 t.pu], .agg #[.int .u8 a, .int .u8 b, .int .u16 n, .slice nA nl.length nc, .slice eA el.length ec, .int .u8 rd]] w fun e w' => e = .returned (.bool true) ∧ Below w.heap.size w w' := by
  have I0 := Two.new w 60 #[.slice pa t.ps.length pc, .slice ka t.ks.length kc, .int .i64 t.pu] #[.int .u8 a, .int .u8 b, .int .u16 n, .slice nA nl.length nc, .slice eA el.length ec, .int .u8 rd]
  have hp := hT.tab.lp
  have hk := hT.tab.lk
  have HI := Lib.hid I0
  have HT := Lib.hid hT
  have H1 := Lib.hid (lvalid_any (hT.on I0.b))
  have HW := Lib.hid (fun (W : World) (hW : Below w.heap.size w W) => awake_any (hB.on hW))
  have HM := Lib.hid (fun (W : World) (hW : Below w.heap.size w W) (hc : (checkT t).2.2 = 0) => melted_any (nc := nc) (ec := ec) (hT.on hW) hc a b n rd ha hb hn hrd (hN.on hW) (hE.on hW))
  clear hT hB I0 hN hE ha hb hn hrd
  go_enter Tryz.func8, Tryz.ntmps8
  go_wp2_with fail
  refine H1.out.mono ?_
  rintro e w1 ⟨rfl, hb1⟩
  have HI := Lib.hid (HI.out.on hb1)
  obtain ⟨a0, a1, a2, -, -, -, -⟩ := HI.out.tb.three
  have m0 := HI.out.xb.cell 0
  have m1 := HI.out.xb.cell 1
  have m2 := HI.out.xb.cell 2
  have m3 := HI.out.xb.cell 3
  have m4 := HI.out.xb.cell 4
  have m5 := HI.out.xb.cell 5
  clear hb1 H1
  by_cases hc : (checkT t).2.2 = 0
  · have HM1 := Lib.hid (HM.out _ HI.out.b hc)
    rw [decide_eq_true hc]
    clear HM
    go_wp2_with fail
    refine HM1.out.mono ?_
    rintro e w2 ⟨k, o, m, out, v, rfl, hme, ho, hb2⟩
    obtain ⟨vA, vc, rfl, hv⟩ := ho.in_
    have hI : MrI w 60 #[.slice pa t.ps.length pc, .slice ka t.ks.length kc, .int .i64 t.pu] #[.int .u8 a, .int .u8 b, .int .u16 n, .slice nA nl.length nc, .slice eA el.length ec, .int .u8 rd] vA out w2 := ⟨HI.out.on hb2, hv⟩
    obtain ⟨a0, a1, a2, -, -, -, -⟩ := hI.two.tb.three
    have hk8 := (valid_of hc).nk
    have hm0 := hme.ln
    have hkl := hme.la
    have hol := hme.lb
    have hlen := hv.len
    have HRD := Lib.hid (fun (W : World) (hW : MrI w 60 #[.slice pa t.ps.length pc, .slice ka t.ks.length kc, .int .i64 t.pu] #[.int .u8 a, .int .u8 b, .int .u16 n, .slice nA nl.length nc, .slice eA el.length ec, .int .u8 rd] vA out W) => (⟨HT.out.on hW.b, hW.rd⟩ : RdIn W pa ka vA pc kc t out))
    have H2 := Lib.hid (rexplains_any (rc := vc) ((HRD.out _ hI).sam hme.look) k o hkl hol m ⟨by omega, hm0.2⟩)
    rw [hme.ex] at H2
    have HME := Lib.hid hme
    have HI := Lib.hid hI
    clear hc ho hv hb2 hI HM1 hme m0 m1 m2 m3 m4 m5
    go_wp2_with fail
    refine H2.out.mono ?_
    rintro e w3 ⟨rfl, hb3⟩
    have HI := Lib.hid (HI.out.on hb3)
    obtain ⟨a0, a1, a2, -, -, -, -⟩ := HI.out.two.tb.three
    have H3 := Lib.hid (setsT_any (rc := vc) (HRD.out _ HI.out))
    have hst : setsT t out = (setsV t out, 0) := by unfold setsT; rw [if_neg (by simpa using HME.out.look)]
    have hmem := melt_set HME.out
    rw [hst] at H3
    generalize setsV t out = S at *
    clear hb3 H2 hst
    go_wp2_with fail
    refine H3.out.mono ?_
    rintro e w4 ⟨v2, rfl, h2, hb4⟩
    obtain ⟨sA, sc, rfl, i2⟩ := h2.in_
    have HI := Lib.hid (HI.out.on hb4)
    obtain ⟨a0, a1, a2, -, -, -, -⟩ := HI.out.two.tb.three
    have hls := i2.len
    have H4 := Lib.hid (bit_any k (by omega) w4)
    have H5 := Lib.hid (bit_any o (by omega) w4)
    have hms : (meltSet k o m : Nat) = if m < 1000 then 2 ^ k + 2 ^ o else 2 ^ k := rfl
    have hcast : ((meltSet k o m : Nat) : Int) = if m < 1000 then ((2 ^ k : Nat) : Int) + ((2 ^ o : Nat) : Int) else ((2 ^ k : Nat) : Int) := by
      rw [hms]; split <;> push_cast <;> rfl
    have hpk : 2 ^ k ≤ 2 ^ 8 := Nat.pow_le_pow_right (by omega) (by omega)
    have hpo : 2 ^ o ≤ 2 ^ 8 := Nat.pow_le_pow_right (by omega) (by omega)
    rw [hcast] at hmem
    have hp1 : 2 ^ k ≤ 256 := hpk
    have hp2 : 2 ^ o ≤ 256 := hpo
    have hq1 : 0 ≤ ((2 ^ k : Nat) : Int) ∧ ((2 ^ k : Nat) : Int) ≤ 256 := ⟨Int.natCast_nonneg _, by exact_mod_cast hp1⟩
    have hq2 : 0 ≤ ((2 ^ o : Nat) : Int) ∧ ((2 ^ o : Nat) : Int) ≤ 256 := ⟨Int.natCast_nonneg _, by exact_mod_cast hp2⟩
    clear hms hcast hpk hpo hp1 hp2
    generalize ((2 ^ k : Nat) : Int) = B1 at *
    generalize ((2 ^ o : Nat) : Int) = B2 at *
    have kb : IntKind.i64.wrap (B1 + B2) = B1 + B2 := IntWalk.i64_in _ (by omega)
    have HIN := Lib.hid (show ∀ z : Int, z = (if m < 1000 then B1 + B2 else B1) → Calls Tryz.prog 43 #[.slice sA S.length sc, .int .i64 z] w4 fun e w' => e = .returned (.bool true) ∧ w' = w4 from fun z hz => lin_yes i2 (hz ▸ hmem))
    clear h2 i2 hb4 H3 hmem
    have HX := Lib.hid HI.out
    go_upto_if 58 with (first | (go_at_call 42; ((with_reducible refine H4.out.mono ?_); rintro e w' ⟨rfl, hw'⟩; rw [hw']; clear hw')) | fail)
    go_cut [13] (fun s13 wx => s13 = .int .i64 (if m < 1000 then B1 + B2 else B1) ∧ wx = w4)
    case first =>
      by_cases hm1 : m < 1000
      · have HIF := Lib.hid (show B1 + B2 = (if m < 1000 then B1 + B2 else B1) from (if_pos hm1).symm)
        go_wp2_with (first | (go_at_call 42; ((with_reducible refine H5.out.mono ?_); rintro e w' ⟨rfl, hw'⟩; rw [hw']; clear hw')) | fail)
        all_goals first
          | (exfalso; omega)
          | (go_meet; exact ⟨congrArg (Value.int .i64) HIF.out, rfl⟩)
      · have hif : B1 = (if m < 1000 then B1 + B2 else B1) := (if_neg hm1).symm
        have HIF := Lib.hid hif
        clear hif
        go_wp2_with fail
        all_goals first
          | (exfalso; omega)
          | (go_meet; exact ⟨congrArg (Value.int .i64) HIF.out, rfl⟩)
    case rest =>
      obtain ⟨rfl, hwx⟩ := hcut
      subst hwx
      have HIN1 := Lib.hid (HIN.out _ rfl)
      generalize (if m < 1000 then B1 + B2 else B1) = z at *
      clear H4 H5 HIN kb
      go_upto_if 73 with (first | (go_at_call 43; ((with_reducible refine HIN1.out.mono ?_); rintro e w' ⟨rfl, hw'⟩; rw [hw']; clear hw')) | fail)
      go_cut [15] (fun _ wx => MrI w 60 #[.slice pa t.ps.length pc, .slice ka t.ks.length kc, .int .i64 t.pu] #[.int .u8 a, .int .u8 b, .int .u16 n, .slice nA nl.length nc, .slice eA el.length ec, .int .u8 rd] vA out wx)
      case first =>
        by_cases hko : k = o
        · have g0 : ((k : Int) != (o : Int)) = false := by simp [hko]
          go_wp2_with fail
          go_meet
          exact HX.out
        · have g0 : ((k : Int) != (o : Int)) = true := by
            rw [bne_iff_ne]
            exact fun e => hko (by omega)
          have HMX := Lib.hid (mixed_any (rc := vc) (HRD.out _ HX.out) k o)
          have hmm := melt_mixed HME.out hko
          generalize mixedV t out k o = M at *
          obtain ⟨⟨M1, M2⟩, M3⟩ := M
          dsimp only at *
          obtain ⟨rfl, hm1, hm2⟩ := hmm
          go_wp2_with fail
          refine HMX.out.mono ?_
          rintro e w6 ⟨rfl, hb6⟩
          have hX := HX.out.on hb6
          go_wp2_with fail
          all_goals first
            | (exfalso; omega)
            | (go_meet; exact hX.on ((Below.refl _ w6).alloc (Nat.le_refl _) _))
      case rest =>
        have HJ := Lib.hid hcut
        clear hcut HX HI HIN1 a0 a1 a2
        go_wp2_with fail
        go_loopw [16] (fun i wr => ∃ p : Nat, p ≤ t.ks.length ∧ i = .int .i64 p ∧ MrI w 60 #[.slice pa t.ps.length pc, .slice ka t.ks.length kc, .int .i64 t.pu] #[.int .u8 a, .int .u8 b, .int .u16 n, .slice nA nl.length nc, .slice eA el.length ec, .int .u8 rd] vA out wr) (fun i _ => t.ks.length - (intOf i).toNat)
        case atStart => exact ⟨0, by omega, rfl, HJ.out⟩
        case round =>
          obtain ⟨p, hpl, rfl, hI⟩ := hrel
          obtain ⟨a0, a1, a2, -, -, -, -⟩ := hI.two.tb.three
          by_cases hlt : p < t.ks.length
          · have hj := melt_judge HME.out p hlt
            have HSO := Lib.hid (sold_any (rc := vc) (HRD.out _ hI) p)
            generalize soldV t out p = R at *
            obtain ⟨⟨R1, R2⟩, R3, R4⟩ := R
            dsimp only at *
            obtain ⟨rfl, hj1, hj2, hj3, hj4⟩ := hj
            have hhas : 0 ≤ meltHas k o m p ∧ meltHas k o m p ≤ 1000 := by unfold meltHas; split <;> (try split) <;> omega
            have km : IntKind.i64.wrap (1000 - m) = 1000 - m := IntWalk.i64_in _ (by omega)
            go_upto_if 105 with (fail)
            go_cut [17] (fun s17 wx => s17 = .int .i64 (meltHas k o m p) ∧ wx = wr)
            case first =>
              by_cases h1 : p = k
              · have g0 : ((p : Int) == (k : Int)) = true := by simp [h1]
                have e1 : meltHas k o m p = m := by unfold meltHas; rw [if_pos h1]
                go_wp2_with fail
                go_meet
                exact ⟨congrArg (Value.int .i64) e1.symm, rfl⟩
              · have g0 : ((p : Int) == (k : Int)) = false := by
                  rw [beq_eq_false_iff_ne]
                  exact fun e => h1 (by omega)
                by_cases h2 : p = o
                · have g1 : ((p : Int) == (o : Int)) = true := by simp [h2]
                  have e1 : meltHas k o m p = 1000 - m := by unfold meltHas; rw [if_neg h1, if_pos h2]
                  go_wp2_with fail
                  go_meet
                  exact ⟨congrArg (Value.int .i64) e1.symm, rfl⟩
                · have g1 : ((p : Int) == (o : Int)) = false := by
                    rw [beq_eq_false_iff_ne]
                    exact fun e => h2 (by omega)
                  have e1 : meltHas k o m p = 0 := by unfold meltHas; rw [if_neg h1, if_neg h2]
                  go_wp2_with fail
                  go_meet
                  exact ⟨congrArg (Value.int .i64) e1.symm, rfl⟩
            case rest =>
              obtain ⟨rfl, hwx⟩ := hcut
              subst hwx
              generalize meltHas k o m p = z at *
              go_wp2_with fail
              refine HSO.out.mono ?_
              rintro e w7 ⟨rfl, hb7⟩
              have hX := (hI.on hb7).on ((Below.refl _ w7).alloc (Nat.le_refl _) (.cells #[.int .i64 R1, .int .i64 R2] 35))
              have HXX := Lib.hid hX
              obtain ⟨a0, a1, a2, -, -, -, -⟩ := hX.two.tb.three
              clear hX hb7 HSO
              by_cases hz : z < t.pu
              · have g3 : (R3 == 1) = false := by
                  rw [beq_eq_false_iff_ne]
                  exact fun e => hj3 ⟨hz, e⟩
                go_wp2_with fail
                all_goals first
                  | (exfalso; omega)
                  | (go_roundw; (case rel => exact ⟨p + 1, by omega, by go_num, HXX.out⟩); (case measure => simp [intOf]; omega))
              · have g3 : (R3 == 0) = false := by
                  rw [beq_eq_false_iff_ne]
                  exact fun e => hj4 ⟨by omega, e⟩
                go_wp2_with fail
                all_goals first
                  | (exfalso; omega)
                  | (go_roundw; (case rel => exact ⟨p + 1, by omega, by go_num, HXX.out⟩); (case measure => simp [intOf]; omega))
          · go_wp2_with fail
            refine (HW.out _ hI.b).mono ?_
            rintro e w5 ⟨rfl, hb⟩
            go_wp2_with fail
            go_ret
            exact ⟨rfl, hI.b.trans (hb.mono hI.b.size)⟩
  · have hz : lookErr t [] ≠ 0 := by rw [lookErr_1 hc]; exact hc
    have hw : setsT t [] = ([], lookErr t []) := by unfold setsT; rw [if_pos hz]
    have H2 := Lib.hid (setsT_any (rc := 0) (l := []) ⟨HT.out.on HI.out.b, nil_ints _⟩)
    rw [hw] at H2
    generalize lookErr t [] = z at *
    have hz2 : (z != 0) = true := by simpa using hz
    rw [decide_eq_false hc]
    clear HM hc hw hz m0 m1 m2 m3 m4 m5
    go_wp2_with fail
    refine H2.out.mono ?_
    rintro e w2 ⟨v1, rfl, h1, hb2⟩
    obtain ⟨A1, q1, rfl, i1⟩ := h1.in_
    have HI := Lib.hid (HI.out.on hb2)
    clear h1 i1 hb2 H2
    go_wp2_with fail
    refine (HW.out _ HI.out.b).mono ?_
    rintro e w5 ⟨rfl, hb⟩
    go_wp2_with fail
    go_ret
    exact ⟨rfl, HI.out.b.trans (hb.mono HI.out.b.size)⟩
end Go.Proofs.YtnpajncolkafgaaGreatDoor
