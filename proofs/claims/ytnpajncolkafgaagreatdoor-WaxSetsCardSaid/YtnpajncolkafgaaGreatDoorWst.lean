/- The contract of law 10, the walk: for every table and truth that stand in memory, the call returns true, and nothing below changes. Conditions: the base of the memory. -/
import Derived.Test.YtnpajncolkafgaaGreatDoorFg
import Derived.Test.YtnpajncolkafgaaGreatDoorAw
import Derived.BigQuiet
namespace Go.Proofs.YtnpajncolkafgaaGreatDoor
open Go.ChangeShapes Go.WideShapes Go.ChangeAt Go.RowKit

/-- Two lists that a call made. -/
structure WsI (w : World) (A B : Option Addr) (k l : List Int) (W : World) : Prop where
  mu : IntsIn W A k
  ma : IntsIn W B l
  b : Below w.heap.size w W
theorem WsI.on {w W W' : World} {A B : Option Addr} {k l : List Int} (h : WsI w A B k l W) (hb : Below W.heap.size W W') : WsI w A B k l W' := ⟨h.mu.on hb, h.ma.on hb, h.b.trans (hb.mono h.b.size)⟩

set_option maxRecDepth 100000 in
set_option maxHeartbeats 2000000 in
theorem wsets_any {w : World} (hB : Base w) {pa ka : Option Addr} {pc kc : Nat} {t : Tab} (hT : TabIn w pa ka pc kc t) {nA eA : Option Addr} {nl el : List Int} {nc ec : Nat} (a b n rd : Int) (ha : 0 ≤ a ∧ a ≤ 255) (hb : 0 ≤ b ∧ b ≤ 255) (hn : 0 ≤ n ∧ n ≤ 65535) (hrd : 0 ≤ rd ∧ rd ≤ 255) (hN : U16In w nA nl) (hE : U16In w eA el) :
    Calls Tryz.prog 10 #[.agg #[.slice pa t.ps.length pc, .slice ka t.ks.length kc, .int .i64 t.pu], .agg #[.int .u8 a, .int .u8 b, .int .u16 n, .slice nA nl.length nc, .slice eA el.length ec, .int .u8 rd]] w fun e w' => e = .returned (.bool true) ∧ Below w.heap.size w w' := by
  have I0 := Two.new w 60 #[.slice pa t.ps.length pc, .slice ka t.ks.length kc, .int .i64 t.pu] #[.int .u8 a, .int .u8 b, .int .u16 n, .slice nA nl.length nc, .slice eA el.length ec, .int .u8 rd]
  have hp := hT.tab.lp
  have hk := hT.tab.lk
  have HI := Lib.hid I0
  have HT := Lib.hid hT
  have H1 := Lib.hid (lvalid_any (hT.on I0.b))
  have HW := Lib.hid (fun (W : World) (hW : Below w.heap.size w W) => awake_any (hB.on hW))
  have HM := Lib.hid (fun (W : World) (hW : Below w.heap.size w W) (hc : (checkT t).2.2 = 0) => melted_any (nc := nc) (ec := ec) (hT.on hW) hc a b n rd ha hb hn hrd (hN.on hW) (hE.on hW))
  clear hT hB I0 hN hE ha hb hn hrd
  go_enter Tryz.func10, Tryz.ntmps10
  go_wp2_with fail
  refine H1.out.mono ?_
  rintro e w1 ⟨rfl, hb1⟩
  have HI := Lib.hid (HI.out.on hb1)
  obtain ⟨a0, a1, a2, -, -, -, -⟩ := HI.out.tb.three
  have m0 := HI.out.xb.cell 0
  have m1 := HI.out.xb.cell 1
  have m2 := HI.out.xb.cell 2
  have m3 := HI.out.xb.cell 3
  have m4 := HI.out.xb.cell 4
  have m5 := HI.out.xb.cell 5
  clear hb1 H1
  by_cases hc : (checkT t).2.2 = 0
  · have HM1 := Lib.hid (HM.out _ HI.out.b hc)
    rw [decide_eq_true hc]
    clear HM hc
    go_wp2_with fail
    refine HM1.out.mono ?_
    rintro e w2 ⟨k, o, m, out, v, rfl, hme, ho, hb2⟩
    obtain ⟨vA, vc, rfl, hv⟩ := ho.in_
    have hI := HI.out.on hb2
    obtain ⟨a0, a1, a2, -, -, -, -⟩ := hI.tb.three
    have hww := melt_within hme
    have H2 := Lib.hid (within2_any (rc := vc) ⟨HT.out.on hI.b, hv⟩)
    have HL := Lib.hid hv.len
    generalize withinV t out = R at *
    obtain ⟨⟨R1, R2⟩, R3⟩ := R
    dsimp only at *
    obtain ⟨rfl, hw1, hw2, hw3⟩ := hww
    have HWW := Lib.hid (And.intro hw1 (And.intro hw2 hw3))
    have HI := Lib.hid hI
    clear ho hv hb2 hI HM1 hme hw1 hw2 hw3 m0 m1 m2 m3 m4 m5
    go_wp2_with fail
    refine H2.out.mono ?_
    rintro e w3 ⟨v1, v2, rfl, h1, h2, hb3⟩
    obtain ⟨A1, q1, rfl, i1⟩ := h1.in_
    obtain ⟨A2, q2, rfl, i2⟩ := h2.in_
    have hI : WsI w A1 A2 R1 R2 w3 := ⟨i1, i2, HI.out.b.trans (hb3.mono HI.out.b.size)⟩
    have hl1 := i1.len
    have hl2 := i2.len
    have HS := Lib.hid hI
    clear h1 h2 i1 i2 hb3 hI H2 HI a0 a1 a2
    have HY := Lib.hid (fun (W : World) (hW : WsI w A1 A2 R1 R2 W) (z : Int) (hz : z ∈ R2) => lin_yes (c := q2) hW.ma hz)
    go_upto_region 6 with (fail)
    go_cut [62] (fun s62 wx => s62 = .bool false ∧ wx = w3)
    case first =>
      go_wp2_with (first | (go_at_call 43; first | ((with_reducible refine (HY.out _ HS.out _ HWW.out.1).mono ?_); rintro e w' ⟨rfl, rfl⟩) | ((with_reducible refine (HY.out _ HS.out _ (HWW.out.2.1 (by assumption))).mono ?_); rintro e w' ⟨rfl, rfl⟩)) | fail)
      all_goals go_meet
      all_goals exact ⟨rfl, rfl⟩
    case rest =>
      obtain ⟨rfl, hwx⟩ := hcut
      have HS := Lib.hid (show WsI w A1 A2 R1 R2 wc from hwx ▸ HS.out)
      clear hwx
      go_wp2_with fail
      go_loopw [15] (fun i wr => ∃ p : Nat, p ≤ R1.length ∧ i = .int .i64 p ∧ WsI w A1 A2 R1 R2 wr) (fun i _ => R1.length - (intOf i).toNat)
      case atStart => exact ⟨0, by omega, rfl, HS.out⟩
      case round =>
        obtain ⟨p, hpl, rfl, hI⟩ := hrel
        by_cases hlt : p < R1.length
        · obtain ⟨x, hx⟩ : ∃ x, R1[p]? = some x := ⟨R1[p], List.getElem?_eq_getElem hlt⟩
          have hxm := HWW.out.2.2 x (List.mem_of_getElem? hx)
          obtain ⟨b1, o1, rfl, hb1, c1⟩ := ints_at hI.mu.at_ hx
          have HX := Lib.hid hxm.2
          have hc := hxm.1
          clear hx hxm
          by_cases hxk : x = (k : Int)
          · have g0 : (x != (k : Int)) = false := by simp [hxk]
            clear hc hxk
            go_wp2_with (first | (go_at_call 43; (with_reducible refine (HY.out _ hI _ HX.out).mono ?_); rintro e w' ⟨rfl, rfl⟩) | fail)
            go_roundw
            case rel => exact ⟨p + 1, by omega, by go_num, hI⟩
            case measure => simp [intOf]; omega
          · have g0 : (x != (k : Int)) = true := by simpa using hxk
            have hc2 : x = (o : Int) ∧ m < 1000 := by
              rcases hc with h | h
              · exact absurd h hxk
              · exact h
            have g1 : (x != (o : Int)) = false := by simp [hc2.1]
            have g2 : (m == 1000) = false := by
              have h : ¬ m = 1000 := by omega
              simpa using h
            clear hc hxk hc2
            go_wp2_with (first | (go_at_call 43; (with_reducible refine (HY.out _ hI _ HX.out).mono ?_); rintro e w' ⟨rfl, rfl⟩) | fail)
            go_roundw
            case rel => exact ⟨p + 1, by omega, by go_num, hI⟩
            case measure => simp [intOf]; omega
        · go_wp2_with fail
          refine (HW.out _ hI.b).mono ?_
          rintro e w5 ⟨rfl, hb⟩
          go_wp2_with fail
          go_ret
          exact ⟨rfl, hI.b.trans (hb.mono hI.b.size)⟩
  · have hz : lookErr t [] ≠ 0 := by rw [lookErr_1 hc]; exact hc
    have hw : withinV t [] = (([], []), lookErr t []) := by unfold withinV; rw [if_pos hz]
    have H2 := Lib.hid (within2_any (rc := 0) (l := []) ⟨HT.out.on HI.out.b, nil_ints _⟩)
    rw [hw] at H2
    generalize lookErr t [] = z at *
    have hz2 : (z != 0) = true := by simpa using hz
    rw [decide_eq_false hc]
    clear HM hc hw hz m0 m1 m2 m3 m4 m5
    go_wp2_with fail
    refine H2.out.mono ?_
    rintro e w2 ⟨v1, v2, rfl, h1, h2, hb2⟩
    obtain ⟨A1, q1, rfl, i1⟩ := h1.in_
    obtain ⟨A2, q2, rfl, i2⟩ := h2.in_
    have HI := Lib.hid (HI.out.on hb2)
    clear h1 h2 i1 i2 hb2 H2
    go_wp2_with fail
    refine (HW.out _ HI.out.b).mono ?_
    rintro e w5 ⟨rfl, hb⟩
    go_wp2_with fail
    go_ret
    exact ⟨rfl, HI.out.b.trans (hb.mono HI.out.b.size)⟩
end Go.Proofs.YtnpajncolkafgaaGreatDoor
