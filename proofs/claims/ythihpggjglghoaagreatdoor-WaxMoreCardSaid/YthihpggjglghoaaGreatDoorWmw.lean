/- The contract of law 11, the walk: for every table, readings and further reading that stand in memory, the call returns true, and nothing below changes. Conditions: the base of the memory. -/
import Derived.Test.YthihpggjglghoaaGreatDoorFk
import Derived.Test.YthihpggjglghoaaGreatDoorAw
import Derived.RegionDies
import Derived.Deep.RegionLaw
import Derived.BigQuiet
namespace Go.Proofs.YthihpggjglghoaaGreatDoor
open Go.ChangeShapes Go.WideShapes Go.ChangeAt Go.RowKit

set_option maxRecDepth 100000 in
set_option maxHeartbeats 8000000 in
theorem wmore_any {w : World} (hB : Base w) {pa ka ra ua : Option Addr} {pc kc rc uc : Nat} {t : Tab} {l us : List Int} (xa xq xn : Int) (hxa : 0 ≤ xa ∧ xa ≤ 255) (hxq : 0 ≤ xq ∧ xq ≤ 255) (hxn : 0 ≤ xn ∧ xn ≤ 4294967295) (hU : U16In w ua us) (h : RdIn w pa ka ra pc kc t l) :
    Calls Tryz.prog 4 #[.agg #[.slice pa t.ps.length pc, .slice ka t.ks.length kc, .int .i64 t.pu], .slice ra l.length rc, .agg #[.int .u8 xa, .int .u8 xq, .int .u32 xn, .slice ua us.length uc]] w fun e w' => e = .returned (.bool true) ∧ Below w.heap.size w w' := by
  obtain ⟨i0, hi0, hz0, hz1, hz2⟩ := info_parts infoInt
  obtain ⟨j0, hj0, jz0, jz1, jz2⟩ := info_parts infoPr
  obtain ⟨s0, hs0, sz0, sz1, sz2⟩ := info_parts infoSp
  obtain ⟨k0, hk0, kz0, kz1, kz2⟩ := info_parts infoKd
  have I0 := Two.new w 38 #[.slice pa t.ps.length pc, .slice ka t.ks.length kc, .int .i64 t.pu] #[.int .u8 xa, .int .u8 xq, .int .u32 xn, .slice ua us.length uc]
  have hp := h.tab.tab.lp
  have hk := h.tab.tab.lk
  have hl := h.rds.len
  have HI := Lib.hid I0
  have HR := Lib.hid h
  have HU := Lib.hid hU
  have H1 := Lib.hid (rreadings_any (rc := rc) (h.on I0.b))
  have HW := Lib.hid (fun (W : World) (hW : Below w.heap.size w W) => awake_any (hB.on hW))
  clear h hB I0 hU
  go_enter Tryz.func4, Tryz.ntmps4
  go_wp2_with fail
  refine H1.out.mono ?_
  rintro e w1 ⟨rfl, hb1⟩
  have HI := Lib.hid (HI.out.on hb1)
  obtain ⟨a0, a1, a2, -, -, -, -⟩ := HI.out.tb.three
  have c0 : w1.cell? ⟨w.heap.size + 1, 0, none⟩ = some (.int .u8 xa) := HI.out.xb.cell 0
  clear hb1 H1
  by_cases h0 : lookErr t l = 0
  · have HS := Lib.hid (HR.out.sam h0)
    have HC0 := Lib.hid (lookErr_ok h0).1
    rw [h0]
    have hp5 := HS.out.val.np
    have hk8 := HS.out.val.nk
    have HLL := Lib.hid (show l.length = t.ps.length by have := reads_len HS.out.rok; omega)
    have hl5 : 1 ≤ l.length ∧ l.length ≤ 5 := by have := HLL.out; omega
    obtain ⟨a, hal, ea⟩ := tu_num (n := t.ks.length) (by omega) hxa.1
    obtain ⟨p, hpl, ep⟩ := tu_num (n := l.length) (by omega) hxq.1
    obtain ⟨r0, hr0⟩ : ∃ x, l[p]? = some x := ⟨l[p], List.getElem?_eq_getElem hpl⟩
    have z1 : ((t.ks.length : Int) == 0) = false := by
      have h : ¬ ((t.ks.length : Int) = 0) := by omega
      simpa using h
    have z2 : ¬ ((t.ks.length : Int) = 0) := by omega
    have hnn : ¬ t.ks = [] := fun e => by rw [e] at hk8; simp at hk8
    have hnr : ¬ l = [] := fun e => by rw [e] at hpl; simp at hpl
    have HF := Lib.hid (fun (s : Tab) (m : List Int) (hf : Finer s t) (hm : Further m l) (h1 : lookErr s m = 0) => And.intro (fine_soldV hf hm HS.out.val HLL.out h0 h1 hal).2 (fun z (hz : z ∈ setsV s m) => fine_sets hf hm HS.out.val HLL.out hz))
    have hqs := (fine_soldV (finer_self HS.out.val) (further_self l) HS.out.val HLL.out h0 h0 hal).1
    have hs1 : setsT t l = (setsV t l, 0) := by unfold setsT; rw [if_neg (by simpa using h0)]
    have H2 := Lib.hid (setsT_any (rc := rc) (HR.out.on HI.out.b))
    rw [hs1] at H2
    have H3 := Lib.hid (fun (W : World) (hW : Below w.heap.size w W) => sold_any (rc := rc) (HR.out.on hW) (a : Int))
    generalize setsV t l = S1 at *
    generalize soldV t l a = Q at *
    obtain ⟨⟨Q1, Q2⟩, Q3, Q4⟩ := Q
    dsimp only at *
    have HQ := Lib.hid hqs
    clear h0 hs1 hqs
    go_wp2_with fail
    refine H2.out.mono ?_
    rintro e w2 ⟨v2, rfl, h2, hb2⟩
    obtain ⟨A2, d2, rfl, i2⟩ := h2.in_
    have HI := Lib.hid (HI.out.on hb2)
    obtain ⟨a0, a1, a2, -, -, -, -⟩ := HI.out.tb.three
    clear h2 hb2 H2 c0
    go_wp2_with fail
    refine (H3.out _ HI.out.b).mono ?_
    rintro e w3 ⟨rfl, hb3⟩
    have hA3 := (Below.refl _ w3).alloc (Nat.le_refl _) (.cells #[.int .i64 Q1, .int .i64 Q2] 43)
    have HM := Lib.hid (show MoA w #[.slice pa t.ps.length pc, .slice ka t.ks.length kc, .int .i64 t.pu] #[.int .u8 xa, .int .u8 xq, .int .u32 xn, .slice ua us.length uc] A2 S1 w3.heap.size Q1 Q2 (w3.alloc (.cells #[.int .i64 Q1, .int .i64 Q2] 43)) from ⟨(HI.out.on hb3).on hA3, (i2.on hb3).on hA3, Blk.new w3 _ _⟩)
    clear hb3 H3 i2 HI a0 a1 a2 hA3
    go_upto_region 6 with (fail)
    go_cut [65] (fun s wx => s = .bool false ∧ wx = w3.alloc (.cells #[.int .i64 Q1, .int .i64 Q2] 43))
    case first =>
      --<0
      rcases HQ.out with rfl | rfl
      · go_wp2_with fail
        go_meet
        exact ⟨rfl, rfl⟩
      · go_wp2_with fail
        go_meet
        exact ⟨rfl, rfl⟩
      -->0
    case rest =>
      obtain ⟨rfl, hwx⟩ := hcut
      rw [← hwx] at HM
      clear hwx
      generalize w3.heap.size = SB at *
      obtain ⟨rb, ro, era, hrB, hrc⟩ := (HR.out.on HM.out.two.b).rds.at_ (by omega)
      subst era
      have hnews : ∀ (j : Nat) (u : Value), (l.map (Value.int .i64))[j]? = some u → (wc.alloc (.cells #[] 3)).cell? ((⟨rb, ro, none⟩ : Addr).add j) = some u := by
        intro j u hu
        rw [List.getElem?_map] at hu
        obtain ⟨x, hx, rfl⟩ := Option.map_eq_some_iff.1 hu
        have h1 := hrc j x hx 0 (by omega)
        rw [Nat.mul_one, Nat.add_zero] at h1
        have h2 := ((Below.refl _ wc).alloc (Nat.le_refl _) (.cells #[] 3)).cell (p := ⟨rb, ro + j, none⟩) hrB
        rw [add_plain]
        exact h2.trans h1
      have HN := Lib.hid hnews
      have HL0 := Lib.hid (World.ownsRow_lit (base := wc.heap.size) (e := 3) (size := 1) wc #[] 0 (Nat.le_refl _) (by unfold maxLen; omega) (by simp))
      clear hnews hrc
      go_wp2_with (first
        | (at_builtin; refine wpList_append_lies _ rfl _ _ 34 rfl wc.heap.size 3 i0 (.int .i64 0) 1 8 Tryz.underlying34 hi0 hz0 hz1 hz2 rfl (by decide) _ _ _ rfl HL0.out ⟨rb, ro, none⟩ l.length rc (l.map (Value.int .i64)) rfl (by simp) HN.out (ints_oneCell _ _) (by omega) ?c3 ?c4 ?c5 _ rfl ?_)
        | go_in)
      case c3 => unfold maxLen; omega
      case c4 => omega
      · intro g cap w4 hown hgrow hat hglt
        have hb4 : Below wc.heap.size wc w4 := ((Below.refl _ wc).alloc (Nat.le_refl _) _).grown hgrow (by simp) (fun r e => by cases e; exact Nat.le_refl _)
        have cp : w4.cell? ⟨g, p, none⟩ = some (.int .i64 r0) := by
          rw [hown.cellAt p (by omega), List.getElem?_map, hr0]; rfl
        have fp := hown.frozenAt p
        have m1 : w4.cell? ⟨w.heap.size + 1, 1, none⟩ = some (.int .u8 xq) := (HM.out.on hb4).two.xb.cell 1
        have m2 : w4.cell? ⟨w.heap.size + 1, 2, none⟩ = some (.int .u32 xn) := (HM.out.on hb4).two.xb.cell 2
        have HO := Lib.hid hown
        have HB4 := Lib.hid hb4
        have HR0 := Lib.hid hr0
        have HRE := Lib.hid (reads_ok HS.out.rok)
        have z3 : ((l.length : Int) == 0) = false := by
          have h : ¬ ((l.length : Int) = 0) := by omega
          simpa using h
        have z4 : ¬ ((l.length : Int) = 0) := by omega
        clear hown hgrow hat hb4 hr0 HN HL0
        go_upto_if 79 with (fail)
        go_cut [14] (fun s14 wx => s14 = .int .i64 p ∧ ∃ ml : List Int, Hid (MoF w #[.slice pa t.ps.length pc, .slice ka t.ks.length kc, .int .i64 t.pu] #[.int .u8 xa, .int .u8 xq, .int .u32 xn, .slice ua us.length uc] A2 S1 SB Q1 Q2 g ml wx) ∧ Hid (ml.length = l.length) ∧ Hid (Further ml l ∧ ∀ r ∈ ml, r = -1 ∨ 0 ≤ r ∧ r ≤ 100000))
        case first =>
          --<1
          by_cases hr : r0 = -1
          · subst hr
            obtain ⟨v, hv, hv2, hvb⟩ : ∃ v : Int, xn.tmod 100001 = v ∧ xn % 100001 = v ∧ 0 ≤ v ∧ v ≤ 100000 := ⟨xn % 100001, Int.tmod_eq_emod_of_nonneg hxn.1, rfl, by omega, by omega⟩
            have hst := HO.out.stored p (.int .i64 v)
            go_wp2_with fail
            go_meet
            refine ⟨rfl, l.set p v, ?_, (by show _ = _; simp), further_set v HR0.out, reads_set p hvb HRE.out⟩
            show MoF _ _ _ _ _ _ _ _ _ _ _
            refine MoF.of (cap := cap) HM.out (HB4.out.setCell (by have := (World.ownsRow.lt HO.out g rfl).1; exact this) _) ?_
            rw [List.map_set, List.length_set]
            exact hst.1
          · go_wp2_with fail
            go_meet
            exact ⟨rfl, l, MoF.of (cap := cap) HM.out HB4.out HO.out, rfl, further_self l, HRE.out⟩
          -->1
        case rest =>
          obtain ⟨rfl, ml, HMF, HML, HFU⟩ := hcut
          obtain ⟨WX, hWX⟩ : ∃ W, W = wc := ⟨_, rfl⟩
          subst hWX
          obtain ⟨a0, a1, a2, -, -, -, -⟩ := HMF.out.a.two.tb.three
          have HP0 := Lib.hid (FiP.new WX t.pu)
          have HMX := Lib.hid (fun (W : World) (hW : Below WX.heap.size WX W) => HMF.out.on hW)
          clear cp fp m1 m2 HO HB4 HR0 HRE HQ HM HI ea ep z1 z2 z3 z4
          go_wp2_with fail
          generalize WX.alloc (.cells #[.slice none 0 0, .slice none 0 0, .int .i64 t.pu] 25) = wb at *
          generalize WX.heap.size = X at *
          go_loopw [16] (fun i wr => ∃ k : Nat, k ≤ t.ps.length ∧ i = .int .i64 k ∧ (∃ v ps, Hid (FiP WX X t.pu v ps wr) ∧ Hid (Each FinP t.ps ps) ∧ ps.length = k)) (fun i _ => t.ps.length - (intOf i).toNat)
          case atStart => exact ⟨0, by omega, rfl, _, [], HP0, Each.nil _ _, rfl⟩
          case round =>
            obtain ⟨k, hkl, rfl, v, ps, HP, HEP, hpsl⟩ := hrel
            obtain ⟨va, vc, rfl⟩ := HP.out.shape
            rw [hpsl] at HP
            have hF := HMX.out wr HP.out.b
            obtain ⟨t0, t1, t2, t4, -, -, t6⟩ := HP.out.ob.three
            obtain ⟨a0, a1, a2, -, -, -, hxl⟩ := hF.a.two.tb.three
            have x3 : wr.cell? ⟨w.heap.size + 1, 3, none⟩ = some (.slice ua us.length uc) := hF.a.two.xb.cell 3
            by_cases hlt : k < t.ps.length
            ·
              --<2
              obtain ⟨⟨nm, er⟩, hx⟩ : ∃ x, t.ps[k]? = some x := ⟨t.ps[k], List.getElem?_eq_getElem hlt⟩
              have ge := HS.out.val.er _ (List.mem_of_getElem? hx)
              obtain ⟨pb, po, rfl, hpB, cN, cE⟩ := props_at (HR.out.on hF.a.two.b).tab.tab.ps hx
              dsimp only at ge cN cE
              have HX := Lib.hid hx
              have HUW := Lib.hid (fun (W : World) (hW : Below wr.heap.size wr W) => (HU.out.on hF.a.two.b).on hW)
              have HNN := Lib.hid (⟨by unfold maxLen; omega, by omega⟩ : k + 1 ≤ maxLen ∧ (k + 1) * 24 ≤ 140737488355328)
              have HRW := Lib.hid (fun (W : World) (hW : Below wr.heap.size wr W) => show W.ownsRow (X + 1) 47 2 (.slice va k vc) k (propCells ps) by
                have h := (HP.out.on hW).row
                unfold PropsOut at h
                rwa [hpsl] at h)
              have HCK := Lib.hid (fun (W : World) (hW : Below wr.heap.size wr W) => And.intro (kept_of hW _ _ t0) ((hW.frozen (p := ⟨X, 0, none⟩) t6).trans t4))
              have aX : some X ≠ Value.ownBlock (.slice va k vc) := fun e => by have := (World.ownsRow.lt HP.out.row _ e.symm).1; omega
              have ke : IntKind.i64.wrap (er + 1) = er + 1 := IntWalk.i64_in _ (by omega)
              have ze : (er + 1 == 0) = false := by
                have h : ¬ (er + 1 = 0) := by omega
                simpa using h
              have ze2 : ¬ (er + 1 = 0) := by omega
              have HPL := Lib.hid hpsl
              have HRO := Lib.hid (show ∀ r, Value.ownBlock (.slice va k vc) = some r → X ≤ r from fun r e => Nat.le_of_succ_le (World.ownsRow.lt HP.out.row r e).1)
              have HL := Lib.hid (fun (W : World) (hW : Below X WX W) => show W.cell? ⟨w.heap.size, 0, none⟩ = some (.slice (some ⟨pb, po, none⟩) t.ps.length pc) ∧ W.cell? ⟨pb, po + k * 2, none⟩ = some (.string nm) ∧ W.cell? ⟨pb, po + k * 2 + 1, none⟩ = some (.int .i64 er) ∧ W.cell? ⟨w.heap.size + 1, 3, none⟩ = some (.slice ua us.length uc) ∧ Below X WX W by
                have hf := HMX.out W hW
                obtain ⟨b0, -, -, -, -, -, -⟩ := hf.a.two.tb.three
                obtain ⟨pb', po', e, -, dN, dE⟩ := props_at (HR.out.on hf.a.two.b).tab.tab.ps hx
                simp only [Option.some.injEq, Addr.mk.injEq, and_true] at e
                obtain ⟨rfl, rfl⟩ := e
                exact ⟨b0, dN, dE, hf.a.two.xb.cell 3, hW⟩)
              clear hF hx hpsl x3 cN cE HRO aX HCK HRW HNN ke ze ze2
              go_upto_region 16 with (fail)
              refine wp_of_eq (more_r16 HP HPL hlt hp5.2 HL HUW ge ?_) (by kernel_rfl)
              intro v97 v98 v99 v100 v101 v102 v103 v104 v105 v106 v107 v108 v109 v110 v111 v112 v113 v114 v115 v116 v117 v118 v119 v120 v121 v122 v123 v124 v125 v126 v127 gg cap q W2 hqb HW7
              go_wp2_with fail
              go_roundw
              case rel => exact ⟨k + 1, Nat.succ_le_of_lt hlt, by go_num, _, ps ++ [⟨nm, er - q⟩], HW7, Each.more HEP.out (by rw [HPL.out]; exact HX.out) (fin_p nm hqb), by rw [List.length_append, HPL.out]; rfl⟩
              case measure => exact meas_one hlt
              -->2
            · have hke : k = t.ps.length := by omega
              have HKI := Lib.hid HP.out.kinds
              have HPS := Lib.hid (And.intro HEP.out (hpsl.trans hke))
              obtain ⟨KB, hKB⟩ : ∃ n, n = wr.heap.size := ⟨_, rfl⟩
              rw [← hKB] at HKI
              clear hF x3 HEP HP t0 t1 t2 t4 t6 hke hpsl hKB
              go_wp2_with fail
              refine wp_of_eq (more_l17 HU HR HS hp5 hk8 HMX HKI ?_) (by kernel_rfl)
              intro f ka2 kc2 ks wr HK HEK hksl
              have hF := HMX.out _ HK.out.b
              obtain ⟨t0, t1, t2, -, t5, -, t6⟩ := HK.out.ob.three
              obtain ⟨a0, a1, a2, -, -, -, hxl⟩ := hF.a.two.tb.three
              --<8
              obtain rfl : k = t.ps.length := by have h1 := (HK.out.tab (fits_finer (finer_of HPS.out.1 HPS.out.2 HEK.out hksl) HR.out.tab.fit)).1; have h2 := HPS.out.2; omega
              have hfin : Finer ⟨ps, ks, t.pu⟩ t := finer_of HPS.out.1 HPS.out.2 HEK.out hksl
              have htab := HK.out.tab (fits_finer hfin HR.out.tab.fit)
              have hlt0 := fine_look (finer_self HS.out.val) HC0.out (HML.out.trans HLL.out) HFU.out.2
              have hlf := fine_look hfin HC0.out (HML.out.trans HLL.out) HFU.out.2
              have hsf := HF.out _ ml hfin HFU.out.1 hlf
              have hst := HF.out _ ml (finer_self HS.out.val) HFU.out.1 hlt0
              have hAl := (Below.refl _ wr).alloc (Nat.le_refl _) (.cells #[.slice pa t.ps.length pc, .slice ka t.ks.length kc, .int .i64 t.pu, .slice va t.ps.length vc, .slice ka2 t.ks.length kc2, .int .i64 t.pu] 25)
              have hbk := Blk.new wr 25 #[.slice pa t.ps.length pc, .slice ka t.ks.length kc, .int .i64 t.pu, .slice va t.ps.length vc, .slice ka2 t.ks.length kc2, .int .i64 t.pu]
              have hmf := hF.on hAl
              have HT2 := Lib.hid (show ∀ i, i < 2 → ∃ pa' ka' pc' kc' s, OfT wr.heap.size i (some ⟨g, 0, none⟩) t ml S1 Q1 Q2 Q4 a pa' ka' pc' kc' s (wr.alloc (.cells #[.slice pa t.ps.length pc, .slice ka t.ks.length kc, .int .i64 t.pu, .slice va t.ps.length vc, .slice ka2 t.ks.length kc2, .int .i64 t.pu] 25)) from by
                intro i hi
                match i, hi with
                | 0, _ => exact ⟨pa, ka, pc, kc, t, ⟨hbk.cell 0, hbk.cell 1, hbk.cell 2, hbk.lt⟩, ⟨(HR.out.on hmf.a.two.b).tab, hmf.mo⟩, hlt0, hst.1, hst.2⟩
                | 1, _ => exact ⟨va, ka2, vc, kc2, ⟨ps, ks, t.pu⟩, ⟨by show _ = some (Value.slice va ps.length vc); rw [HPS.out.2]; exact hbk.cell 3, by show _ = some (Value.slice ka2 ks.length kc2); rw [hksl]; exact hbk.cell 4, hbk.cell 5, hbk.lt⟩, ⟨htab.2.2.on hAl, hmf.mo⟩, hlf, hsf.1, hsf.2⟩)
              have HMF3 := Lib.hid hmf
              clear hfin htab hlt0 hlf hsf hst hAl hbk hmf hF HK HEK HPS HKI HP0 hksl HF HU
              go_wp2_with fail
              generalize wr.alloc (.cells #[.slice pa t.ps.length pc, .slice ka t.ks.length kc, .int .i64 t.pu, .slice va t.ps.length vc, .slice ka2 t.ks.length kc2, .int .i64 t.pu] 25) = W3 at *
              generalize wr.heap.size = TB at *
              clear a0 a1 a2 t0 t1 t2 t5 t6
              go_loopw [23] (fun i wz => ∃ q : Nat, q ≤ 2 ∧ i = .int .i64 q ∧ Hid (Below W3.heap.size W3 wz)) (fun i _ => 2 - (intOf i).toNat)
              case atStart => exact ⟨0, by omega, rfl, Below.refl _ _⟩
              case round =>
                obtain ⟨q, hq, rfl, HB⟩ := hrel
                by_cases hlq : q < 2
                · obtain ⟨pa', ka', pc', kc', s, hO⟩ := HT2.out q hlq
                  have HO := Lib.hid (hO.on HB.out)
                  have h2 := setsT_any (rc := cap) HO.out.rd
                  rw [show setsT s ml = (setsV s ml, 0) from by unfold setsT; rw [if_neg (by simpa using HO.out.look)], HML.out] at h2
                  have H2 := Lib.hid h2
                  obtain ⟨c0, c1, c2, -⟩ := HO.out.two
                  have HSO := Lib.hid HO.out.sold
                  have HSE := Lib.hid HO.out.sets
                  generalize setsV s ml = S2 at *
                  clear h2 hO
                  go_wp2_with fail
                  refine H2.out.mono ?_
                  rintro e w2 ⟨v2, rfl, h2, hb2⟩
                  obtain ⟨A3, d3, rfl, i3⟩ := h2.in_
                  have HO2 := Lib.hid (HO.out.on hb2)
                  have HB2 := Lib.hid (HB.out.trans (hb2.mono HB.out.size))
                  have h3 := sold_any (rc := cap) HO2.out.rd (a : Int)
                  rw [HML.out] at h3
                  have H3 := Lib.hid h3
                  have HI3 := Lib.hid i3
                  clear c0 c1 c2 h3 h2 hb2 H2 i3
                  obtain ⟨c0, c1, c2, -⟩ := HO2.out.two
                  generalize soldV s ml a = QQ at *
                  obtain ⟨⟨lo, hi⟩, vd, er⟩ := QQ
                  dsimp only at HSO H3
                  go_wp2_with fail
                  refine H3.out.mono ?_
                  rintro e w3 ⟨rfl, hb3⟩
                  have hA3 := (Below.refl _ w3).alloc (Nat.le_refl _) (.cells #[.int .i64 lo, .int .i64 hi] 43)
                  have HB3 := Lib.hid ((HB2.out.trans (hb3.mono HB2.out.size)).trans (hA3.mono (HB2.out.trans (hb3.mono HB2.out.size)).size))
                  have HI5 := Lib.hid ((HI3.out.on hb3).on hA3)
                  obtain ⟨r0, r1, -, -, -⟩ := (Blk.new w3 43 #[.int .i64 lo, .int .i64 hi]).two
                  obtain ⟨b0, b1, -, -, -⟩ := (HMF3.out.on HB3.out).a.sb.two
                  clear c0 c1 c2 hb3 hA3 H3 HO HO2 HB HB2 HI3
                  go_upto_region 34 with (fail)
                  go_cut [250] (fun s wx => s = .bool false ∧ wx = w3.alloc (.cells #[.int .i64 lo, .int .i64 hi] 43))
                  case first =>
                    rcases HSO.out with ⟨e1, e2, e3, e4⟩ | e1
                    · subst e1
                      subst e2
                      have n1 : ¬ lo < Q1 := by omega
                      have n2 : ¬ Q2 < hi := by omega
                      go_wp2_with fail
                      go_meet
                      exact ⟨rfl, rfl⟩
                    · subst e1
                      go_wp2_with fail
                      go_meet
                      exact ⟨rfl, rfl⟩
                  case rest =>
                    obtain ⟨rfl, hwx⟩ := hcut
                    rw [← hwx] at HB3 HI5
                    clear hwx r0 r1 b0 b1
                    obtain ⟨W5, hW5⟩ : ∃ W, W = wc := ⟨_, rfl⟩
                    subst hW5
                    have HS1 := Lib.hid (HMF3.out.on HB3.out).a.sl
                    have hsl := HI5.out.len
                    go_wp2_with fail
                    go_loopw [29] (fun i wy => ∃ j : Nat, j ≤ S2.length ∧ i = .int .i64 j ∧ Hid (Below W5.heap.size W5 wy)) (fun i _ => S2.length - (intOf i).toNat)
                    case atStart => exact ⟨0, by omega, rfl, Below.refl _ _⟩
                    case round =>
                      obtain ⟨j, hj, rfl, HB6⟩ := hrel
                      by_cases hlj : j < S2.length
                      · obtain ⟨z, hz⟩ : ∃ z, S2[j]? = some z := ⟨S2[j], List.getElem?_eq_getElem hlj⟩
                        have hzm := HSE.out z (List.mem_of_getElem? hz)
                        obtain ⟨zb, zo, rfl, _, cz⟩ := ints_at (HI5.out.on HB6.out).at_ hz
                        have HY := Lib.hid (lin_yes (c := d2) (HS1.out.on HB6.out) hzm)
                        clear hz hzm
                        go_wp2_with fail
                        refine HY.out.mono ?_
                        rintro e w' ⟨rfl, hw'⟩
                        rw [hw']
                        clear hw'
                        go_wp2_with fail
                        go_roundw
                        case rel => exact ⟨j + 1, Nat.succ_le_of_lt hlj, by go_num, HB6⟩
                        case measure => first | exact meas_one hlj | (simp [intOf]; omega)
                      · go_wp2_with fail
                        go_roundw
                        case rel => exact ⟨q + 1, Nat.succ_le_of_lt hlq, by go_num, HB3.out.trans (HB6.out.mono HB3.out.size)⟩
                        case measure => first | exact meas_one hlq | (simp [intOf]; omega)
                · have hqe : q = 2 := by omega
                  have HBW := Lib.hid (HMF3.out.on HB.out).a.two.b
                  go_wp2_with fail
                  refine (HW.out _ HBW.out).mono ?_
                  rintro e w5 ⟨rfl, hb⟩
                  go_wp2_with fail
                  go_ret
                  exact ⟨rfl, HBW.out.trans (hb.mono HBW.out.size)⟩
              -->8
  · have hz2 : (lookErr t l != 0) = true := by simpa using h0
    generalize lookErr t l = z at *
    clear h0
    go_wp2_with fail
    refine (HW.out _ HI.out.b).mono ?_
    rintro e w5 ⟨rfl, hb⟩
    go_wp2_with fail
    go_ret
    exact ⟨rfl, HI.out.b.trans (hb.mono HI.out.b.size)⟩
end Go.Proofs.YthihpggjglghoaaGreatDoor
