/- MouldWider: the law. -/
import Derived.Test.YtljbjcnfkbmjkaaMm0
import Derived.Test.YtljbjcnfkbmjkaaMm1
namespace Go.Proofs.Ytljbjcnfkbmjkaa
open Go.RowKit Go.Shelf Go.Maps
attribute [local go_sem] Oper.semAt_some

/-- .. and both skins. -/
structure WdC (w : World) (m : Md) (y0 y1 y2 y3 y4 : Int) (G : Nat) (Aw : Option Addr) (wl : List (Int × Int)) (p q r s : Int) (Av : Option Addr) (vl : List (Int × Int)) (K1 : Nat) (k0 k1 : Int) (K2 : Nat) (j0 j1 : Int) (W : World) : Prop where
  d : WdB w m y0 y1 y2 y3 y4 G Aw wl p q r s W
  v : SpansIn W Av vl
  a : Blk W K1 23 #[.int .i64 k0, .int .i64 k1]
  b : Blk W K2 23 #[.int .i64 j0, .int .i64 j1]
theorem WdC.on {w W W' : World} {m : Md} {y0 y1 y2 y3 y4 : Int} {G : Nat} {Aw : Option Addr} {wl : List (Int × Int)} {p q r s : Int} {Av : Option Addr} {vl : List (Int × Int)} {K1 : Nat} {k0 k1 : Int} {K2 : Nat} {j0 j1 : Int} (h : WdC w m y0 y1 y2 y3 y4 G Aw wl p q r s Av vl K1 k0 k1 K2 j0 j1 W) (hb : Below W.heap.size W W') : WdC w m y0 y1 y2 y3 y4 G Aw wl p q r s Av vl K1 k0 k1 K2 j0 j1 W' :=
  ⟨h.d.on hb, h.v.on hb, h.a.on hb, h.b.on hb⟩
set_option maxRecDepth 100000 in
set_option maxHeartbeats 8000000 in
theorem lwider_any (m : Md) {w : World} {B : Option Addr} {d : Nat} {l : List Int} (hl : IntsIn w B l) (y0 y1 y2 y3 y4 : Int) (h0 : 0 ≤ y0 ∧ y0 ≤ 65535) (h1 : 0 ≤ y1 ∧ y1 ≤ 65535) (h2 : 0 ≤ y2 ∧ y2 ≤ 65535) (h3 : 0 ≤ y3 ∧ y3 ≤ 65535) (h4 : 0 ≤ y4 ∧ y4 ≤ 65535) :
    Calls Try.prog 16 #[.agg #[.int .i64 m.rings, .int .i64 m.give, .int .i64 m.plo, .int .i64 m.phi, .int .i64 m.wlo, .int .i64 m.whi, .int .i64 m.st, .int .i64 m.shrink, .int .i64 m.skin, .int .i64 m.fill, .int .i64 m.gap, .int .i64 m.deep], .slice B l.length d, .agg #[.int .u16 y0, .int .u16 y1, .int .u16 y2, .int .u16 y3, .int .u16 y4]] w fun e w' => e = .returned (.bool true) ∧ Below w.heap.size w w' := by
  have HM : Hid (MdBk w w.heap.size 25 m ((w.alloc (.cells #[.int .i64 m.rings, .int .i64 m.give, .int .i64 m.plo, .int .i64 m.phi, .int .i64 m.wlo, .int .i64 m.whi, .int .i64 m.st, .int .i64 m.shrink, .int .i64 m.skin, .int .i64 m.fill, .int .i64 m.gap, .int .i64 m.deep] 25)).alloc (.cells #[.int .u16 y0, .int .u16 y1, .int .u16 y2, .int .u16 y3, .int .u16 y4] 79)) ∧ Blk ((w.alloc (.cells #[.int .i64 m.rings, .int .i64 m.give, .int .i64 m.plo, .int .i64 m.phi, .int .i64 m.wlo, .int .i64 m.whi, .int .i64 m.st, .int .i64 m.shrink, .int .i64 m.skin, .int .i64 m.fill, .int .i64 m.gap, .int .i64 m.deep] 25)).alloc (.cells #[.int .u16 y0, .int .u16 y1, .int .u16 y2, .int .u16 y3, .int .u16 y4] 79)) (w.heap.size + 1) 79 #[.int .u16 y0, .int .u16 y1, .int .u16 y2, .int .u16 y3, .int .u16 y4]) :=
    ⟨⟨(Blk.new w _ _).alloc _, ((Below.refl _ w).alloc (Nat.le_refl _) _).alloc (by simp) _⟩, Blk.new1 w _ _ _⟩
  obtain ⟨N, hN⟩ : ∃ N : Nat, y0 % 601 = (N : Int) := ⟨(y0 % 601).toNat, by omega⟩
  have hN6 := Lib.hid (show N ≤ 600 by omega)
  have HC := Lib.hid (fun W => rcheck_any m W)
  obtain ⟨nl, hnl⟩ : ∃ nl : Nat, l.length = nl := ⟨_, rfl⟩
  rw [hnl]
  by_cases hck : checkM m = 0
  · rw [hck] at HC
    have hok := checkM_ok.1 hck
    obtain ⟨p, hp⟩ : ∃ p, p = max 0 (m.plo - y1 % 100) := ⟨_, rfl⟩
    obtain ⟨q, hq⟩ : ∃ q, q = min 2000 (m.phi + y2 % 100) := ⟨_, rfl⟩
    obtain ⟨r, hr⟩ : ∃ r, r = max 0 (m.wlo - y3 % 100) := ⟨_, rfl⟩
    obtain ⟨s, hs⟩ : ∃ s, s = min 2000 (m.whi + y4 % 100) := ⟨_, rfl⟩
    have hw := WideOk.of hok (by omega) (by omega) (by omega) (by omega) hp hq hr hs
    have HP := Lib.hid hp
    have HQ := Lib.hid hq
    have HRr := Lib.hid hr
    have HSs := Lib.hid hs
    clear hp hq hr hs
    have hck2 := checkM_ok.2 hw.ok2
    obtain ⟨a, ha⟩ : ∃ a, wh m false = a := ⟨_, rfl⟩
    obtain ⟨b, hb⟩ : ∃ b, wh m true = b := ⟨_, rfl⟩
    obtain ⟨a2, ha2⟩ : ∃ a2, wh (widen m p q r s) false = a2 := ⟨_, rfl⟩
    obtain ⟨b2, hb2⟩ : ∃ b2, wh (widen m p q r s) true = b2 := ⟨_, rfl⟩
    obtain ⟨w1, w2⟩ := hw.ab ha hb ha2 hb2
    have s1 : ¬ (setN b N < setN b2 N) := by have := setN_mono w2 (Int.le_refl (N : Int)); omega
    have s2 : ¬ (setN a2 N < setN a N) := by have := setN_mono w1 (Int.le_refl (N : Int)); omega
    obtain ⟨t1, t2⟩ := warm_wide hok.toMdIn hw.h1 hw.h2 hw.h3 hw.h4 N
    obtain ⟨x1, x2, x3, x4, e0, hx⟩ : ∃ x1 x2 x3 x4 e0, hollR m l = (((x1, x2), (x3, x4)), e0) := ⟨_, _, _, _, _, rfl⟩
    obtain ⟨v1, v2, v3, v4, f0, hv⟩ : ∃ x1 x2 x3 x4 e0, hollR (widen m p q r s) l = (((x1, x2), (x3, x4)), e0) := ⟨_, _, _, _, _, rfl⟩
    have HHx := Lib.hid (hollow_law hnl hx)
    have HHv0 := hollow_law hnl hv
    have HHv : Hid (∀ (W : World) (B : Option Addr) (d : Nat), IntsIn W B l → Calls Try.prog 31 #[.agg #[.int .i64 m.rings, .int .i64 m.give, .int .i64 p, .int .i64 q, .int .i64 r, .int .i64 s, .int .i64 m.st, .int .i64 m.shrink, .int .i64 m.skin, .int .i64 m.fill, .int .i64 m.gap, .int .i64 m.deep], .slice B nl d] W fun e w' => e = .returned (.tuple #[.agg #[.int .i64 v1, .int .i64 v2, .int .i64 v3, .int .i64 v4], .int .i64 f0]) ∧ Below W.heap.size W w') := HHv0
    have HHO := Lib.hid (fun (h : f0 = 0) => hw.holl hx (by rw [hv, h]))
    have HWm := Lib.hid (fun W => warm_law hck hN6.out W)
    have HWv0 := fun W => warm_law hck2 hN6.out W
    have HWv : Hid (∀ W, Calls Try.prog 23 #[.agg #[.int .i64 m.rings, .int .i64 m.give, .int .i64 p, .int .i64 q, .int .i64 r, .int .i64 s, .int .i64 m.st, .int .i64 m.shrink, .int .i64 m.skin, .int .i64 m.fill, .int .i64 m.gap, .int .i64 m.deep], .int .i64 (N : Int)] W fun e w' => ∃ A c, e = .returned (.tuple #[.slice A (kR m) c, .int .i64 0]) ∧ SpansIn w' A (zipS (warmL (widen m p q r s) false N) (warmL (widen m p q r s) true N)) ∧ Below W.heap.size W w') := HWv0
    have HSm := Lib.hid (fun W => skin_law hck ha hb hN6.out W)
    have HSv0 := fun W => skin_law hck2 ha2 hb2 hN6.out W
    have HSv : Hid (∀ W, Calls Try.prog 29 #[.agg #[.int .i64 m.rings, .int .i64 m.give, .int .i64 p, .int .i64 q, .int .i64 r, .int .i64 s, .int .i64 m.st, .int .i64 m.shrink, .int .i64 m.skin, .int .i64 m.fill, .int .i64 m.gap, .int .i64 m.deep], .int .i64 (N : Int)] W fun e w' => e = .returned (.tuple #[.agg #[.int .i64 (setN b2 N), .int .i64 (setN a2 N)], .int .i64 0]) ∧ Below W.heap.size W w') := HSv0
    have hk8 : kR m ≤ 8 := (kR_le hok.toMdIn).2
    have hlc := Lib.hid (warmL_length m false N)
    have hlh := Lib.hid (warmL_length m true N)
    have hlc2 : Hid ((warmL (widen m p q r s) false N).length = kR m) := warmL_length _ false N
    have hlh2 : Hid ((warmL (widen m p q r s) true N).length = kR m) := warmL_length _ true N
    have HT1 := Lib.hid t1
    have HT2 := Lib.hid t2
    have e11 := hok.plo
    have e12 := hok.phi
    have e13 := hok.wlo
    have e14 := hok.whi
    have HE1 := Lib.hid (And.intro e11 (And.intro e12 (And.intro e13 e14)))
    have HY := Lib.hid (And.intro h1 (And.intro h2 (And.intro h3 h4)))
    have HLL := Lib.hid hl
    clear HHv0 HWv0 HSv0 t1 t2 w1 w2 hw hck2 hck hok ha hb ha2 hb2 hx hv e11 e12 e13 e14 h1 h2 h3 h4 hl hnl
    generalize setN b N = k0 at *
    generalize setN a N = k1 at *
    generalize setN b2 N = j0 at *
    generalize setN a2 N = j1 at *
    generalize warmL m false N = cl at *
    generalize warmL m true N = hl at *
    generalize warmL (widen m p q r s) false N = cl2 at *
    generalize warmL (widen m p q r s) true N = hl2 at *
    go_enter Try.func16, Try.ntmps16
    obtain ⟨z0, z1, z2, z3, z4, z5, z6, z7, z8, z9, z10, z11⟩ := HM.out.1.cells
    have u0 := HM.out.2.cell 0
    have hu0 := HM.out.2.lt
    go_upto_region 6 with (first
      | (go_at_call 23; (with_reducible refine (HWm.out _).mono ?_); rintro e w1 ⟨Aw, cw, rfl, i1, hb⟩; have H1 := Lib.hid (And.intro (HM.out.1.on hb) (And.intro (HM.out.2.on hb) i1)); clear z0 z1 z2 z3 z4 z5 z6 z7 z8 z9 z10 z11 u0 hu0; obtain ⟨z0, z1, z2, z3, z4, z5, z6, z7, z8, z9, z10, z11⟩ := H1.out.1.cells; clear hb i1)
      | (go_at_call 19; (with_reducible refine (HC.out _).mono ?_); rintro e w2 ⟨rfl, hb⟩; have HG : Hid (WdB w m y0 y1 y2 y3 y4 w2.heap.size Aw (zipS cl hl) m.plo m.phi m.wlo m.whi (w2.alloc (.cells #[.int .i64 m.rings, .int .i64 m.give, .int .i64 m.plo, .int .i64 m.phi, .int .i64 m.wlo, .int .i64 m.whi, .int .i64 m.st, .int .i64 m.shrink, .int .i64 m.skin, .int .i64 m.fill, .int .i64 m.gap, .int .i64 m.deep] 25))) := ⟨(H1.out.1.on hb).on ((Below.refl _ _).alloc (Nat.le_refl _) _), (H1.out.2.1.on hb).on ((Below.refl _ _).alloc (Nat.le_refl _) _), Blk.new w2 _ _, RowAt.below ((H1.out.2.2.on hb).at_) ((Below.refl _ _).alloc (Nat.le_refl _) _) (Nat.le_refl _), (H1.out.2.1.on hb).lt⟩; clear z0 z1 z2 z3 z4 z5 z6 z7 z8 z9 z10 z11; obtain ⟨z0, z1, z2, z3, z4, z5, z6, z7, z8, z9, z10, z11⟩ := (H1.out.1.on hb).cells; clear hb)
      | fail)
    clear z0 z1 z2 z3 z4 z5 z6 z7 z8 z9 z10 z11
    refine wp_of_eq (wd6_region HE1.out.1 HE1.out.2.1 HY.out.1 HY.out.2.1 HP.out HQ.out HG (Lib.hid fun u39 u40 u41 u42 u43 u44 u45 u46 u47 u48 u49 u50 u51 u52 u53 u54 u55 u56 u57 u58 W6 i6 => ?_)) (by kernel_rfl)
    have H6 := Lib.hid i6
    clear i6 HG
    go_upto_region 7 with (fail)
    refine wp_of_eq (wd7_region HE1.out.2.2.1 HE1.out.2.2.2 HY.out.2.2.1 HY.out.2.2.2 HRr.out HSs.out H6 (Lib.hid fun u59 u60 u61 u62 u63 u64 u65 u66 u67 u68 u69 u70 u71 u72 u73 u74 u75 u76 u77 u78 W7 i7 => ?_)) (by kernel_rfl)
    have H7 := Lib.hid i7
    clear i7 H6 HP HQ HRr HSs
    have y0' := H7.out.g.cell 0; have y1' := H7.out.g.cell 1; have y2' := H7.out.g.cell 2; have y3' := H7.out.g.cell 3; have y4' := H7.out.g.cell 4; have y5' := H7.out.g.cell 5; have y6' := H7.out.g.cell 6; have y7' := H7.out.g.cell 7; have y8' := H7.out.g.cell 8; have y9' := H7.out.g.cell 9; have y10' := H7.out.g.cell 10; have y11' := H7.out.g.cell 11
    go_wp2_with (first
      | (go_at_call 23; (with_reducible refine (HWv.out _).mono ?_); rintro e w8 ⟨Av, cv, rfl, i8, hb⟩; have H8 := Lib.hid (And.intro (H7.out.on hb) i8); clear y0' y1' y2' y3' y4' y5' y6' y7' y8' y9' y10' y11'; obtain ⟨z0, z1, z2, z3, z4, z5, z6, z7, z8, z9, z10, z11⟩ := H8.out.1.bm.cells; clear hb i8)
      | (go_at_call 29; (with_reducible refine (HSm.out _).mono ?_); rintro e w9 ⟨rfl, hb⟩; have HA9 := Lib.hid ((Below.refl _ w9).alloc (Nat.le_refl _) (.cells #[.int .i64 k0, .int .i64 k1] 23)); have H9 : Hid (WdB w m y0 y1 y2 y3 y4 w2.heap.size Aw (zipS cl hl) p q r s (w9.alloc (.cells #[.int .i64 k0, .int .i64 k1] 23)) ∧ SpansIn (w9.alloc (.cells #[.int .i64 k0, .int .i64 k1] 23)) Av (zipS cl2 hl2) ∧ Blk (w9.alloc (.cells #[.int .i64 k0, .int .i64 k1] 23)) w9.heap.size 23 #[.int .i64 k0, .int .i64 k1]) := ⟨(H8.out.1.on hb).on HA9.out, (H8.out.2.on hb).on HA9.out, Blk.new w9 _ _⟩; clear z0 z1 z2 z3 z4 z5 z6 z7 z8 z9 z10 z11; have y0' := H9.out.1.g.cell 0; have y1' := H9.out.1.g.cell 1; have y2' := H9.out.1.g.cell 2; have y3' := H9.out.1.g.cell 3; have y4' := H9.out.1.g.cell 4; have y5' := H9.out.1.g.cell 5; have y6' := H9.out.1.g.cell 6; have y7' := H9.out.1.g.cell 7; have y8' := H9.out.1.g.cell 8; have y9' := H9.out.1.g.cell 9; have y10' := H9.out.1.g.cell 10; have y11' := H9.out.1.g.cell 11; clear hb)
      | (go_at_call 29; (with_reducible refine (HSv.out _).mono ?_); rintro e wA ⟨rfl, hb⟩; have HAA := Lib.hid ((Below.refl _ wA).alloc (Nat.le_refl _) (.cells #[.int .i64 j0, .int .i64 j1] 23)); have HA : Hid (WdC w m y0 y1 y2 y3 y4 w2.heap.size Aw (zipS cl hl) p q r s Av (zipS cl2 hl2) w9.heap.size k0 k1 wA.heap.size j0 j1 (wA.alloc (.cells #[.int .i64 j0, .int .i64 j1] 23))) := ⟨(H9.out.1.on hb).on HAA.out, (H9.out.2.1.on hb).on HAA.out, (H9.out.2.2.on hb).on HAA.out, Blk.new wA _ _⟩; clear y0' y1' y2' y3' y4' y5' y6' y7' y8' y9' y10' y11'; have d0 := (H9.out.2.2.on hb).cell 0; have d1 := (H9.out.2.2.on hb).cell 1; have hdl := (H9.out.2.2.on hb).lt; clear hb)
      | fail)
    clear H7 H8 H9 d0 d1 hdl
    go_loopw [17] (fun i W => ∃ (k : Nat), k ≤ kR m ∧ i = .int .i64 k ∧ Hid (WdC w m y0 y1 y2 y3 y4 w2.heap.size Aw (zipS cl hl) p q r s Av (zipS cl2 hl2) w9.heap.size k0 k1 wA.heap.size j0 j1 W)) (fun i _ => kR m - (intOf i).toNat)
    case atStart => exact ⟨0, Nat.zero_le _, rfl, HA⟩
    case round =>
      obtain ⟨k, hk, rfl, HS⟩ := hrel
      clear HA
      by_cases hlt : k < kR m
      · have hlt' : (k : Int) < kR m := by omega
        obtain ⟨g0, hg0⟩ : ∃ x, cl[k]? = some x := ⟨cl[k]'(by rw [hlc.out]; exact hlt), List.getElem?_eq_getElem _⟩
        obtain ⟨g1, hg1⟩ : ∃ x, hl[k]? = some x := ⟨hl[k]'(by rw [hlh.out]; exact hlt), List.getElem?_eq_getElem _⟩
        obtain ⟨n0, hn0⟩ : ∃ x, cl2[k]? = some x := ⟨cl2[k]'(by rw [hlc2.out]; exact hlt), List.getElem?_eq_getElem _⟩
        obtain ⟨n1, hn1⟩ : ∃ x, hl2[k]? = some x := ⟨hl2[k]'(by rw [hlh2.out]; exact hlt), List.getElem?_eq_getElem _⟩
        have o1' := HT1.out.get hn0 hg0
        have o2' := HT2.out.get hg1 hn1
        obtain ⟨b1, o1, rfl, _, _, _⟩ := spans_at HS.out.d.v (zip_get hg0 hg1)
        obtain ⟨b2, o2, rfl, _, _, _⟩ := spans_at HS.out.v.at_ (zip_get hn0 hn1)
        have HX := Lib.hid (zip_get hg0 hg1)
        have HV := Lib.hid (zip_get hn0 hn1)
        clear hg0 hg1 hn0 hn1
        go_wp2_with fail
        refine wp_of_eq (lw16_region (fun W W' h hb => h.on hb) hlt' (fun W (h : WdC w m y0 y1 y2 y3 y4 w2.heap.size (some ⟨b1, o1, none⟩) (zipS cl hl) p q r s (some ⟨b2, o2, none⟩) (zipS cl2 hl2) w9.heap.size k0 k1 wA.heap.size j0 j1 W) => by
          obtain ⟨_, _, e, _, d1, d2⟩ := spans_at h.d.v HX.out; cases e; exact ⟨d1, d2⟩) (fun W h => by
          obtain ⟨_, _, e, _, d1, d2⟩ := spans_at h.v.at_ HV.out; cases e; exact ⟨d1, d2⟩) (by omega) (by omega) HS (Lib.hid fun u16 W16 h16 => ?_)) (by kernel_rfl)
        have H16 := Lib.hid h16
        clear h16
        go_wp2_with fail
        go_roundw
        case rel => exact ⟨k + 1, Nat.succ_le_of_lt hlt, by go_num, H16⟩
        case measure => exact meas_one hlt
      · obtain rfl : k = kR m := by omega
        have hn2 : ¬ ((kR m : Int) < (kR m : Int)) := by omega
        have HI := Lib.hid (HLL.out.on HS.out.d.bm.b)
        obtain ⟨z0, z1, z2, z3, z4, z5, z6, z7, z8, z9, z10, z11⟩ := HS.out.d.bm.cells
        by_cases hf : f0 = 0
        · obtain ⟨rfl, k1', k2'⟩ := HHO.out hf
          subst hf
          clear HHO
          go_wp2_with (first
            | (go_at_call 31; (with_reducible refine (HHx.out _ _ _ HI.out).mono ?_); rintro e wB ⟨rfl, hb⟩; have HAB := Lib.hid ((Below.refl _ wB).alloc (Nat.le_refl _) (.cells #[.int .i64 x1, .int .i64 x2, .int .i64 x3, .int .i64 x4] 45)); have HB : Hid (WdC w m y0 y1 y2 y3 y4 w2.heap.size Aw (zipS cl hl) p q r s Av (zipS cl2 hl2) w9.heap.size k0 k1 wA.heap.size j0 j1 (wB.alloc (.cells #[.int .i64 x1, .int .i64 x2, .int .i64 x3, .int .i64 x4] 45)) ∧ IntsIn (wB.alloc (.cells #[.int .i64 x1, .int .i64 x2, .int .i64 x3, .int .i64 x4] 45)) B l ∧ Blk (wB.alloc (.cells #[.int .i64 x1, .int .i64 x2, .int .i64 x3, .int .i64 x4] 45)) wB.heap.size 45 #[.int .i64 x1, .int .i64 x2, .int .i64 x3, .int .i64 x4]) := ⟨(HS.out.on hb).on HAB.out, (HI.out.on hb).on HAB.out, Blk.new wB _ _⟩; clear z0 z1 z2 z3 z4 z5 z6 z7 z8 z9 z10 z11; have y0' := HB.out.1.d.g.cell 0; have y1' := HB.out.1.d.g.cell 1; have y2' := HB.out.1.d.g.cell 2; have y3' := HB.out.1.d.g.cell 3; have y4' := HB.out.1.d.g.cell 4; have y5' := HB.out.1.d.g.cell 5; have y6' := HB.out.1.d.g.cell 6; have y7' := HB.out.1.d.g.cell 7; have y8' := HB.out.1.d.g.cell 8; have y9' := HB.out.1.d.g.cell 9; have y10' := HB.out.1.d.g.cell 10; have y11' := HB.out.1.d.g.cell 11; clear hb)
            | (go_at_call 31; (with_reducible refine (HHv.out _ _ _ HB.out.2.1).mono ?_); rintro e wC ⟨rfl, hb⟩; have HAC := Lib.hid ((Below.refl _ wC).alloc (Nat.le_refl _) (.cells #[.int .i64 v1, .int .i64 v2, .int .i64 v3, .int .i64 v4] 45)); have HD := Lib.hid ((HB.out.1.on hb).on HAC.out); clear y0' y1' y2' y3' y4' y5' y6' y7' y8' y9' y10' y11'; have d0 := (HB.out.2.2.on hb).cell 0; have d1 := (HB.out.2.2.on hb).cell 1; have hdl := (HB.out.2.2.on hb).lt; clear hb)
            | (go_at_call 26; (with_reducible refine (awake_any _).mono ?_); rintro e wE ⟨rfl, hb⟩; have HF := Lib.hid (HD.out.d.bm.on hb); clear hb)
            | fail)
          go_ret
          exact ⟨rfl, HF.out.b⟩
        · have hf1 : (f0 != 0) = true := by simpa using hf
          have hf2 : (f0 == 0) = false := by simpa using hf
          clear HHO hf
          cases he : (e0 == 0) with
          | true =>
            go_wp2_with (first
              | (go_at_call 31; (with_reducible refine (HHx.out _ _ _ HI.out).mono ?_); rintro e wB ⟨rfl, hb⟩; have HAB := Lib.hid ((Below.refl _ wB).alloc (Nat.le_refl _) (.cells #[.int .i64 x1, .int .i64 x2, .int .i64 x3, .int .i64 x4] 45)); have HB := Lib.hid (And.intro ((HS.out.on hb).on HAB.out) ((HI.out.on hb).on HAB.out)); clear z0 z1 z2 z3 z4 z5 z6 z7 z8 z9 z10 z11; have y0' := HB.out.1.d.g.cell 0; have y1' := HB.out.1.d.g.cell 1; have y2' := HB.out.1.d.g.cell 2; have y3' := HB.out.1.d.g.cell 3; have y4' := HB.out.1.d.g.cell 4; have y5' := HB.out.1.d.g.cell 5; have y6' := HB.out.1.d.g.cell 6; have y7' := HB.out.1.d.g.cell 7; have y8' := HB.out.1.d.g.cell 8; have y9' := HB.out.1.d.g.cell 9; have y10' := HB.out.1.d.g.cell 10; have y11' := HB.out.1.d.g.cell 11; clear hb)
              | (go_at_call 31; (with_reducible refine (HHv.out _ _ _ HB.out.2).mono ?_); rintro e wC ⟨rfl, hb⟩; have HAC := Lib.hid ((Below.refl _ wC).alloc (Nat.le_refl _) (.cells #[.int .i64 v1, .int .i64 v2, .int .i64 v3, .int .i64 v4] 45)); have HD := Lib.hid ((HB.out.1.on hb).on HAC.out); clear y0' y1' y2' y3' y4' y5' y6' y7' y8' y9' y10' y11'; clear hb)
              | (go_at_call 26; (with_reducible refine (awake_any _).mono ?_); rintro e wE ⟨rfl, hb⟩; have HF := Lib.hid (HD.out.d.bm.on hb); clear hb)
              | fail)
            go_ret
            exact ⟨rfl, HF.out.b⟩
          | false =>
            go_wp2_with (first
              | (go_at_call 31; (with_reducible refine (HHx.out _ _ _ HI.out).mono ?_); rintro e wB ⟨rfl, hb⟩; have HAB := Lib.hid ((Below.refl _ wB).alloc (Nat.le_refl _) (.cells #[.int .i64 x1, .int .i64 x2, .int .i64 x3, .int .i64 x4] 45)); have HB := Lib.hid (And.intro ((HS.out.on hb).on HAB.out) ((HI.out.on hb).on HAB.out)); clear z0 z1 z2 z3 z4 z5 z6 z7 z8 z9 z10 z11; have y0' := HB.out.1.d.g.cell 0; have y1' := HB.out.1.d.g.cell 1; have y2' := HB.out.1.d.g.cell 2; have y3' := HB.out.1.d.g.cell 3; have y4' := HB.out.1.d.g.cell 4; have y5' := HB.out.1.d.g.cell 5; have y6' := HB.out.1.d.g.cell 6; have y7' := HB.out.1.d.g.cell 7; have y8' := HB.out.1.d.g.cell 8; have y9' := HB.out.1.d.g.cell 9; have y10' := HB.out.1.d.g.cell 10; have y11' := HB.out.1.d.g.cell 11; clear hb)
              | (go_at_call 31; (with_reducible refine (HHv.out _ _ _ HB.out.2).mono ?_); rintro e wC ⟨rfl, hb⟩; have HAC := Lib.hid ((Below.refl _ wC).alloc (Nat.le_refl _) (.cells #[.int .i64 v1, .int .i64 v2, .int .i64 v3, .int .i64 v4] 45)); have HD := Lib.hid ((HB.out.1.on hb).on HAC.out); clear y0' y1' y2' y3' y4' y5' y6' y7' y8' y9' y10' y11'; clear hb)
              | (go_at_call 26; (with_reducible refine (awake_any _).mono ?_); rintro e wE ⟨rfl, hb⟩; have HF := Lib.hid (HD.out.d.bm.on hb); clear hb)
              | fail)
            go_ret
            exact ⟨rfl, HF.out.b⟩
  · have HWm := Lib.hid (fun W => mwarm_any m N W)
    rw [show warmR m (N : Int) = ([], checkM m) from if_pos hck] at HWm
    have hz : (checkM m != 0) = true := by simpa using hck
    generalize checkM m = z at *
    clear hl hnl
    go_enter Try.func16, Try.ntmps16
    obtain ⟨z0, z1, z2, z3, z4, z5, z6, z7, z8, z9, z10, z11⟩ := HM.out.1.cells
    have u0 := HM.out.2.cell 0
    have hu0 := HM.out.2.lt
    go_wp2_with (first
      | (go_at_call 23; (with_reducible refine (HWm.out _).mono ?_); rintro e w1 ⟨v, rfl, hv1, hb⟩; obtain ⟨Aw, cw, rfl, _⟩ := SpansOut.in_ hv1; have H1 := Lib.hid (HM.out.1.on hb); clear z0 z1 z2 z3 z4 z5 z6 z7 z8 z9 z10 z11 u0 hu0; obtain ⟨z0, z1, z2, z3, z4, z5, z6, z7, z8, z9, z10, z11⟩ := H1.out.cells; clear hb hv1)
      | (go_at_call 19; (with_reducible refine (HC.out _).mono ?_); rintro e w2 ⟨rfl, hb⟩; have H2 := Lib.hid (H1.out.on hb); clear z0 z1 z2 z3 z4 z5 z6 z7 z8 z9 z10 z11; clear hb)
      | (go_at_call 26; refine (awake_any _).mono ?_; rintro e w5 ⟨rfl, hb⟩; have H3 := Lib.hid (H2.out.on hb); clear hb)
      | fail)
    go_ret
    exact ⟨rfl, H3.out.b⟩
end Go.Proofs.Ytljbjcnfkbmjkaa
