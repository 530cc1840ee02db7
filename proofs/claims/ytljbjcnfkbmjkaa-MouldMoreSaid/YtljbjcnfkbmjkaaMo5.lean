/- MouldMore: the law. -/
import Derived.Test.YtljbjcnfkbmjkaaGo
namespace Go.Proofs.Ytljbjcnfkbmjkaa
open Go.RowKit Go.Shelf Go.Maps
attribute [local go_sem] Oper.semAt_some

set_option maxRecDepth 100000 in
set_option maxHeartbeats 8000000 in
theorem lmore_any (m : Md) {w : World} {B : Option Addr} {d : Nat} {l : List Int} (hl : IntsIn w B l) (y0 y1 y2 : Int) (h0 : 0 ≤ y0 ∧ y0 ≤ 65535) (h1 : 0 ≤ y1 ∧ y1 ≤ 65535) (h2 : 0 ≤ y2 ∧ y2 ≤ 65535) :
    Calls Try.prog 15 #[.agg #[.int .i64 m.rings, .int .i64 m.give, .int .i64 m.plo, .int .i64 m.phi, .int .i64 m.wlo, .int .i64 m.whi, .int .i64 m.st, .int .i64 m.shrink, .int .i64 m.skin, .int .i64 m.fill, .int .i64 m.gap, .int .i64 m.deep], .slice B l.length d, .agg #[.int .u16 y0, .int .u16 y1, .int .u16 y2]] w fun e w' => e = .returned (.bool true) ∧ Below w.heap.size w w' := by
  have HM : Hid (MdBk w w.heap.size 25 m ((w.alloc (.cells #[.int .i64 m.rings, .int .i64 m.give, .int .i64 m.plo, .int .i64 m.phi, .int .i64 m.wlo, .int .i64 m.whi, .int .i64 m.st, .int .i64 m.shrink, .int .i64 m.skin, .int .i64 m.fill, .int .i64 m.gap, .int .i64 m.deep] 25)).alloc (.cells #[.int .u16 y0, .int .u16 y1, .int .u16 y2] 77)) ∧ Blk ((w.alloc (.cells #[.int .i64 m.rings, .int .i64 m.give, .int .i64 m.plo, .int .i64 m.phi, .int .i64 m.wlo, .int .i64 m.whi, .int .i64 m.st, .int .i64 m.shrink, .int .i64 m.skin, .int .i64 m.fill, .int .i64 m.gap, .int .i64 m.deep] 25)).alloc (.cells #[.int .u16 y0, .int .u16 y1, .int .u16 y2] 77)) (w.heap.size + 1) 77 #[.int .u16 y0, .int .u16 y1, .int .u16 y2]) :=
    ⟨⟨(Blk.new w _ _).alloc _, ((Below.refl _ w).alloc (Nat.le_refl _) _).alloc (by simp) _⟩, Blk.new1 w _ _ _⟩
  have HLI := Lib.hid hl
  have HL := Lib.hid (hl.on HM.out.1.b)
  obtain ⟨x1, x2, x3, x4, e0, hx⟩ : ∃ x1 x2 x3 x4 e0, hollR m l = (((x1, x2), (x3, x4)), e0) := ⟨_, _, _, _, _, rfl⟩
  obtain ⟨nl, hnl⟩ : ∃ nl : Nat, l.length = nl := ⟨_, rfl⟩
  have HH := Lib.hid (hollow_law hnl hx)
  rw [hnl]
  rcases holl_cases hx with ⟨hf0, rfl, rfl, rfl, rfl⟩ | ⟨rfl, ho⟩
  · have hz : (e0 != 0) = true := by simpa using hf0
    have e2 : ∀ W, (binOp .eql 45 (.agg #[.int .i64 0, .int .i64 0, .int .i64 0, .int .i64 0]) (.agg #[.int .i64 0, .int .i64 0, .int .i64 0, .int .i64 0])).run Try.prog W = .ok (.bool true) W := fun _ => by kernel_rfl
    clear hf0 hx hl hnl
    go_enter Try.func15, Try.ntmps15
    obtain ⟨z0, z1, z2, z3, z4, z5, z6, z7, z8, z9, z10, z11⟩ := HM.out.1.cells
    go_wp2_with (first
      | (go_at_call 31; (with_reducible refine (HH.out _ _ _ HL.out).mono ?_); rintro e w1 ⟨rfl, hb1⟩; have HM1 := Lib.hid (HM.out.1.on hb1); have HB2 := Lib.hid ((Below.refl _ w1).alloc (Nat.le_refl _) (.cells #[.int .i64 0, .int .i64 0, .int .i64 0, .int .i64 0] 45)); clear z0 z1 z2 z3 z4 z5 z6 z7 z8 z9 z10 z11; clear hb1)
      | (go_at_call 26; refine (awake_any _).mono ?_; rintro e w5 ⟨rfl, hb⟩; have HM5 := Lib.hid ((HM1.out.on HB2.out).on hb); clear hb)
      | fail)
    go_ret
    exact ⟨rfl, HM5.out.b⟩
  · obtain ⟨hl40, hlr, _⟩ := planE_ok.1 ho.plan
    have HO := Lib.hid ho
    have HLR := Lib.hid hlr
    have HHA := Lib.hid (fun (l' : List Int) (W : World) (B : Option Addr) (d : Nat) (hB : IntsIn W B l') => hollow_any (c := d) m hB)
    obtain ⟨N, hN⟩ : ∃ N : Nat, y0 % 601 = (N : Int) := ⟨(y0 % 601).toNat, by omega⟩
    have HI0 := Lib.hid (InsI.start l (N : Int))
    have hn40 : nl ≤ 40 := by omega
    have HNL := Lib.hid hnl
    clear ho hlr hx hl hnl hl40
    go_enter Try.func15, Try.ntmps15
    obtain ⟨z0, z1, z2, z3, z4, z5, z6, z7, z8, z9, z10, z11⟩ := HM.out.1.cells
    go_wp2_with (first
      | (go_at_call 31; (with_reducible refine (HH.out _ _ _ HL.out).mono ?_); rintro e w1 ⟨rfl, hb⟩; have HB2 := Lib.hid ((Below.refl _ w1).alloc (Nat.le_refl _) (.cells #[.int .i64 x1, .int .i64 x2, .int .i64 x3, .int .i64 x4] 45)); have H1 : Hid (MoR w m y0 y1 y2 B l w1.heap.size (w1.heap.size + 1) x1 x2 x3 x4 (.slice none 0 0) [] (.slice none 0 0) (l.take 0) (w1.alloc (.cells #[.int .i64 x1, .int .i64 x2, .int .i64 x3, .int .i64 x4] 45))) := ⟨⟨(HM.out.1.on hb).on HB2.out, (HM.out.2.on hb).on HB2.out, Blk.new w1 _ _, Nat.lt_succ_self _, by have h3 := (HM.out.2.on hb).lt; omega, HLI.out⟩, IntsOut.nil _ _, IntsOut.nil _ _, fun r e => by simp [Value.ownBlock] at e⟩; clear z0 z1 z2 z3 z4 z5 z6 z7 z8 z9 z10 z11; have q0 := H1.out.a.y.cell 0; have ql := H1.out.a.y.lt; clear hb)
      | fail)
    rw [hN]
    clear q0 ql hN
    go_loopw [10, 11, 12, 13] (fun v1 v2 p i W => ∃ (k : Nat) (pt : Bool) (l1 : List Int), k ≤ nl ∧ i = .int .i64 k ∧ p = .bool pt ∧ Hid (InsI l l1 (N : Int) pt k) ∧ Hid (MoR w m y0 y1 y2 B l w1.heap.size (w1.heap.size + 1) x1 x2 x3 x4 v1 l1 v2 (l.take k) W)) (fun _ _ _ i _ => nl - (intOf i).toNat)
    case atStart => exact ⟨0, false, [], Nat.zero_le _, rfl, rfl, HI0, H1⟩
    case round =>
      obtain ⟨k, pt, l1, hk, rfl, rfl, HI, HS⟩ := hrel
      clear H1 HI0
      have HI2 := Lib.hid (show l1.length ≤ nl + 1 from by have := HI.out.len; rw [HNL.out] at this; exact this)
      have HBA := Lib.hid ((Below.refl _ wr).alloc (Nat.le_refl _) (.cells #[.int .i64 (N : Int)] 3))
      have HOA := Lib.hid (own_below HS.out.o1 HBA.out)
      have HLEN := Lib.hid (show l1.length < 1000000 from by have := HI2.out; omega)
      have HSZ := Lib.hid (show w1.heap.size + 1 ≤ (wr.alloc (.cells #[.int .i64 (N : Int)] 3)).heap.size from by have := HS.out.a.k.lt; simp; omega)
      by_cases hlt : k < nl
      · have hkn' : (k : Int) < nl := by omega
        obtain ⟨xx, hxx⟩ : ∃ x, l[k]? = some x := ⟨l[k]'(by rw [HNL.out]; exact hlt), List.getElem?_eq_getElem _⟩
        obtain ⟨bb, oo, rfl, _, dx⟩ := ints_at (HS.out.a.li.on HS.out.a.bm.b).at_ hxx
        have HX := Lib.hid hxx
        have HT : Hid (l.take (k + 1) = l.take k ++ [xx]) := by show _ = _; rw [List.take_add_one, hxx]; rfl
        clear hxx
        cases pt with
        | true =>
          go_wp2_with fail
          refine wp_of_eq (mo12_region (v1 := u10) (l1 := l1) (v2 := u11) (l2 := l.take k) (S0 := wr.heap.size) HX.out hkn' (by have := HI2.out; omega) (by rw [List.length_take]; omega) (by have := HS.out.a.k.lt; omega) (fun r e => (World.ownsRow.lt HS.out.o1 r e).2) (fun r e => (World.ownsRow.lt HS.out.o2 r e).2) HS.out.ap (Lib.hid ⟨⟨HS.out.a, HS.out.o1, HS.out.o2⟩, Nat.le_refl _⟩) (Lib.hid fun u12 v6 v7 W12 p1 p2 p3 p4 => ?_)) (by kernel_rfl)
          have H12 : Hid (MoR w m y0 y1 y2 (some ⟨bb, oo, none⟩) l w1.heap.size (w1.heap.size + 1) x1 x2 x3 x4 v6 (l1 ++ [xx]) v7 (l.take (k + 1)) W12) := ⟨p4, p1, by rw [HT.out]; exact p2, p3⟩
          clear p1 p2 p3 p4
          go_wp2_with fail
          go_roundw
          case rel => exact ⟨k + 1, true, l1 ++ [xx], Nat.succ_le_of_lt hlt, by go_num, rfl, Lib.hid (HI.out.more HX.out), H12⟩
          case measure => exact meas_one hlt
        | false =>
          by_cases hxn : (N : Int) < xx
          · go_wp2_with (first
              | (at_builtin; go_must (refine app_list rfl _ _ rfl (l := l1) rfl HOA.out (N : Int) rfl (Blk.new _ _ _) HLEN.out HSZ.out ?_); intro g cap w4 r1 r2 r3 r4; have hap4 : ∀ r, (Value.slice (some ⟨g, 0, none⟩) (l1.length + 1) cap).ownBlock = some r → u11.ownBlock ≠ some r := (by intro r hr hg; obtain rfl : g = r := Option.some.inj hr; rcases r4 with h | h; exact HS.out.ap _ h hg; have h5 := (World.ownsRow.lt HS.out.o2 _ hg).2; simp at h; omega); have HR4 : Hid (MoR w m y0 y1 y2 (some ⟨bb, oo, none⟩) l w1.heap.size (w1.heap.size + 1) x1 x2 x3 x4 (.slice (some ⟨g, 0, none⟩) (l1.length + 1) cap) (l1 ++ [(N : Int)]) u11 (l.take k) w4) := ⟨(HS.out.a.on HBA.out).below r2, r1, own_grow (own_below HS.out.o2 HBA.out) r3 (fun r hr he => HS.out.ap r he hr), hap4⟩; clear r1 r2 r3 r4 hap4; generalize Value.slice (some ⟨g, 0, none⟩) (l1.length + 1) cap = v5 at HR4 ⊢; skip)
              | fail)
            refine wp_of_eq (mo12_region (v1 := v5) (l1 := (l1 ++ [(N : Int)])) (v2 := u11) (l2 := l.take k) (S0 := w4.heap.size) HX.out hkn' (by have := HI2.out; simp; omega) (by rw [List.length_take]; omega) (by have := HR4.out.a.k.lt; omega) (fun r e => (World.ownsRow.lt HR4.out.o1 r e).2) (fun r e => (World.ownsRow.lt HR4.out.o2 r e).2) HR4.out.ap (Lib.hid ⟨⟨HR4.out.a, HR4.out.o1, HR4.out.o2⟩, Nat.le_refl _⟩) (Lib.hid fun u12 v6 v7 W12 p1 p2 p3 p4 => ?_)) (by kernel_rfl)
            have H12 : Hid (MoR w m y0 y1 y2 (some ⟨bb, oo, none⟩) l w1.heap.size (w1.heap.size + 1) x1 x2 x3 x4 v6 ((l1 ++ [(N : Int)]) ++ [xx]) v7 (l.take (k + 1)) W12) := ⟨p4, p1, by rw [HT.out]; exact p2, p3⟩
            clear p1 p2 p3 p4
            go_wp2_with fail
            go_roundw
            case rel => exact ⟨k + 1, true, (l1 ++ [(N : Int)]) ++ [xx], Nat.succ_le_of_lt hlt, by go_num, rfl, Lib.hid (HI.out.put HX.out), H12⟩
            case measure => exact meas_one hlt
          · have HIs := Lib.hid (HI.out.stay HX.out (by omega))
            go_wp2_with fail
            refine wp_of_eq (mo12_region (v1 := u10) (l1 := l1) (v2 := u11) (l2 := l.take k) (S0 := wr.heap.size) HX.out hkn' (by have := HI2.out; omega) (by rw [List.length_take]; omega) (by have := HS.out.a.k.lt; omega) (fun r e => (World.ownsRow.lt HS.out.o1 r e).2) (fun r e => (World.ownsRow.lt HS.out.o2 r e).2) HS.out.ap (Lib.hid ⟨⟨HS.out.a, HS.out.o1, HS.out.o2⟩, Nat.le_refl _⟩) (Lib.hid fun u12 v6 v7 W12 p1 p2 p3 p4 => ?_)) (by kernel_rfl)
            have H12 : Hid (MoR w m y0 y1 y2 (some ⟨bb, oo, none⟩) l w1.heap.size (w1.heap.size + 1) x1 x2 x3 x4 v6 (l1 ++ [xx]) v7 (l.take (k + 1)) W12) := ⟨p4, p1, by rw [HT.out]; exact p2, p3⟩
            clear p1 p2 p3 p4
            go_wp2_with fail
            go_roundw
            case rel => exact ⟨k + 1, false, l1 ++ [xx], Nat.succ_le_of_lt hlt, by go_num, rfl, HIs, H12⟩
            case measure => exact meas_one hlt
      · obtain rfl : k = nl := by omega
        have hn2 : ¬ ((k : Int) < (k : Int)) := by omega
        have htk : l.take k = l := List.take_of_length_le (by rw [HNL.out]; exact Nat.le_refl _)
        rw [htk] at HS
        have q1 := HS.out.a.y.cell 1
        have ql := HS.out.a.y.lt
        cases pt with
        | true =>
          have HMO : Hid (∃ a b, l = a ++ b ∧ l1 = a ++ (N : Int) :: b ∧ ∀ x ∈ a, x ≤ (N : Int)) := by have h := HI.out; rw [← HNL.out] at h; exact h.end_
          by_cases hk0 : k = 0
          · have hk1 : ¬ ((0 : Int) < (k : Int)) := by omega
            clear hk0
            obtain ⟨a1, a2, a3, a4, fa, ha⟩ : ∃ x1 x2 x3 x4 e0, hollR m l1 = (((x1, x2), (x3, x4)), e0) := ⟨_, _, _, _, _, rfl⟩
            obtain ⟨b1, b2, b3, b4, fb, hb⟩ : ∃ x1 x2 x3 x4 e0, hollR m l = (((x1, x2), (x3, x4)), e0) := ⟨_, _, _, _, _, rfl⟩
            have HCA : Hid (fa = 0 → ¬ (x1 < a1) ∧ ¬ (x2 < a2)) := fun h => by
              obtain ⟨p, q, r1, r2, r3⟩ := HMO.out
              rw [h, r2] at ha
              exact more_le HO.out (by omega) r1 r3 ha
            have HCB : Hid (fb = 0 → ¬ (x1 < b1) ∧ ¬ (x2 < b2)) := fun h => by
              rw [h] at hb
              exact later_le HO.out rfl (fun i a b h5 h6 => by rw [h5] at h6; cases h6; exact Int.le_refl _) hb
            obtain ⟨Am, cm, hvm, im⟩ := HS.out.o1.in_
            obtain ⟨Al, cl, hvl, il⟩ := HS.out.o2.in_
            have hHA := fun (W : World) (d : Nat) (hB : IntsIn W Am l1) => HHA.out l1 W Am d hB
            rw [ha] at hHA
            have hHB := fun (W : World) (d : Nat) (hB : IntsIn W Al l) => HHA.out l W Al d hB
            rw [hb] at hHB
            have HA := Lib.hid hHA
            have HB := Lib.hid hHB
            have HIM := Lib.hid im
            have HIL := Lib.hid il
            have HAA := Lib.hid HS.out.a
            clear hHA hHB ha hb im il
            subst hvm hvl
            obtain ⟨z0, z1, z2, z3, z4, z5, z6, z7, z8, z9, z10, z11⟩ := HAA.out.bm.cells
            cases hfa : (fa == 0) with
            | true =>
              obtain rfl : fa = 0 := by simpa using hfa
              obtain ⟨ca1, ca2⟩ := HCA.out rfl
              cases hfb : (fb == 0) with
              | true =>
                obtain rfl : fb = 0 := by simpa using hfb
                obtain ⟨cb1, cb2⟩ := HCB.out rfl
                clear HCA HCB hfa hfb
                go_wp2_with (first
                  | (go_at_call 31; (with_reducible refine (HA.out _ _ HIM.out).mono ?_); rintro e wA ⟨rfl, hb⟩; have HBa := Lib.hid ((Below.refl _ wA).alloc (Nat.le_refl _) (.cells #[.int .i64 a1, .int .i64 a2, .int .i64 a3, .int .i64 a4] 45)); have HA1 := Lib.hid (And.intro ((HAA.out.on hb).on HBa.out) (And.intro ((HIL.out.on hb).on HBa.out) (show Blk (wA.alloc (.cells #[.int .i64 a1, .int .i64 a2, .int .i64 a3, .int .i64 a4] 45)) wA.heap.size 45 #[.int .i64 a1, .int .i64 a2, .int .i64 a3, .int .i64 a4] from Blk.new wA _ _))); clear z0 z1 z2 z3 z4 z5 z6 z7 z8 z9 z10 z11; obtain ⟨z0, z1, z2, z3, z4, z5, z6, z7, z8, z9, z10, z11⟩ := HA1.out.1.bm.cells; clear hb)
                  | (go_at_call 31; (with_reducible refine (HB.out _ _ HA1.out.2.1).mono ?_); rintro e wB ⟨rfl, hb⟩; have HBb := Lib.hid ((Below.refl _ wB).alloc (Nat.le_refl _) (.cells #[.int .i64 b1, .int .i64 b2, .int .i64 b3, .int .i64 b4] 45)); have HB1 := Lib.hid ((HA1.out.1.on hb).on HBb.out); have o0 := ((HA1.out.1.on hb).on HBb.out).k.cell 0; have o1 := ((HA1.out.1.on hb).on HBb.out).k.cell 1; have ol := ((HA1.out.1.on hb).on HBb.out).k.lt; have n0 := ((HA1.out.2.2.on hb).on HBb.out).cell 0; have n1 := ((HA1.out.2.2.on hb).on HBb.out).cell 1; have nll := ((HA1.out.2.2.on hb).on HBb.out).lt; have t0 := (Blk.new wB 45 #[.int .i64 b1, .int .i64 b2, .int .i64 b3, .int .i64 b4]).cell 0; have t1 := (Blk.new wB 45 #[.int .i64 b1, .int .i64 b2, .int .i64 b3, .int .i64 b4]).cell 1; clear z0 z1 z2 z3 z4 z5 z6 z7 z8 z9 z10 z11; clear hb)
                  | (go_at_call 26; (with_reducible refine (awake_any _).mono ?_); rintro e wE ⟨rfl, hb⟩; have HF := Lib.hid (HB1.out.bm.on hb); clear hb)
                  | fail)
                go_ret
                exact ⟨rfl, HF.out.b⟩
              | false =>
                clear HCA HCB hfa
                go_wp2_with (first
                  | (go_at_call 31; (with_reducible refine (HA.out _ _ HIM.out).mono ?_); rintro e wA ⟨rfl, hb⟩; have HBa := Lib.hid ((Below.refl _ wA).alloc (Nat.le_refl _) (.cells #[.int .i64 a1, .int .i64 a2, .int .i64 a3, .int .i64 a4] 45)); have HA1 := Lib.hid (And.intro ((HAA.out.on hb).on HBa.out) (And.intro ((HIL.out.on hb).on HBa.out) (show Blk (wA.alloc (.cells #[.int .i64 a1, .int .i64 a2, .int .i64 a3, .int .i64 a4] 45)) wA.heap.size 45 #[.int .i64 a1, .int .i64 a2, .int .i64 a3, .int .i64 a4] from Blk.new wA _ _))); clear z0 z1 z2 z3 z4 z5 z6 z7 z8 z9 z10 z11; obtain ⟨z0, z1, z2, z3, z4, z5, z6, z7, z8, z9, z10, z11⟩ := HA1.out.1.bm.cells; clear hb)
                  | (go_at_call 31; (with_reducible refine (HB.out _ _ HA1.out.2.1).mono ?_); rintro e wB ⟨rfl, hb⟩; have HBb := Lib.hid ((Below.refl _ wB).alloc (Nat.le_refl _) (.cells #[.int .i64 b1, .int .i64 b2, .int .i64 b3, .int .i64 b4] 45)); have HB1 := Lib.hid ((HA1.out.1.on hb).on HBb.out); have o0 := ((HA1.out.1.on hb).on HBb.out).k.cell 0; have o1 := ((HA1.out.1.on hb).on HBb.out).k.cell 1; have ol := ((HA1.out.1.on hb).on HBb.out).k.lt; have n0 := ((HA1.out.2.2.on hb).on HBb.out).cell 0; have n1 := ((HA1.out.2.2.on hb).on HBb.out).cell 1; have nll := ((HA1.out.2.2.on hb).on HBb.out).lt; have t0 := (Blk.new wB 45 #[.int .i64 b1, .int .i64 b2, .int .i64 b3, .int .i64 b4]).cell 0; have t1 := (Blk.new wB 45 #[.int .i64 b1, .int .i64 b2, .int .i64 b3, .int .i64 b4]).cell 1; clear z0 z1 z2 z3 z4 z5 z6 z7 z8 z9 z10 z11; clear hb)
                  | (go_at_call 26; (with_reducible refine (awake_any _).mono ?_); rintro e wE ⟨rfl, hb⟩; have HF := Lib.hid (HB1.out.bm.on hb); clear hb)
                  | fail)
                go_ret
                exact ⟨rfl, HF.out.b⟩
            | false =>
              cases hfb : (fb == 0) with
              | true =>
                obtain rfl : fb = 0 := by simpa using hfb
                obtain ⟨cb1, cb2⟩ := HCB.out rfl
                clear HCA HCB hfb
                go_wp2_with (first
                  | (go_at_call 31; (with_reducible refine (HA.out _ _ HIM.out).mono ?_); rintro e wA ⟨rfl, hb⟩; have HBa := Lib.hid ((Below.refl _ wA).alloc (Nat.le_refl _) (.cells #[.int .i64 a1, .int .i64 a2, .int .i64 a3, .int .i64 a4] 45)); have HA1 := Lib.hid (And.intro ((HAA.out.on hb).on HBa.out) (And.intro ((HIL.out.on hb).on HBa.out) (show Blk (wA.alloc (.cells #[.int .i64 a1, .int .i64 a2, .int .i64 a3, .int .i64 a4] 45)) wA.heap.size 45 #[.int .i64 a1, .int .i64 a2, .int .i64 a3, .int .i64 a4] from Blk.new wA _ _))); clear z0 z1 z2 z3 z4 z5 z6 z7 z8 z9 z10 z11; obtain ⟨z0, z1, z2, z3, z4, z5, z6, z7, z8, z9, z10, z11⟩ := HA1.out.1.bm.cells; clear hb)
                  | (go_at_call 31; (with_reducible refine (HB.out _ _ HA1.out.2.1).mono ?_); rintro e wB ⟨rfl, hb⟩; have HBb := Lib.hid ((Below.refl _ wB).alloc (Nat.le_refl _) (.cells #[.int .i64 b1, .int .i64 b2, .int .i64 b3, .int .i64 b4] 45)); have HB1 := Lib.hid ((HA1.out.1.on hb).on HBb.out); have o0 := ((HA1.out.1.on hb).on HBb.out).k.cell 0; have o1 := ((HA1.out.1.on hb).on HBb.out).k.cell 1; have ol := ((HA1.out.1.on hb).on HBb.out).k.lt; have n0 := ((HA1.out.2.2.on hb).on HBb.out).cell 0; have n1 := ((HA1.out.2.2.on hb).on HBb.out).cell 1; have nll := ((HA1.out.2.2.on hb).on HBb.out).lt; have t0 := (Blk.new wB 45 #[.int .i64 b1, .int .i64 b2, .int .i64 b3, .int .i64 b4]).cell 0; have t1 := (Blk.new wB 45 #[.int .i64 b1, .int .i64 b2, .int .i64 b3, .int .i64 b4]).cell 1; clear z0 z1 z2 z3 z4 z5 z6 z7 z8 z9 z10 z11; clear hb)
                  | (go_at_call 26; (with_reducible refine (awake_any _).mono ?_); rintro e wE ⟨rfl, hb⟩; have HF := Lib.hid (HB1.out.bm.on hb); clear hb)
                  | fail)
                go_ret
                exact ⟨rfl, HF.out.b⟩
              | false =>
                clear HCA HCB
                go_wp2_with (first
                  | (go_at_call 31; (with_reducible refine (HA.out _ _ HIM.out).mono ?_); rintro e wA ⟨rfl, hb⟩; have HBa := Lib.hid ((Below.refl _ wA).alloc (Nat.le_refl _) (.cells #[.int .i64 a1, .int .i64 a2, .int .i64 a3, .int .i64 a4] 45)); have HA1 := Lib.hid (And.intro ((HAA.out.on hb).on HBa.out) (And.intro ((HIL.out.on hb).on HBa.out) (show Blk (wA.alloc (.cells #[.int .i64 a1, .int .i64 a2, .int .i64 a3, .int .i64 a4] 45)) wA.heap.size 45 #[.int .i64 a1, .int .i64 a2, .int .i64 a3, .int .i64 a4] from Blk.new wA _ _))); clear z0 z1 z2 z3 z4 z5 z6 z7 z8 z9 z10 z11; obtain ⟨z0, z1, z2, z3, z4, z5, z6, z7, z8, z9, z10, z11⟩ := HA1.out.1.bm.cells; clear hb)
                  | (go_at_call 31; (with_reducible refine (HB.out _ _ HA1.out.2.1).mono ?_); rintro e wB ⟨rfl, hb⟩; have HBb := Lib.hid ((Below.refl _ wB).alloc (Nat.le_refl _) (.cells #[.int .i64 b1, .int .i64 b2, .int .i64 b3, .int .i64 b4] 45)); have HB1 := Lib.hid ((HA1.out.1.on hb).on HBb.out); have o0 := ((HA1.out.1.on hb).on HBb.out).k.cell 0; have o1 := ((HA1.out.1.on hb).on HBb.out).k.cell 1; have ol := ((HA1.out.1.on hb).on HBb.out).k.lt; have n0 := ((HA1.out.2.2.on hb).on HBb.out).cell 0; have n1 := ((HA1.out.2.2.on hb).on HBb.out).cell 1; have nll := ((HA1.out.2.2.on hb).on HBb.out).lt; have t0 := (Blk.new wB 45 #[.int .i64 b1, .int .i64 b2, .int .i64 b3, .int .i64 b4]).cell 0; have t1 := (Blk.new wB 45 #[.int .i64 b1, .int .i64 b2, .int .i64 b3, .int .i64 b4]).cell 1; clear z0 z1 z2 z3 z4 z5 z6 z7 z8 z9 z10 z11; clear hb)
                  | (go_at_call 26; (with_reducible refine (awake_any _).mono ?_); rintro e wE ⟨rfl, hb⟩; have HF := Lib.hid (HB1.out.bm.on hb); clear hb)
                  | fail)
                go_ret
                exact ⟨rfl, HF.out.b⟩
          · have hk1 : (0 : Int) < (k : Int) := by omega
            obtain ⟨k2, hk2⟩ : ∃ k2 : Nat, y1 % (k : Int) = (k2 : Int) := ⟨(y1 % (k : Int)).toNat, by have := Int.emod_nonneg y1 (show (k : Int) ≠ 0 by omega); omega⟩
            have hk2l : k2 < k := by have := Int.emod_lt_of_pos y1 hk1; omega
            have hkz : ¬ ((k : Int) = 0) := by omega
            have hmd : y1.tmod (k : Int) = (k2 : Int) := by rw [Int.tmod_eq_emod_of_nonneg h1.1]; exact hk2
            obtain ⟨xx, hxx⟩ : ∃ x, l[k2]? = some x := ⟨l[k2]'(by rw [HNL.out]; exact hk2l), List.getElem?_eq_getElem _⟩
            have hxr := HLR.out xx (List.mem_of_getElem? hxx)
            have HXX := Lib.hid hxx
            have HLA : Hid (l.length = (l.set k2 (xx + y2 % 30)).length ∧ ∀ (i : Nat) (a b : Int), l[i]? = some a → (l.set k2 (xx + y2 % 30))[i]? = some b → a ≤ b) := ⟨by rw [List.length_set], set_le hxx (by omega)⟩
            have hk2' : (k2 : Int) < (k : Int) := by omega
            clear hxx hk0
            obtain ⟨g2, cp2, hv2, _⟩ := own_block HS.out.o2 (by rw [HNL.out]; omega)
            rw [HNL.out] at hv2
            subst hv2
            go_wp2_with fail
            refine wp_of_eq (mo17_region HXX.out hk2' hxr h2 HS (Lib.hid fun u17 W17 h17 => ?_)) (by kernel_rfl)
            have HT7 := Lib.hid h17
            clear h17
            obtain ⟨a1, a2, a3, a4, fa, ha⟩ : ∃ x1 x2 x3 x4 e0, hollR m l1 = (((x1, x2), (x3, x4)), e0) := ⟨_, _, _, _, _, rfl⟩
            obtain ⟨b1, b2, b3, b4, fb, hb⟩ : ∃ x1 x2 x3 x4 e0, hollR m (l.set k2 (xx + y2 % 30)) = (((x1, x2), (x3, x4)), e0) := ⟨_, _, _, _, _, rfl⟩
            have HCA : Hid (fa = 0 → ¬ (x1 < a1) ∧ ¬ (x2 < a2)) := fun h => by
              obtain ⟨p, q, r1, r2, r3⟩ := HMO.out
              rw [h, r2] at ha
              exact more_le HO.out (by omega) r1 r3 ha
            have HCB : Hid (fb = 0 → ¬ (x1 < b1) ∧ ¬ (x2 < b2)) := fun h => by
              rw [h] at hb
              exact later_le HO.out HLA.out.1 HLA.out.2 hb
            obtain ⟨Am, cm, hvm, im⟩ := HT7.out.o1.in_
            obtain ⟨Al, cl, hvl, il⟩ := HT7.out.o2.in_
            have hHA := fun (W : World) (d : Nat) (hB : IntsIn W Am l1) => HHA.out l1 W Am d hB
            rw [ha] at hHA
            have hHB := fun (W : World) (d : Nat) (hB : IntsIn W Al (l.set k2 (xx + y2 % 30))) => HHA.out (l.set k2 (xx + y2 % 30)) W Al d hB
            rw [hb] at hHB
            have HA := Lib.hid hHA
            have HB := Lib.hid hHB
            have HIM := Lib.hid im
            have HIL := Lib.hid il
            have HAA := Lib.hid HT7.out.a
            clear hHA hHB ha hb im il HLA
            subst hvm
            obtain ⟨e1, e2, e3⟩ : (some ⟨g2, 0, none⟩ : Option Addr) = Al ∧ k = (l.set k2 (xx + y2 % 30)).length ∧ cp2 = cl := by simpa using hvl
            subst e1 e3
            rw [← e2] at HB
            clear e2 hvl
            obtain ⟨z0, z1, z2, z3, z4, z5, z6, z7, z8, z9, z10, z11⟩ := HAA.out.bm.cells
            cases hfa : (fa == 0) with
            | true =>
              obtain rfl : fa = 0 := by simpa using hfa
              obtain ⟨ca1, ca2⟩ := HCA.out rfl
              cases hfb : (fb == 0) with
              | true =>
                obtain rfl : fb = 0 := by simpa using hfb
                obtain ⟨cb1, cb2⟩ := HCB.out rfl
                clear HCA HCB hfa hfb
                go_wp2_with (first
                  | (go_at_call 31; (with_reducible refine (HA.out _ _ HIM.out).mono ?_); rintro e wA ⟨rfl, hb⟩; have HBa := Lib.hid ((Below.refl _ wA).alloc (Nat.le_refl _) (.cells #[.int .i64 a1, .int .i64 a2, .int .i64 a3, .int .i64 a4] 45)); have HA1 := Lib.hid (And.intro ((HAA.out.on hb).on HBa.out) (And.intro ((HIL.out.on hb).on HBa.out) (show Blk (wA.alloc (.cells #[.int .i64 a1, .int .i64 a2, .int .i64 a3, .int .i64 a4] 45)) wA.heap.size 45 #[.int .i64 a1, .int .i64 a2, .int .i64 a3, .int .i64 a4] from Blk.new wA _ _))); clear z0 z1 z2 z3 z4 z5 z6 z7 z8 z9 z10 z11; obtain ⟨z0, z1, z2, z3, z4, z5, z6, z7, z8, z9, z10, z11⟩ := HA1.out.1.bm.cells; clear hb)
                  | (go_at_call 31; (with_reducible refine (HB.out _ _ HA1.out.2.1).mono ?_); rintro e wB ⟨rfl, hb⟩; have HBb := Lib.hid ((Below.refl _ wB).alloc (Nat.le_refl _) (.cells #[.int .i64 b1, .int .i64 b2, .int .i64 b3, .int .i64 b4] 45)); have HB1 := Lib.hid ((HA1.out.1.on hb).on HBb.out); have o0 := ((HA1.out.1.on hb).on HBb.out).k.cell 0; have o1 := ((HA1.out.1.on hb).on HBb.out).k.cell 1; have ol := ((HA1.out.1.on hb).on HBb.out).k.lt; have n0 := ((HA1.out.2.2.on hb).on HBb.out).cell 0; have n1 := ((HA1.out.2.2.on hb).on HBb.out).cell 1; have nll := ((HA1.out.2.2.on hb).on HBb.out).lt; have t0 := (Blk.new wB 45 #[.int .i64 b1, .int .i64 b2, .int .i64 b3, .int .i64 b4]).cell 0; have t1 := (Blk.new wB 45 #[.int .i64 b1, .int .i64 b2, .int .i64 b3, .int .i64 b4]).cell 1; clear z0 z1 z2 z3 z4 z5 z6 z7 z8 z9 z10 z11; clear hb)
                  | (go_at_call 26; (with_reducible refine (awake_any _).mono ?_); rintro e wE ⟨rfl, hb⟩; have HF := Lib.hid (HB1.out.bm.on hb); clear hb)
                  | fail)
                go_ret
                exact ⟨rfl, HF.out.b⟩
              | false =>
                clear HCA HCB hfa
                go_wp2_with (first
                  | (go_at_call 31; (with_reducible refine (HA.out _ _ HIM.out).mono ?_); rintro e wA ⟨rfl, hb⟩; have HBa := Lib.hid ((Below.refl _ wA).alloc (Nat.le_refl _) (.cells #[.int .i64 a1, .int .i64 a2, .int .i64 a3, .int .i64 a4] 45)); have HA1 := Lib.hid (And.intro ((HAA.out.on hb).on HBa.out) (And.intro ((HIL.out.on hb).on HBa.out) (show Blk (wA.alloc (.cells #[.int .i64 a1, .int .i64 a2, .int .i64 a3, .int .i64 a4] 45)) wA.heap.size 45 #[.int .i64 a1, .int .i64 a2, .int .i64 a3, .int .i64 a4] from Blk.new wA _ _))); clear z0 z1 z2 z3 z4 z5 z6 z7 z8 z9 z10 z11; obtain ⟨z0, z1, z2, z3, z4, z5, z6, z7, z8, z9, z10, z11⟩ := HA1.out.1.bm.cells; clear hb)
                  | (go_at_call 31; (with_reducible refine (HB.out _ _ HA1.out.2.1).mono ?_); rintro e wB ⟨rfl, hb⟩; have HBb := Lib.hid ((Below.refl _ wB).alloc (Nat.le_refl _) (.cells #[.int .i64 b1, .int .i64 b2, .int .i64 b3, .int .i64 b4] 45)); have HB1 := Lib.hid ((HA1.out.1.on hb).on HBb.out); have o0 := ((HA1.out.1.on hb).on HBb.out).k.cell 0; have o1 := ((HA1.out.1.on hb).on HBb.out).k.cell 1; have ol := ((HA1.out.1.on hb).on HBb.out).k.lt; have n0 := ((HA1.out.2.2.on hb).on HBb.out).cell 0; have n1 := ((HA1.out.2.2.on hb).on HBb.out).cell 1; have nll := ((HA1.out.2.2.on hb).on HBb.out).lt; have t0 := (Blk.new wB 45 #[.int .i64 b1, .int .i64 b2, .int .i64 b3, .int .i64 b4]).cell 0; have t1 := (Blk.new wB 45 #[.int .i64 b1, .int .i64 b2, .int .i64 b3, .int .i64 b4]).cell 1; clear z0 z1 z2 z3 z4 z5 z6 z7 z8 z9 z10 z11; clear hb)
                  | (go_at_call 26; (with_reducible refine (awake_any _).mono ?_); rintro e wE ⟨rfl, hb⟩; have HF := Lib.hid (HB1.out.bm.on hb); clear hb)
                  | fail)
                go_ret
                exact ⟨rfl, HF.out.b⟩
            | false =>
              cases hfb : (fb == 0) with
              | true =>
                obtain rfl : fb = 0 := by simpa using hfb
                obtain ⟨cb1, cb2⟩ := HCB.out rfl
                clear HCA HCB hfb
                go_wp2_with (first
                  | (go_at_call 31; (with_reducible refine (HA.out _ _ HIM.out).mono ?_); rintro e wA ⟨rfl, hb⟩; have HBa := Lib.hid ((Below.refl _ wA).alloc (Nat.le_refl _) (.cells #[.int .i64 a1, .int .i64 a2, .int .i64 a3, .int .i64 a4] 45)); have HA1 := Lib.hid (And.intro ((HAA.out.on hb).on HBa.out) (And.intro ((HIL.out.on hb).on HBa.out) (show Blk (wA.alloc (.cells #[.int .i64 a1, .int .i64 a2, .int .i64 a3, .int .i64 a4] 45)) wA.heap.size 45 #[.int .i64 a1, .int .i64 a2, .int .i64 a3, .int .i64 a4] from Blk.new wA _ _))); clear z0 z1 z2 z3 z4 z5 z6 z7 z8 z9 z10 z11; obtain ⟨z0, z1, z2, z3, z4, z5, z6, z7, z8, z9, z10, z11⟩ := HA1.out.1.bm.cells; clear hb)
                  | (go_at_call 31; (with_reducible refine (HB.out _ _ HA1.out.2.1).mono ?_); rintro e wB ⟨rfl, hb⟩; have HBb := Lib.hid ((Below.refl _ wB).alloc (Nat.le_refl _) (.cells #[.int .i64 b1, .int .i64 b2, .int .i64 b3, .int .i64 b4] 45)); have HB1 := Lib.hid ((HA1.out.1.on hb).on HBb.out); have o0 := ((HA1.out.1.on hb).on HBb.out).k.cell 0; have o1 := ((HA1.out.1.on hb).on HBb.out).k.cell 1; have ol := ((HA1.out.1.on hb).on HBb.out).k.lt; have n0 := ((HA1.out.2.2.on hb).on HBb.out).cell 0; have n1 := ((HA1.out.2.2.on hb).on HBb.out).cell 1; have nll := ((HA1.out.2.2.on hb).on HBb.out).lt; have t0 := (Blk.new wB 45 #[.int .i64 b1, .int .i64 b2, .int .i64 b3, .int .i64 b4]).cell 0; have t1 := (Blk.new wB 45 #[.int .i64 b1, .int .i64 b2, .int .i64 b3, .int .i64 b4]).cell 1; clear z0 z1 z2 z3 z4 z5 z6 z7 z8 z9 z10 z11; clear hb)
                  | (go_at_call 26; (with_reducible refine (awake_any _).mono ?_); rintro e wE ⟨rfl, hb⟩; have HF := Lib.hid (HB1.out.bm.on hb); clear hb)
                  | fail)
                go_ret
                exact ⟨rfl, HF.out.b⟩
              | false =>
                clear HCA HCB
                go_wp2_with (first
                  | (go_at_call 31; (with_reducible refine (HA.out _ _ HIM.out).mono ?_); rintro e wA ⟨rfl, hb⟩; have HBa := Lib.hid ((Below.refl _ wA).alloc (Nat.le_refl _) (.cells #[.int .i64 a1, .int .i64 a2, .int .i64 a3, .int .i64 a4] 45)); have HA1 := Lib.hid (And.intro ((HAA.out.on hb).on HBa.out) (And.intro ((HIL.out.on hb).on HBa.out) (show Blk (wA.alloc (.cells #[.int .i64 a1, .int .i64 a2, .int .i64 a3, .int .i64 a4] 45)) wA.heap.size 45 #[.int .i64 a1, .int .i64 a2, .int .i64 a3, .int .i64 a4] from Blk.new wA _ _))); clear z0 z1 z2 z3 z4 z5 z6 z7 z8 z9 z10 z11; obtain ⟨z0, z1, z2, z3, z4, z5, z6, z7, z8, z9, z10, z11⟩ := HA1.out.1.bm.cells; clear hb)
                  | (go_at_call 31; (with_reducible refine (HB.out _ _ HA1.out.2.1).mono ?_); rintro e wB ⟨rfl, hb⟩; have HBb := Lib.hid ((Below.refl _ wB).alloc (Nat.le_refl _) (.cells #[.int .i64 b1, .int .i64 b2, .int .i64 b3, .int .i64 b4] 45)); have HB1 := Lib.hid ((HA1.out.1.on hb).on HBb.out); have o0 := ((HA1.out.1.on hb).on HBb.out).k.cell 0; have o1 := ((HA1.out.1.on hb).on HBb.out).k.cell 1; have ol := ((HA1.out.1.on hb).on HBb.out).k.lt; have n0 := ((HA1.out.2.2.on hb).on HBb.out).cell 0; have n1 := ((HA1.out.2.2.on hb).on HBb.out).cell 1; have nll := ((HA1.out.2.2.on hb).on HBb.out).lt; have t0 := (Blk.new wB 45 #[.int .i64 b1, .int .i64 b2, .int .i64 b3, .int .i64 b4]).cell 0; have t1 := (Blk.new wB 45 #[.int .i64 b1, .int .i64 b2, .int .i64 b3, .int .i64 b4]).cell 1; clear z0 z1 z2 z3 z4 z5 z6 z7 z8 z9 z10 z11; clear hb)
                  | (go_at_call 26; (with_reducible refine (awake_any _).mono ?_); rintro e wE ⟨rfl, hb⟩; have HF := Lib.hid (HB1.out.bm.on hb); clear hb)
                  | fail)
                go_ret
                exact ⟨rfl, HF.out.b⟩
        | false =>
          have HMO : Hid (∃ a b, l = a ++ b ∧ l1 ++ [(N : Int)] = a ++ (N : Int) :: b ∧ ∀ x ∈ a, x ≤ (N : Int)) := by have h := HI.out; rw [← HNL.out] at h; exact h.last
          by_cases hk0 : k = 0
          · have hk1 : ¬ ((0 : Int) < (k : Int)) := by omega
            clear hk0
            go_upto_region 18 with (first
              | (at_builtin; go_must (refine app_list rfl _ _ rfl (l := l1) rfl HOA.out (N : Int) rfl (Blk.new _ _ _) HLEN.out HSZ.out ?_); intro g cap w4 r1 r2 r3 r4; have hap4 : ∀ r, (Value.slice (some ⟨g, 0, none⟩) (l1.length + 1) cap).ownBlock = some r → u11.ownBlock ≠ some r := (by intro r hr hg; obtain rfl : g = r := Option.some.inj hr; rcases r4 with h | h; exact HS.out.ap _ h hg; have h5 := (World.ownsRow.lt HS.out.o2 _ hg).2; simp at h; omega); have HR4 : Hid (MoR w m y0 y1 y2 B l w1.heap.size (w1.heap.size + 1) x1 x2 x3 x4 (.slice (some ⟨g, 0, none⟩) (l1.length + 1) cap) (l1 ++ [(N : Int)]) u11 l w4) := ⟨(HS.out.a.on HBA.out).below r2, r1, own_grow (own_below HS.out.o2 HBA.out) r3 (fun r hr he => HS.out.ap r he hr), hap4⟩; clear r1 r2 r3 r4 hap4; generalize Value.slice (some ⟨g, 0, none⟩) (l1.length + 1) cap = v5 at HR4 ⊢; skip)
              | fail)
            obtain ⟨a1, a2, a3, a4, fa, ha⟩ : ∃ x1 x2 x3 x4 e0, hollR m (l1 ++ [(N : Int)]) = (((x1, x2), (x3, x4)), e0) := ⟨_, _, _, _, _, rfl⟩
            obtain ⟨b1, b2, b3, b4, fb, hb⟩ : ∃ x1 x2 x3 x4 e0, hollR m l = (((x1, x2), (x3, x4)), e0) := ⟨_, _, _, _, _, rfl⟩
            have HCA : Hid (fa = 0 → ¬ (x1 < a1) ∧ ¬ (x2 < a2)) := fun h => by
              obtain ⟨p, q, r1, r2, r3⟩ := HMO.out
              rw [h, r2] at ha
              exact more_le HO.out (by omega) r1 r3 ha
            have HCB : Hid (fb = 0 → ¬ (x1 < b1) ∧ ¬ (x2 < b2)) := fun h => by
              rw [h] at hb
              exact later_le HO.out rfl (fun i a b h5 h6 => by rw [h5] at h6; cases h6; exact Int.le_refl _) hb
            obtain ⟨Am, cm, hvm, im⟩ := HR4.out.o1.in_
            obtain ⟨Al, cl, hvl, il⟩ := HR4.out.o2.in_
            have hHA := fun (W : World) (d : Nat) (hB : IntsIn W Am (l1 ++ [(N : Int)])) => HHA.out (l1 ++ [(N : Int)]) W Am d hB
            rw [show (l1 ++ [(N : Int)]).length = l1.length + 1 from by simp] at hHA
            rw [ha] at hHA
            have hHB := fun (W : World) (d : Nat) (hB : IntsIn W Al l) => HHA.out l W Al d hB
            rw [hb] at hHB
            have HA := Lib.hid hHA
            have HB := Lib.hid hHB
            have HIM := Lib.hid im
            have HIL := Lib.hid il
            have HAA := Lib.hid HR4.out.a
            clear hHA hHB ha hb im il
            subst hvm hvl
            obtain ⟨z0, z1, z2, z3, z4, z5, z6, z7, z8, z9, z10, z11⟩ := HAA.out.bm.cells
            cases hfa : (fa == 0) with
            | true =>
              obtain rfl : fa = 0 := by simpa using hfa
              obtain ⟨ca1, ca2⟩ := HCA.out rfl
              cases hfb : (fb == 0) with
              | true =>
                obtain rfl : fb = 0 := by simpa using hfb
                obtain ⟨cb1, cb2⟩ := HCB.out rfl
                clear HCA HCB hfa hfb
                go_wp2_with (first
                  | (go_at_call 31; (with_reducible refine (HA.out _ _ HIM.out).mono ?_); rintro e wA ⟨rfl, hb⟩; have HBa := Lib.hid ((Below.refl _ wA).alloc (Nat.le_refl _) (.cells #[.int .i64 a1, .int .i64 a2, .int .i64 a3, .int .i64 a4] 45)); have HA1 := Lib.hid (And.intro ((HAA.out.on hb).on HBa.out) (And.intro ((HIL.out.on hb).on HBa.out) (show Blk (wA.alloc (.cells #[.int .i64 a1, .int .i64 a2, .int .i64 a3, .int .i64 a4] 45)) wA.heap.size 45 #[.int .i64 a1, .int .i64 a2, .int .i64 a3, .int .i64 a4] from Blk.new wA _ _))); clear z0 z1 z2 z3 z4 z5 z6 z7 z8 z9 z10 z11; obtain ⟨z0, z1, z2, z3, z4, z5, z6, z7, z8, z9, z10, z11⟩ := HA1.out.1.bm.cells; clear hb)
                  | (go_at_call 31; (with_reducible refine (HB.out _ _ HA1.out.2.1).mono ?_); rintro e wB ⟨rfl, hb⟩; have HBb := Lib.hid ((Below.refl _ wB).alloc (Nat.le_refl _) (.cells #[.int .i64 b1, .int .i64 b2, .int .i64 b3, .int .i64 b4] 45)); have HB1 := Lib.hid ((HA1.out.1.on hb).on HBb.out); have o0 := ((HA1.out.1.on hb).on HBb.out).k.cell 0; have o1 := ((HA1.out.1.on hb).on HBb.out).k.cell 1; have ol := ((HA1.out.1.on hb).on HBb.out).k.lt; have n0 := ((HA1.out.2.2.on hb).on HBb.out).cell 0; have n1 := ((HA1.out.2.2.on hb).on HBb.out).cell 1; have nll := ((HA1.out.2.2.on hb).on HBb.out).lt; have t0 := (Blk.new wB 45 #[.int .i64 b1, .int .i64 b2, .int .i64 b3, .int .i64 b4]).cell 0; have t1 := (Blk.new wB 45 #[.int .i64 b1, .int .i64 b2, .int .i64 b3, .int .i64 b4]).cell 1; clear z0 z1 z2 z3 z4 z5 z6 z7 z8 z9 z10 z11; clear hb)
                  | (go_at_call 26; (with_reducible refine (awake_any _).mono ?_); rintro e wE ⟨rfl, hb⟩; have HF := Lib.hid (HB1.out.bm.on hb); clear hb)
                  | fail)
                go_ret
                exact ⟨rfl, HF.out.b⟩
              | false =>
                clear HCA HCB hfa
                go_wp2_with (first
                  | (go_at_call 31; (with_reducible refine (HA.out _ _ HIM.out).mono ?_); rintro e wA ⟨rfl, hb⟩; have HBa := Lib.hid ((Below.refl _ wA).alloc (Nat.le_refl _) (.cells #[.int .i64 a1, .int .i64 a2, .int .i64 a3, .int .i64 a4] 45)); have HA1 := Lib.hid (And.intro ((HAA.out.on hb).on HBa.out) (And.intro ((HIL.out.on hb).on HBa.out) (show Blk (wA.alloc (.cells #[.int .i64 a1, .int .i64 a2, .int .i64 a3, .int .i64 a4] 45)) wA.heap.size 45 #[.int .i64 a1, .int .i64 a2, .int .i64 a3, .int .i64 a4] from Blk.new wA _ _))); clear z0 z1 z2 z3 z4 z5 z6 z7 z8 z9 z10 z11; obtain ⟨z0, z1, z2, z3, z4, z5, z6, z7, z8, z9, z10, z11⟩ := HA1.out.1.bm.cells; clear hb)
                  | (go_at_call 31; (with_reducible refine (HB.out _ _ HA1.out.2.1).mono ?_); rintro e wB ⟨rfl, hb⟩; have HBb := Lib.hid ((Below.refl _ wB).alloc (Nat.le_refl _) (.cells #[.int .i64 b1, .int .i64 b2, .int .i64 b3, .int .i64 b4] 45)); have HB1 := Lib.hid ((HA1.out.1.on hb).on HBb.out); have o0 := ((HA1.out.1.on hb).on HBb.out).k.cell 0; have o1 := ((HA1.out.1.on hb).on HBb.out).k.cell 1; have ol := ((HA1.out.1.on hb).on HBb.out).k.lt; have n0 := ((HA1.out.2.2.on hb).on HBb.out).cell 0; have n1 := ((HA1.out.2.2.on hb).on HBb.out).cell 1; have nll := ((HA1.out.2.2.on hb).on HBb.out).lt; have t0 := (Blk.new wB 45 #[.int .i64 b1, .int .i64 b2, .int .i64 b3, .int .i64 b4]).cell 0; have t1 := (Blk.new wB 45 #[.int .i64 b1, .int .i64 b2, .int .i64 b3, .int .i64 b4]).cell 1; clear z0 z1 z2 z3 z4 z5 z6 z7 z8 z9 z10 z11; clear hb)
                  | (go_at_call 26; (with_reducible refine (awake_any _).mono ?_); rintro e wE ⟨rfl, hb⟩; have HF := Lib.hid (HB1.out.bm.on hb); clear hb)
                  | fail)
                go_ret
                exact ⟨rfl, HF.out.b⟩
            | false =>
              cases hfb : (fb == 0) with
              | true =>
                obtain rfl : fb = 0 := by simpa using hfb
                obtain ⟨cb1, cb2⟩ := HCB.out rfl
                clear HCA HCB hfb
                go_wp2_with (first
                  | (go_at_call 31; (with_reducible refine (HA.out _ _ HIM.out).mono ?_); rintro e wA ⟨rfl, hb⟩; have HBa := Lib.hid ((Below.refl _ wA).alloc (Nat.le_refl _) (.cells #[.int .i64 a1, .int .i64 a2, .int .i64 a3, .int .i64 a4] 45)); have HA1 := Lib.hid (And.intro ((HAA.out.on hb).on HBa.out) (And.intro ((HIL.out.on hb).on HBa.out) (show Blk (wA.alloc (.cells #[.int .i64 a1, .int .i64 a2, .int .i64 a3, .int .i64 a4] 45)) wA.heap.size 45 #[.int .i64 a1, .int .i64 a2, .int .i64 a3, .int .i64 a4] from Blk.new wA _ _))); clear z0 z1 z2 z3 z4 z5 z6 z7 z8 z9 z10 z11; obtain ⟨z0, z1, z2, z3, z4, z5, z6, z7, z8, z9, z10, z11⟩ := HA1.out.1.bm.cells; clear hb)
                  | (go_at_call 31; (with_reducible refine (HB.out _ _ HA1.out.2.1).mono ?_); rintro e wB ⟨rfl, hb⟩; have HBb := Lib.hid ((Below.refl _ wB).alloc (Nat.le_refl _) (.cells #[.int .i64 b1, .int .i64 b2, .int .i64 b3, .int .i64 b4] 45)); have HB1 := Lib.hid ((HA1.out.1.on hb).on HBb.out); have o0 := ((HA1.out.1.on hb).on HBb.out).k.cell 0; have o1 := ((HA1.out.1.on hb).on HBb.out).k.cell 1; have ol := ((HA1.out.1.on hb).on HBb.out).k.lt; have n0 := ((HA1.out.2.2.on hb).on HBb.out).cell 0; have n1 := ((HA1.out.2.2.on hb).on HBb.out).cell 1; have nll := ((HA1.out.2.2.on hb).on HBb.out).lt; have t0 := (Blk.new wB 45 #[.int .i64 b1, .int .i64 b2, .int .i64 b3, .int .i64 b4]).cell 0; have t1 := (Blk.new wB 45 #[.int .i64 b1, .int .i64 b2, .int .i64 b3, .int .i64 b4]).cell 1; clear z0 z1 z2 z3 z4 z5 z6 z7 z8 z9 z10 z11; clear hb)
                  | (go_at_call 26; (with_reducible refine (awake_any _).mono ?_); rintro e wE ⟨rfl, hb⟩; have HF := Lib.hid (HB1.out.bm.on hb); clear hb)
                  | fail)
                go_ret
                exact ⟨rfl, HF.out.b⟩
              | false =>
                clear HCA HCB
                go_wp2_with (first
                  | (go_at_call 31; (with_reducible refine (HA.out _ _ HIM.out).mono ?_); rintro e wA ⟨rfl, hb⟩; have HBa := Lib.hid ((Below.refl _ wA).alloc (Nat.le_refl _) (.cells #[.int .i64 a1, .int .i64 a2, .int .i64 a3, .int .i64 a4] 45)); have HA1 := Lib.hid (And.intro ((HAA.out.on hb).on HBa.out) (And.intro ((HIL.out.on hb).on HBa.out) (show Blk (wA.alloc (.cells #[.int .i64 a1, .int .i64 a2, .int .i64 a3, .int .i64 a4] 45)) wA.heap.size 45 #[.int .i64 a1, .int .i64 a2, .int .i64 a3, .int .i64 a4] from Blk.new wA _ _))); clear z0 z1 z2 z3 z4 z5 z6 z7 z8 z9 z10 z11; obtain ⟨z0, z1, z2, z3, z4, z5, z6, z7, z8, z9, z10, z11⟩ := HA1.out.1.bm.cells; clear hb)
                  | (go_at_call 31; (with_reducible refine (HB.out _ _ HA1.out.2.1).mono ?_); rintro e wB ⟨rfl, hb⟩; have HBb := Lib.hid ((Below.refl _ wB).alloc (Nat.le_refl _) (.cells #[.int .i64 b1, .int .i64 b2, .int .i64 b3, .int .i64 b4] 45)); have HB1 := Lib.hid ((HA1.out.1.on hb).on HBb.out); have o0 := ((HA1.out.1.on hb).on HBb.out).k.cell 0; have o1 := ((HA1.out.1.on hb).on HBb.out).k.cell 1; have ol := ((HA1.out.1.on hb).on HBb.out).k.lt; have n0 := ((HA1.out.2.2.on hb).on HBb.out).cell 0; have n1 := ((HA1.out.2.2.on hb).on HBb.out).cell 1; have nll := ((HA1.out.2.2.on hb).on HBb.out).lt; have t0 := (Blk.new wB 45 #[.int .i64 b1, .int .i64 b2, .int .i64 b3, .int .i64 b4]).cell 0; have t1 := (Blk.new wB 45 #[.int .i64 b1, .int .i64 b2, .int .i64 b3, .int .i64 b4]).cell 1; clear z0 z1 z2 z3 z4 z5 z6 z7 z8 z9 z10 z11; clear hb)
                  | (go_at_call 26; (with_reducible refine (awake_any _).mono ?_); rintro e wE ⟨rfl, hb⟩; have HF := Lib.hid (HB1.out.bm.on hb); clear hb)
                  | fail)
                go_ret
                exact ⟨rfl, HF.out.b⟩
          · have hk1 : (0 : Int) < (k : Int) := by omega
            obtain ⟨k2, hk2⟩ : ∃ k2 : Nat, y1 % (k : Int) = (k2 : Int) := ⟨(y1 % (k : Int)).toNat, by have := Int.emod_nonneg y1 (show (k : Int) ≠ 0 by omega); omega⟩
            have hk2l : k2 < k := by have := Int.emod_lt_of_pos y1 hk1; omega
            have hkz : ¬ ((k : Int) = 0) := by omega
            have hmd : y1.tmod (k : Int) = (k2 : Int) := by rw [Int.tmod_eq_emod_of_nonneg h1.1]; exact hk2
            obtain ⟨xx, hxx⟩ : ∃ x, l[k2]? = some x := ⟨l[k2]'(by rw [HNL.out]; exact hk2l), List.getElem?_eq_getElem _⟩
            have hxr := HLR.out xx (List.mem_of_getElem? hxx)
            have HXX := Lib.hid hxx
            have HLA : Hid (l.length = (l.set k2 (xx + y2 % 30)).length ∧ ∀ (i : Nat) (a b : Int), l[i]? = some a → (l.set k2 (xx + y2 % 30))[i]? = some b → a ≤ b) := ⟨by rw [List.length_set], set_le hxx (by omega)⟩
            have hk2' : (k2 : Int) < (k : Int) := by omega
            clear hxx hk0
            obtain ⟨g2, cp2, hv2, _⟩ := own_block HS.out.o2 (by rw [HNL.out]; omega)
            rw [HNL.out] at hv2
            subst hv2
            go_upto_region 17 with (first
              | (at_builtin; go_must (refine app_list rfl _ _ rfl (l := l1) rfl HOA.out (N : Int) rfl (Blk.new _ _ _) HLEN.out HSZ.out ?_); intro g cap w4 r1 r2 r3 r4; have hap4 : ∀ r, (Value.slice (some ⟨g, 0, none⟩) (l1.length + 1) cap).ownBlock = some r → (Value.slice (some ⟨g2, 0, none⟩) k cp2).ownBlock ≠ some r := (by intro r hr hg; obtain rfl : g = r := Option.some.inj hr; rcases r4 with h | h; exact HS.out.ap _ h hg; have h5 := (World.ownsRow.lt HS.out.o2 _ hg).2; simp at h; omega); have HR4 : Hid (MoR w m y0 y1 y2 B l w1.heap.size (w1.heap.size + 1) x1 x2 x3 x4 (.slice (some ⟨g, 0, none⟩) (l1.length + 1) cap) (l1 ++ [(N : Int)]) (Value.slice (some ⟨g2, 0, none⟩) k cp2) l w4) := ⟨(HS.out.a.on HBA.out).below r2, r1, own_grow (own_below HS.out.o2 HBA.out) r3 (fun r hr he => HS.out.ap r he hr), hap4⟩; clear r1 r2 r3 r4 hap4; generalize Value.slice (some ⟨g, 0, none⟩) (l1.length + 1) cap = v5 at HR4 ⊢; have q1 := HR4.out.a.y.cell 1; have ql := HR4.out.a.y.lt)
              | fail)
            refine wp_of_eq (mo17_region HXX.out hk2' hxr h2 HR4 (Lib.hid fun u17 W17 h17 => ?_)) (by kernel_rfl)
            have HT7 := Lib.hid h17
            clear h17
            obtain ⟨a1, a2, a3, a4, fa, ha⟩ : ∃ x1 x2 x3 x4 e0, hollR m (l1 ++ [(N : Int)]) = (((x1, x2), (x3, x4)), e0) := ⟨_, _, _, _, _, rfl⟩
            obtain ⟨b1, b2, b3, b4, fb, hb⟩ : ∃ x1 x2 x3 x4 e0, hollR m (l.set k2 (xx + y2 % 30)) = (((x1, x2), (x3, x4)), e0) := ⟨_, _, _, _, _, rfl⟩
            have HCA : Hid (fa = 0 → ¬ (x1 < a1) ∧ ¬ (x2 < a2)) := fun h => by
              obtain ⟨p, q, r1, r2, r3⟩ := HMO.out
              rw [h, r2] at ha
              exact more_le HO.out (by omega) r1 r3 ha
            have HCB : Hid (fb = 0 → ¬ (x1 < b1) ∧ ¬ (x2 < b2)) := fun h => by
              rw [h] at hb
              exact later_le HO.out HLA.out.1 HLA.out.2 hb
            obtain ⟨Am, cm, hvm, im⟩ := HT7.out.o1.in_
            obtain ⟨Al, cl, hvl, il⟩ := HT7.out.o2.in_
            have hHA := fun (W : World) (d : Nat) (hB : IntsIn W Am (l1 ++ [(N : Int)])) => HHA.out (l1 ++ [(N : Int)]) W Am d hB
            rw [show (l1 ++ [(N : Int)]).length = l1.length + 1 from by simp] at hHA
            rw [ha] at hHA
            have hHB := fun (W : World) (d : Nat) (hB : IntsIn W Al (l.set k2 (xx + y2 % 30))) => HHA.out (l.set k2 (xx + y2 % 30)) W Al d hB
            rw [hb] at hHB
            have HA := Lib.hid hHA
            have HB := Lib.hid hHB
            have HIM := Lib.hid im
            have HIL := Lib.hid il
            have HAA := Lib.hid HT7.out.a
            clear hHA hHB ha hb im il HLA
            subst hvm
            obtain ⟨e1, e2, e3⟩ : (some ⟨g2, 0, none⟩ : Option Addr) = Al ∧ k = (l.set k2 (xx + y2 % 30)).length ∧ cp2 = cl := by simpa using hvl
            subst e1 e3
            rw [← e2] at HB
            clear e2 hvl
            obtain ⟨z0, z1, z2, z3, z4, z5, z6, z7, z8, z9, z10, z11⟩ := HAA.out.bm.cells
            cases hfa : (fa == 0) with
            | true =>
              obtain rfl : fa = 0 := by simpa using hfa
              obtain ⟨ca1, ca2⟩ := HCA.out rfl
              cases hfb : (fb == 0) with
              | true =>
                obtain rfl : fb = 0 := by simpa using hfb
                obtain ⟨cb1, cb2⟩ := HCB.out rfl
                clear HCA HCB hfa hfb
                go_wp2_with (first
                  | (go_at_call 31; (with_reducible refine (HA.out _ _ HIM.out).mono ?_); rintro e wA ⟨rfl, hb⟩; have HBa := Lib.hid ((Below.refl _ wA).alloc (Nat.le_refl _) (.cells #[.int .i64 a1, .int .i64 a2, .int .i64 a3, .int .i64 a4] 45)); have HA1 := Lib.hid (And.intro ((HAA.out.on hb).on HBa.out) (And.intro ((HIL.out.on hb).on HBa.out) (show Blk (wA.alloc (.cells #[.int .i64 a1, .int .i64 a2, .int .i64 a3, .int .i64 a4] 45)) wA.heap.size 45 #[.int .i64 a1, .int .i64 a2, .int .i64 a3, .int .i64 a4] from Blk.new wA _ _))); clear z0 z1 z2 z3 z4 z5 z6 z7 z8 z9 z10 z11; obtain ⟨z0, z1, z2, z3, z4, z5, z6, z7, z8, z9, z10, z11⟩ := HA1.out.1.bm.cells; clear hb)
                  | (go_at_call 31; (with_reducible refine (HB.out _ _ HA1.out.2.1).mono ?_); rintro e wB ⟨rfl, hb⟩; have HBb := Lib.hid ((Below.refl _ wB).alloc (Nat.le_refl _) (.cells #[.int .i64 b1, .int .i64 b2, .int .i64 b3, .int .i64 b4] 45)); have HB1 := Lib.hid ((HA1.out.1.on hb).on HBb.out); have o0 := ((HA1.out.1.on hb).on HBb.out).k.cell 0; have o1 := ((HA1.out.1.on hb).on HBb.out).k.cell 1; have ol := ((HA1.out.1.on hb).on HBb.out).k.lt; have n0 := ((HA1.out.2.2.on hb).on HBb.out).cell 0; have n1 := ((HA1.out.2.2.on hb).on HBb.out).cell 1; have nll := ((HA1.out.2.2.on hb).on HBb.out).lt; have t0 := (Blk.new wB 45 #[.int .i64 b1, .int .i64 b2, .int .i64 b3, .int .i64 b4]).cell 0; have t1 := (Blk.new wB 45 #[.int .i64 b1, .int .i64 b2, .int .i64 b3, .int .i64 b4]).cell 1; clear z0 z1 z2 z3 z4 z5 z6 z7 z8 z9 z10 z11; clear hb)
                  | (go_at_call 26; (with_reducible refine (awake_any _).mono ?_); rintro e wE ⟨rfl, hb⟩; have HF := Lib.hid (HB1.out.bm.on hb); clear hb)
                  | fail)
                go_ret
                exact ⟨rfl, HF.out.b⟩
              | false =>
                clear HCA HCB hfa
                go_wp2_with (first
                  | (go_at_call 31; (with_reducible refine (HA.out _ _ HIM.out).mono ?_); rintro e wA ⟨rfl, hb⟩; have HBa := Lib.hid ((Below.refl _ wA).alloc (Nat.le_refl _) (.cells #[.int .i64 a1, .int .i64 a2, .int .i64 a3, .int .i64 a4] 45)); have HA1 := Lib.hid (And.intro ((HAA.out.on hb).on HBa.out) (And.intro ((HIL.out.on hb).on HBa.out) (show Blk (wA.alloc (.cells #[.int .i64 a1, .int .i64 a2, .int .i64 a3, .int .i64 a4] 45)) wA.heap.size 45 #[.int .i64 a1, .int .i64 a2, .int .i64 a3, .int .i64 a4] from Blk.new wA _ _))); clear z0 z1 z2 z3 z4 z5 z6 z7 z8 z9 z10 z11; obtain ⟨z0, z1, z2, z3, z4, z5, z6, z7, z8, z9, z10, z11⟩ := HA1.out.1.bm.cells; clear hb)
                  | (go_at_call 31; (with_reducible refine (HB.out _ _ HA1.out.2.1).mono ?_); rintro e wB ⟨rfl, hb⟩; have HBb := Lib.hid ((Below.refl _ wB).alloc (Nat.le_refl _) (.cells #[.int .i64 b1, .int .i64 b2, .int .i64 b3, .int .i64 b4] 45)); have HB1 := Lib.hid ((HA1.out.1.on hb).on HBb.out); have o0 := ((HA1.out.1.on hb).on HBb.out).k.cell 0; have o1 := ((HA1.out.1.on hb).on HBb.out).k.cell 1; have ol := ((HA1.out.1.on hb).on HBb.out).k.lt; have n0 := ((HA1.out.2.2.on hb).on HBb.out).cell 0; have n1 := ((HA1.out.2.2.on hb).on HBb.out).cell 1; have nll := ((HA1.out.2.2.on hb).on HBb.out).lt; have t0 := (Blk.new wB 45 #[.int .i64 b1, .int .i64 b2, .int .i64 b3, .int .i64 b4]).cell 0; have t1 := (Blk.new wB 45 #[.int .i64 b1, .int .i64 b2, .int .i64 b3, .int .i64 b4]).cell 1; clear z0 z1 z2 z3 z4 z5 z6 z7 z8 z9 z10 z11; clear hb)
                  | (go_at_call 26; (with_reducible refine (awake_any _).mono ?_); rintro e wE ⟨rfl, hb⟩; have HF := Lib.hid (HB1.out.bm.on hb); clear hb)
                  | fail)
                go_ret
                exact ⟨rfl, HF.out.b⟩
            | false =>
              cases hfb : (fb == 0) with
              | true =>
                obtain rfl : fb = 0 := by simpa using hfb
                obtain ⟨cb1, cb2⟩ := HCB.out rfl
                clear HCA HCB hfb
                go_wp2_with (first
                  | (go_at_call 31; (with_reducible refine (HA.out _ _ HIM.out).mono ?_); rintro e wA ⟨rfl, hb⟩; have HBa := Lib.hid ((Below.refl _ wA).alloc (Nat.le_refl _) (.cells #[.int .i64 a1, .int .i64 a2, .int .i64 a3, .int .i64 a4] 45)); have HA1 := Lib.hid (And.intro ((HAA.out.on hb).on HBa.out) (And.intro ((HIL.out.on hb).on HBa.out) (show Blk (wA.alloc (.cells #[.int .i64 a1, .int .i64 a2, .int .i64 a3, .int .i64 a4] 45)) wA.heap.size 45 #[.int .i64 a1, .int .i64 a2, .int .i64 a3, .int .i64 a4] from Blk.new wA _ _))); clear z0 z1 z2 z3 z4 z5 z6 z7 z8 z9 z10 z11; obtain ⟨z0, z1, z2, z3, z4, z5, z6, z7, z8, z9, z10, z11⟩ := HA1.out.1.bm.cells; clear hb)
                  | (go_at_call 31; (with_reducible refine (HB.out _ _ HA1.out.2.1).mono ?_); rintro e wB ⟨rfl, hb⟩; have HBb := Lib.hid ((Below.refl _ wB).alloc (Nat.le_refl _) (.cells #[.int .i64 b1, .int .i64 b2, .int .i64 b3, .int .i64 b4] 45)); have HB1 := Lib.hid ((HA1.out.1.on hb).on HBb.out); have o0 := ((HA1.out.1.on hb).on HBb.out).k.cell 0; have o1 := ((HA1.out.1.on hb).on HBb.out).k.cell 1; have ol := ((HA1.out.1.on hb).on HBb.out).k.lt; have n0 := ((HA1.out.2.2.on hb).on HBb.out).cell 0; have n1 := ((HA1.out.2.2.on hb).on HBb.out).cell 1; have nll := ((HA1.out.2.2.on hb).on HBb.out).lt; have t0 := (Blk.new wB 45 #[.int .i64 b1, .int .i64 b2, .int .i64 b3, .int .i64 b4]).cell 0; have t1 := (Blk.new wB 45 #[.int .i64 b1, .int .i64 b2, .int .i64 b3, .int .i64 b4]).cell 1; clear z0 z1 z2 z3 z4 z5 z6 z7 z8 z9 z10 z11; clear hb)
                  | (go_at_call 26; (with_reducible refine (awake_any _).mono ?_); rintro e wE ⟨rfl, hb⟩; have HF := Lib.hid (HB1.out.bm.on hb); clear hb)
                  | fail)
                go_ret
                exact ⟨rfl, HF.out.b⟩
              | false =>
                clear HCA HCB
                go_wp2_with (first
                  | (go_at_call 31; (with_reducible refine (HA.out _ _ HIM.out).mono ?_); rintro e wA ⟨rfl, hb⟩; have HBa := Lib.hid ((Below.refl _ wA).alloc (Nat.le_refl _) (.cells #[.int .i64 a1, .int .i64 a2, .int .i64 a3, .int .i64 a4] 45)); have HA1 := Lib.hid (And.intro ((HAA.out.on hb).on HBa.out) (And.intro ((HIL.out.on hb).on HBa.out) (show Blk (wA.alloc (.cells #[.int .i64 a1, .int .i64 a2, .int .i64 a3, .int .i64 a4] 45)) wA.heap.size 45 #[.int .i64 a1, .int .i64 a2, .int .i64 a3, .int .i64 a4] from Blk.new wA _ _))); clear z0 z1 z2 z3 z4 z5 z6 z7 z8 z9 z10 z11; obtain ⟨z0, z1, z2, z3, z4, z5, z6, z7, z8, z9, z10, z11⟩ := HA1.out.1.bm.cells; clear hb)
                  | (go_at_call 31; (with_reducible refine (HB.out _ _ HA1.out.2.1).mono ?_); rintro e wB ⟨rfl, hb⟩; have HBb := Lib.hid ((Below.refl _ wB).alloc (Nat.le_refl _) (.cells #[.int .i64 b1, .int .i64 b2, .int .i64 b3, .int .i64 b4] 45)); have HB1 := Lib.hid ((HA1.out.1.on hb).on HBb.out); have o0 := ((HA1.out.1.on hb).on HBb.out).k.cell 0; have o1 := ((HA1.out.1.on hb).on HBb.out).k.cell 1; have ol := ((HA1.out.1.on hb).on HBb.out).k.lt; have n0 := ((HA1.out.2.2.on hb).on HBb.out).cell 0; have n1 := ((HA1.out.2.2.on hb).on HBb.out).cell 1; have nll := ((HA1.out.2.2.on hb).on HBb.out).lt; have t0 := (Blk.new wB 45 #[.int .i64 b1, .int .i64 b2, .int .i64 b3, .int .i64 b4]).cell 0; have t1 := (Blk.new wB 45 #[.int .i64 b1, .int .i64 b2, .int .i64 b3, .int .i64 b4]).cell 1; clear z0 z1 z2 z3 z4 z5 z6 z7 z8 z9 z10 z11; clear hb)
                  | (go_at_call 26; (with_reducible refine (awake_any _).mono ?_); rintro e wE ⟨rfl, hb⟩; have HF := Lib.hid (HB1.out.bm.on hb); clear hb)
                  | fail)
                go_ret
                exact ⟨rfl, HF.out.b⟩
end Go.Proofs.Ytljbjcnfkbmjkaa
