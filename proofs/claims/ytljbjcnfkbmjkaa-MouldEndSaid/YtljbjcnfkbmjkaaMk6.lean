/- MouldEnd: the law. -/
import Derived.Test.YtljbjcnfkbmjkaaGj
namespace Go.Proofs.Ytljbjcnfkbmjkaa
open Go.RowKit Go.Shelf Go.Maps
attribute [local go_sem] Oper.semAt_some

def sumN (m : Md) (k : Nat) : Int := sumL ((shrL m).take k)
theorem sumL_append : ∀ a b : List Int, sumL (a ++ b) = sumL a + sumL b
  | [], b => by simp [sumL]
  | x :: a, b => by rw [List.cons_append, sumL, sumL, sumL_append a b]; omega
theorem sumN_step {m : Md} {k : Nat} (h : k < kR m) : sumN m (k + 1) = sumN m k + shrV m k := by
  unfold sumN
  rw [List.take_add_one, shrL_get h, sumL_append]
  simp [sumL]
theorem sumN_end (m : Md) : sumN m (kR m) = sumL (shrL m) := by
  unfold sumN
  rw [List.take_of_length_le (by rw [shrL_length]; exact Nat.le_refl _)]
theorem sumN_bounds {m : Md} (h : MdIn m) : ∀ k : Nat, k ≤ kR m → 0 ≤ sumN m k ∧ sumN m k ≤ 3000 * (k : Int)
  | 0, _ => by simp [sumN, sumL]
  | k + 1, hk => by
    have h1 := sumN_bounds h k (by omega)
    have h2 := shrV_nonneg h (i := k) (by omega)
    rw [sumN_step (by omega)]
    omega
/-- What lies in memory: the mould and the turns, the plan, the hollow. -/
structure LeA (w : World) (m : Md) (Y1 : Option Addr) (n1 c1 : Nat) (Y2 : Option Addr) (n2 c2 : Nat) (B : Option Addr) (l : List Int) (K : Nat) (x1 x2 x3 x4 : Int) (W : World) : Prop where
  a : LtA w m Y1 n1 c1 Y2 n2 c2 W
  l : IntsIn W B l
  k : Blk W K 45 #[.int .i64 x1, .int .i64 x2, .int .i64 x3, .int .i64 x4]
theorem LeA.on {w W W' : World} {m : Md} {Y1 Y2 B : Option Addr} {n1 c1 n2 c2 K : Nat} {l : List Int} {x1 x2 x3 x4 : Int} (h : LeA w m Y1 n1 c1 Y2 n2 c2 B l K x1 x2 x3 x4 W) (hb : Below W.heap.size W W') : LeA w m Y1 n1 c1 Y2 n2 c2 B l K x1 x2 x3 x4 W' := ⟨h.a.on hb, h.l.on hb, h.k.on hb⟩
set_option maxRecDepth 100000 in
set_option maxHeartbeats 8000000 in
theorem lend_law_any (m : Md) {w : World} {B : Option Addr} {d : Nat} {l : List Int} (hl : IntsIn w B l) {Y1 Y2 : Option Addr} {c1 c2 : Nat} {ps ws : List Int} (hp : U16In w Y1 ps) (hq : U16In w Y2 ws) :
    Calls Try.prog 9 #[.agg #[.int .i64 m.rings, .int .i64 m.give, .int .i64 m.plo, .int .i64 m.phi, .int .i64 m.wlo, .int .i64 m.whi, .int .i64 m.st, .int .i64 m.shrink, .int .i64 m.skin, .int .i64 m.fill, .int .i64 m.gap, .int .i64 m.deep], .slice B l.length d, .agg #[.slice Y1 ps.length c1, .slice Y2 ws.length c2]] w fun e w' => e = .returned (.bool true) ∧ Below w.heap.size w w' := by
  have HM := Lib.hid (LtA.new w m Y1 ps.length c1 Y2 ws.length c2)
  have HL := Lib.hid (hl.on HM.out.bm.b)
  obtain ⟨x1, x2, x3, x4, e0, hx⟩ : ∃ x1 x2 x3 x4 e0, hollR m l = (((x1, x2), (x3, x4)), e0) := ⟨_, _, _, _, _, rfl⟩
  obtain ⟨nl, hnl⟩ : ∃ nl : Nat, l.length = nl := ⟨_, rfl⟩
  have HH := Lib.hid (hollow_law hnl hx)
  rcases holl_cases hx with ⟨hf0, rfl, rfl, rfl, rfl⟩ | ⟨rfl, ho⟩
  · have hz : (e0 != 0) = true := by simpa using hf0
    have e2 : ∀ W, (binOp .eql 45 (.agg #[.int .i64 0, .int .i64 0, .int .i64 0, .int .i64 0]) (.agg #[.int .i64 0, .int .i64 0, .int .i64 0, .int .i64 0])).run Try.prog W = .ok (.bool true) W := fun _ => by kernel_rfl
    rw [hnl]
    generalize ps.length = n1 at *
    generalize ws.length = n2 at *
    clear hp hq hf0 hx hl hnl
    go_enter Try.func9, Try.ntmps9
    obtain ⟨z0, z1, z2, z3, z4, z5, z6, z7, z8, z9, z10, z11⟩ := HM.out.bm.cells
    go_wp2_with (first
      | (go_at_call 31; (with_reducible refine (HH.out _ _ _ HL.out).mono ?_); rintro e w1 ⟨rfl, hb1⟩; have HM1 := Lib.hid (HM.out.on hb1); have HB2 := Lib.hid ((Below.refl _ w1).alloc (Nat.le_refl _) (.cells #[.int .i64 0, .int .i64 0, .int .i64 0, .int .i64 0] 45)); clear z0 z1 z2 z3 z4 z5 z6 z7 z8 z9 z10 z11; clear hb1)
      | (go_at_call 26; refine (awake_any _).mono ?_; rintro e w5 ⟨rfl, hb⟩; have HM5 := Lib.hid ((HM1.out.on HB2.out).on hb); clear hb)
      | fail)
    go_ret
    exact ⟨rfl, HM5.out.bm.b⟩
  · have hok := ho.ok
    obtain ⟨a, ha⟩ : ∃ a, wh m false = a := ⟨_, rfl⟩
    obtain ⟨b, hb⟩ : ∃ b, wh m true = b := ⟨_, rfl⟩
    obtain ⟨N2, hN2⟩ : ∃ N2 : Nat, N2 = 600 := ⟨_, rfl⟩
    have T4 := TrOk.tr (N := N2) hok (by omega) ps ws
    have HT4 := Lib.hid (fun (W : World) (h : Below w.heap.size w W) => truth_law (c1 := c1) (c2 := c2) (N := N2) hok hp hq (by omega) h)
    rw [show ((N2 : Nat) : Int) = 600 by omega] at HT4
    have HW4 := Lib.hid (when_tr hok T4)
    have hnv := ho.nev
    rw [hb] at hnv
    have WO := WOk.of hok ha hb T4 hN2 hnv
    have hck := checkM_ok.2 hok
    have HC := Lib.hid (fun W => rcheck_any m W)
    rw [hck] at HC
    have hpl := ho.plan
    have hpr := ho.pours
    have q1 := ho.e1
    have q2 := ho.e2
    have q3 := ho.e3
    have q4 := ho.e4
    rw [ha] at hpr q1 q4
    rw [hb] at q2 q3
    have HE := Lib.hid (end_law hok.toMdIn WO.lw hpl rfl hnl)
    have HPo := Lib.hid (pours_law (m := m) WO.lw rfl hnl (WO.pours hpr))
    have HPl := Lib.hid (plan_law (m := m) hnl hpl)
    obtain ⟨r1, r2⟩ := WO.holl l
    obtain ⟨r3, r4⟩ := WO.pour l
    obtain ⟨s1, s2, s3⟩ := WO.sum l
    have t1 := sumN_bounds hok.toMdIn (kR m) (Nat.le_refl _)
    rw [sumN_end] at t1
    have hk8 : kR m ≤ 8 := (kR_le hok.toMdIn).2
    have HR : Hid (m.rings = ((kR m : Nat) : Int)) := (kR_eq hok.toMdIn).symm
    have HSb := Lib.hid (sumN_bounds hok.toMdIn)
    have HSe := Lib.hid (sumN_end m)
    have HSH := Lib.hid (fun (i : Nat) (hi : i < kR m) (W : World) => rshrinks_any hok.toMdIn hi W)
    have HNn := Lib.hid (never_get WO.never)
    have HLW := Lib.hid WO.lw
    rw [← q1] at r1 s2
    rw [← q2] at r2 s3
    rw [← q3] at r3 s3
    rw [← q4] at r4 s2
    have u1' := pourM_bounds hok.toMdIn (whenM m (trL m.plo m.phi ps (kR m)) (trL m.wlo m.whi ws N2)) l
    generalize whenM m (trL m.plo m.phi ps (kR m)) (trL m.wlo m.whi ws N2) = wl at *
    generalize hollM m wl l = hx0 at *
    generalize pourM m wl l = px at *
    rw [hnl]
    generalize ps.length = n1 at *
    generalize ws.length = n2 at *
    generalize trL m.plo m.phi ps (kR m) = tp at *
    generalize trL m.wlo m.whi ws N2 = tw at *
    generalize sumL (shrL m) = sm at *
    have i1 := Lib.hid (show inB hx0 x1 x2 = true from inB_iff.2 ⟨r1, r2⟩)
    have i2 := Lib.hid (show inB px x3 x4 = true from inB_iff.2 ⟨r3, r4⟩)
    have HI1 : Hid (∀ W, Calls Try.prog 39 #[.int .i64 hx0, .agg #[.int .i64 x1, .int .i64 x2]] W fun e w' => e = .returned (.bool true) ∧ Below W.heap.size W w') := fun W => by
      have h := inside_any hx0 x1 x2 W
      rw [i1.out] at h
      exact h
    have HI2 : Hid (∀ W, Calls Try.prog 39 #[.int .i64 px, .agg #[.int .i64 x3, .int .i64 x4]] W fun e w' => e = .returned (.bool true) ∧ Below W.heap.size W w') := fun W => by
      have h := inside_any px x3 x4 W
      rw [i2.out] at h
      exact h
    have k1 : IntKind.i64.wrap (hx0 + px) = sm := by rw [s1]; exact IntWalk.i64_in _ (by omega)
    have k2 : IntKind.i64.wrap (x1 + x4) = sm := by rw [s2]; exact IntWalk.i64_in _ (by omega)
    have k3 : IntKind.i64.wrap (x2 + x3) = sm := by rw [s3]; exact IntWalk.i64_in _ (by omega)
    clear hp hq hok ho hnv T4 WO hpl hpr hN2 ha hb hck hnl q1 q2 q3 q4 r1 r2 r3 r4 s1 s2 s3 hx hl u1' i1 i2
    go_enter Try.func9, Try.ntmps9
    obtain ⟨z0, z1, z2, z3, z4, z5, z6, z7, z8, z9, z10, z11⟩ := HM.out.bm.cells
    go_wp2_with (first
      | (go_at_call 31; (with_reducible refine (HH.out _ _ _ HL.out).mono ?_); rintro e w1 ⟨rfl, hb1⟩; have HB2 := Lib.hid ((Below.refl _ w1).alloc (Nat.le_refl _) (.cells #[.int .i64 x1, .int .i64 x2, .int .i64 x3, .int .i64 x4] 45)); have H1 : Hid (LeA w m Y1 n1 c1 Y2 n2 c2 B l w1.heap.size x1 x2 x3 x4 (w1.alloc (.cells #[.int .i64 x1, .int .i64 x2, .int .i64 x3, .int .i64 x4] 45))) := ⟨(HM.out.on hb1).on HB2.out, (HL.out.on hb1).on HB2.out, Blk.new w1 _ _⟩; clear z0 z1 z2 z3 z4 z5 z6 z7 z8 z9 z10 z11; obtain ⟨z0, z1, z2, z3, z4, z5, z6, z7, z8, z9, z10, z11⟩ := H1.out.a.bm.cells; clear hb1)
      | (go_at_call 19; (with_reducible refine (HC.out _).mono ?_); rintro e w3 ⟨rfl, hb3⟩; have H3 := Lib.hid (H1.out.on hb3); clear z0 z1 z2 z3 z4 z5 z6 z7 z8 z9 z10 z11; obtain ⟨z0, z1, z2, z3, z4, z5, z6, z7, z8, z9, z10, z11⟩ := H3.out.a.bm.cells; clear hb3)
      | (go_at_call 43; (with_reducible refine (HPl.out _ _ _ H3.out.l).mono ?_); rintro e w5 ⟨rfl, hb5⟩; have H5 := Lib.hid (H3.out.on hb5); clear z0 z1 z2 z3 z4 z5 z6 z7 z8 z9 z10 z11; clear hb5)
      | fail)
    refine wp_of_eq (le4_region (S := LeA w m Y1 n1 c1 Y2 n2 c2 B l w1.heap.size x1 x2 x3 x4) (fun W W' h hb => h.on hb) (fun W h => h.a.bm) (fun W h => h.a.y) (Lib.hid fun W h => HT4.out W h.a.bm.b) HW4 H5 (Lib.hid fun u4 Ak c4 W4 i4 h4 => ?_)) (by kernel_rfl)
    have H6 := Lib.hid (And.intro h4 i4)
    clear h4 i4 H5 HT4 HW4
    obtain ⟨z0, z1, z2, z3, z4, z5, z6, z7, z8, z9, z10, z11⟩ := H6.out.1.a.bm.cells
    go_wp2_with (first
      | (go_at_call 44; (with_reducible refine (HE.out _ _ _ _ _ H6.out.2 H6.out.1.l).mono ?_); rintro e w6 ⟨rfl, hb6⟩; have H7 := Lib.hid (And.intro (H6.out.1.on hb6) (H6.out.2.on hb6)); clear z0 z1 z2 z3 z4 z5 z6 z7 z8 z9 z10 z11; clear hb6)
      | fail)
    clear H6
    go_loopw [12, 13] (fun s i W => ∃ (k : Nat) (v : Int), k ≤ kR m ∧ i = .int .i64 k ∧ s = .int .i64 v ∧ Hid (v = sumN m k) ∧ Hid (LeA w m Y1 n1 c1 Y2 n2 c2 B l w1.heap.size x1 x2 x3 x4 W ∧ IntsIn W Ak wl)) (fun _ i _ => kR m - (intOf i).toNat)
    case atStart => exact ⟨0, 0, Nat.zero_le _, rfl, rfl, rfl, H7⟩
    case round =>
      obtain ⟨k, v, hk, rfl, rfl, HV, HS⟩ := hrel
      clear H7
      by_cases hlt : k < kR m
      · have hlt' : (k : Int) < m.rings := by rw [HR.out]; omega
        obtain ⟨y, hy⟩ : ∃ y, wl[k]? = some y := ⟨wl[k]'(by rw [HLW.out]; exact hlt), List.getElem?_eq_getElem _⟩
        obtain ⟨b2, o2, rfl, _, dy⟩ := ints_at HS.out.2.at_ hy
        have hy0 : ¬ y < 0 := by have := HNn.out y (List.mem_of_getElem? hy); omega
        have HVs := Lib.hid (sumN_step hlt)
        have hvb := HSb.out k (by omega)
        rw [← HV.out] at hvb
        have hvc := HSb.out (k + 1) (by omega)
        rw [HVs.out, ← HV.out] at hvc
        have HN : Hid (v + shrV m k = sumN m (k + 1)) := by show _ = _; rw [HVs.out, ← HV.out]
        have HS1 := Lib.hid (fun W => HSH.out k hlt W)
        have HYY := Lib.hid hy
        have hkl : k < wl.length := by rw [HLW.out]; exact hlt
        have hkl' : (k : Int) < (kR m : Int) := by omega
        clear hy HVs dy hkl
        generalize shrV m k = sv at *
        obtain ⟨z0, z1, z2, z3, z4, z5, z6, z7, z8, z9, z10, z11⟩ := HS.out.1.a.bm.cells
        go_wp2_with (first
          | (go_at_call 45; (with_reducible refine (HS1.out _).mono ?_); rintro e w3 ⟨rfl, hb3⟩; have HC3 : Hid (LeA w m Y1 n1 c1 Y2 n2 c2 B l w1.heap.size x1 x2 x3 x4 w3 ∧ IntsIn w3 (some ⟨b2, o2, none⟩) wl ∧ w3.cell? ⟨b2, o2 + k, none⟩ = some (.int .i64 y)) := ⟨HS.out.1.on hb3, HS.out.2.on hb3, by obtain ⟨_, _, e, _, d1⟩ := ints_at (HS.out.2.on hb3).at_ HYY.out; cases e; exact d1⟩; have dy := HC3.out.2.2; clear hb3; clear z0 z1 z2 z3 z4 z5 z6 z7 z8 z9 z10 z11)
          | fail)
        go_roundw
        case rel => exact ⟨k + 1, v + sv, Nat.succ_le_of_lt hlt, by go_num, by go_num, HN, Lib.hid ⟨HC3.out.1, HC3.out.2.1⟩⟩
        case measure => exact meas_one hlt
      · obtain rfl : k = kR m := by omega
        have hn2 : ¬ ((kR m : Int) < m.rings) := by rw [HR.out]; omega
        have hv : v = sm := by rw [HV.out]; exact HSe.out
        subst hv
        clear HV
        obtain ⟨z0, z1, z2, z3, z4, z5, z6, z7, z8, z9, z10, z11⟩ := HS.out.1.a.bm.cells
        go_wp2_with (first
          | (go_at_call 46; (with_reducible refine (HPo.out _ _ _ _ _ HS.out.2 HS.out.1.l).mono ?_); rintro e w7 ⟨rfl, hb7⟩; have H8 := Lib.hid (HS.out.1.on hb7); clear z0 z1 z2 z3 z4 z5 z6 z7 z8 z9 z10 z11; have d0 := H8.out.k.cell 0; have d1 := H8.out.k.cell 1; have hl8 := H8.out.k.lt; clear hb7)
          | (go_at_call 39; (with_reducible refine (HI1.out _).mono ?_); rintro e w8 ⟨rfl, hb8⟩; have H9 := Lib.hid (H8.out.on hb8); clear d0 d1 hl8; have d2 := H9.out.k.cell 2; have d3 := H9.out.k.cell 3; have hl9 := H9.out.k.lt; clear hb8)
          | (go_at_call 39; (with_reducible refine (HI2.out _).mono ?_); rintro e w9 ⟨rfl, hb9⟩; have HA := Lib.hid (H9.out.on hb9); clear d2 d3 hl9; have d0 := HA.out.k.cell 0; have d1 := HA.out.k.cell 1; have d2 := HA.out.k.cell 2; have d3 := HA.out.k.cell 3; have hlA := HA.out.k.lt; clear hb9)
          | (go_at_call 26; refine (awake_any _).mono ?_; rintro e wA ⟨rfl, hb⟩; have HB := Lib.hid (HA.out.on hb); clear hb)
          | fail)
        go_ret
        exact ⟨rfl, HB.out.a.bm.b⟩
end Go.Proofs.Ytljbjcnfkbmjkaa
