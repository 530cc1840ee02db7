/- MouldEnds: the law. -/
import Derived.Test.YtljbjcnfkbmjkaaMk8
namespace Go.Proofs.Ytljbjcnfkbmjkaa
open Go.RowKit Go.Shelf Go.Maps
attribute [local go_sem] Oper.semAt_some

/-- What Hollow returns of a plan without an error. -/
theorem holl_three {m : Md} {a b l : List Int} {x1 x2 x3 x4 e0 : Int} (ha : wh m false = a) (hb : wh m true = b) (hc : checkM m = 0) (hp : planE m l = 0) (hx : hollR m l = (((x1, x2), (x3, x4)), e0)) :
    (e0 = 9 ∧ never b = true) ∨ (e0 = 9 ∧ never b = false ∧ pours m a l = false) ∨ (e0 = 0 ∧ never b = false ∧ pours m a l = true ∧ x1 = hollM m a l ∧ x2 = hollM m b l) := by
  unfold hollR at hx
  rw [if_neg (fun h => h hc), if_neg (fun h => h hp), ha, hb] at hx
  by_cases h3 : never b = true
  · rw [if_pos h3] at hx
    cases hx
    exact .inl ⟨rfl, h3⟩
  · rw [if_neg h3] at hx
    by_cases h4 : pours m a l = true
    · rw [if_pos h4] at hx
      cases hx
      exact .inr (.inr ⟨rfl, by simpa using h3, h4, rfl, rfl⟩)
    · rw [if_neg h4] at hx
      cases hx
      exact .inr (.inl ⟨rfl, by simpa using h3, by simpa using h4⟩)
theorem holl_bad {m : Md} {l : List Int} {x1 x2 x3 x4 e0 : Int} (h : checkM m ≠ 0 ∨ planE m l ≠ 0) (hx : hollR m l = (((x1, x2), (x3, x4)), e0)) : e0 ≠ 0 ∧ x1 = 0 ∧ x2 = 0 ∧ x3 = 0 ∧ x4 = 0 := by
  rcases holl_cases hx with h1 | ⟨h1, h2⟩
  · exact h1
  · rcases h with h | h
    · exact absurd (checkM_ok.2 h2.ok) h
    · exact absurd h2.plan h
/-- What lies in memory: the mould, the plan, the hollow. -/
structure LgA (w : World) (m : Md) (B : Option Addr) (l : List Int) (K : Nat) (x1 x2 x3 x4 : Int) (W : World) : Prop where
  bm : MdBk w w.heap.size 25 m W
  l : IntsIn W B l
  k : Blk W K 45 #[.int .i64 x1, .int .i64 x2, .int .i64 x3, .int .i64 x4]
theorem LgA.on {w W W' : World} {m : Md} {B : Option Addr} {K : Nat} {l : List Int} {x1 x2 x3 x4 : Int} (h : LgA w m B l K x1 x2 x3 x4 W) (hb : Below W.heap.size W W') : LgA w m B l K x1 x2 x3 x4 W' := ⟨h.bm.on hb, h.l.on hb, h.k.on hb⟩
set_option maxRecDepth 100000 in
set_option maxHeartbeats 8000000 in
theorem lends_any (m : Md) {w : World} {B : Option Addr} {d : Nat} {l : List Int} (hl : IntsIn w B l) :
    Calls Try.prog 10 #[.agg #[.int .i64 m.rings, .int .i64 m.give, .int .i64 m.plo, .int .i64 m.phi, .int .i64 m.wlo, .int .i64 m.whi, .int .i64 m.st, .int .i64 m.shrink, .int .i64 m.skin, .int .i64 m.fill, .int .i64 m.gap, .int .i64 m.deep], .slice B l.length d] w fun e w' => e = .returned (.bool true) ∧ Below w.heap.size w w' := by
  have HM := Lib.hid (MdBk.new w 25 m)
  have HL := Lib.hid (hl.on HM.out.b)
  obtain ⟨x1, x2, x3, x4, e0, hx⟩ : ∃ x1 x2 x3 x4 e0, hollR m l = (((x1, x2), (x3, x4)), e0) := ⟨_, _, _, _, _, rfl⟩
  obtain ⟨nl, hnl⟩ : ∃ nl : Nat, l.length = nl := ⟨_, rfl⟩
  have HH := Lib.hid (hollow_law hnl hx)
  have HC := Lib.hid (fun W => rcheck_any m W)
  rw [hnl]
  by_cases hbad : checkM m ≠ 0 ∨ planE m l ≠ 0
  · obtain ⟨hf0, rfl, rfl, rfl, rfl⟩ := holl_bad hbad hx
    have hz : (e0 != 0) = true := by simpa using hf0
    have e2 : ∀ W, (binOp .eql 45 (.agg #[.int .i64 0, .int .i64 0, .int .i64 0, .int .i64 0]) (.agg #[.int .i64 0, .int .i64 0, .int .i64 0, .int .i64 0])).run Try.prog W = .ok (.bool true) W := fun _ => by kernel_rfl
    have HPl := Lib.hid (plan_law (m := m) hnl rfl)
    by_cases hck : checkM m = 0
    · have hpz : (planE m l != 0) = true := by simpa using hbad.resolve_left (fun h => h hck)
      rw [hck] at HC
      generalize planE m l = pe at *
      clear hf0 hx hl hnl hbad
      go_enter Try.func10, Try.ntmps10
      obtain ⟨z0, z1, z2, z3, z4, z5, z6, z7, z8, z9, z10, z11⟩ := HM.out.cells
      go_wp2_with (first
        | (go_at_call 31; (with_reducible refine (HH.out _ _ _ HL.out).mono ?_); rintro e w1 ⟨rfl, hb1⟩; have HB2 := Lib.hid ((Below.refl _ w1).alloc (Nat.le_refl _) (.cells #[.int .i64 0, .int .i64 0, .int .i64 0, .int .i64 0] 45)); have H1 : Hid (LgA w m B l w1.heap.size 0 0 0 0 (w1.alloc (.cells #[.int .i64 0, .int .i64 0, .int .i64 0, .int .i64 0] 45))) := ⟨(HM.out.on hb1).on HB2.out, (HL.out.on hb1).on HB2.out, Blk.new w1 _ _⟩; clear z0 z1 z2 z3 z4 z5 z6 z7 z8 z9 z10 z11; obtain ⟨z0, z1, z2, z3, z4, z5, z6, z7, z8, z9, z10, z11⟩ := H1.out.bm.cells; clear hb1)
        | (go_at_call 19; (with_reducible refine (HC.out _).mono ?_); rintro e w3 ⟨rfl, hb3⟩; have H3 := Lib.hid (H1.out.on hb3); clear z0 z1 z2 z3 z4 z5 z6 z7 z8 z9 z10 z11; obtain ⟨z0, z1, z2, z3, z4, z5, z6, z7, z8, z9, z10, z11⟩ := H3.out.bm.cells; clear hb3)
        | (go_at_call 43; (with_reducible refine (HPl.out _ _ _ H3.out.l).mono ?_); rintro e w5 ⟨rfl, hb5⟩; have H5 := Lib.hid (H3.out.on hb5); clear z0 z1 z2 z3 z4 z5 z6 z7 z8 z9 z10 z11; have d0 := H5.out.k.cell 0; have d1 := H5.out.k.cell 1; have d2 := H5.out.k.cell 2; have d3 := H5.out.k.cell 3; have hl5 := H5.out.k.lt; clear hb5)
        | (go_at_call 26; refine (awake_any _).mono ?_; rintro e wA ⟨rfl, hb⟩; have HA := Lib.hid (H5.out.on hb); clear hb)
        | fail)
      go_ret
      exact ⟨rfl, HA.out.bm.b⟩
    · have hcz : (checkM m != 0) = true := by simpa using hck
      generalize checkM m = ce at *
      clear hf0 hx hl hnl hbad
      go_enter Try.func10, Try.ntmps10
      obtain ⟨z0, z1, z2, z3, z4, z5, z6, z7, z8, z9, z10, z11⟩ := HM.out.cells
      go_wp2_with (first
        | (go_at_call 31; (with_reducible refine (HH.out _ _ _ HL.out).mono ?_); rintro e w1 ⟨rfl, hb1⟩; have HB2 := Lib.hid ((Below.refl _ w1).alloc (Nat.le_refl _) (.cells #[.int .i64 0, .int .i64 0, .int .i64 0, .int .i64 0] 45)); have H1 : Hid (LgA w m B l w1.heap.size 0 0 0 0 (w1.alloc (.cells #[.int .i64 0, .int .i64 0, .int .i64 0, .int .i64 0] 45))) := ⟨(HM.out.on hb1).on HB2.out, (HL.out.on hb1).on HB2.out, Blk.new w1 _ _⟩; clear z0 z1 z2 z3 z4 z5 z6 z7 z8 z9 z10 z11; obtain ⟨z0, z1, z2, z3, z4, z5, z6, z7, z8, z9, z10, z11⟩ := H1.out.bm.cells; clear hb1)
        | (go_at_call 19; (with_reducible refine (HC.out _).mono ?_); rintro e w5 ⟨rfl, hb5⟩; have H5 := Lib.hid (H1.out.on hb5); clear z0 z1 z2 z3 z4 z5 z6 z7 z8 z9 z10 z11; have d0 := H5.out.k.cell 0; have d1 := H5.out.k.cell 1; have d2 := H5.out.k.cell 2; have d3 := H5.out.k.cell 3; have hl5 := H5.out.k.lt; clear hb5)
        | (go_at_call 26; refine (awake_any _).mono ?_; rintro e wA ⟨rfl, hb⟩; have HA := Lib.hid (H5.out.on hb); clear hb)
        | fail)
      go_ret
      exact ⟨rfl, HA.out.bm.b⟩
  · have hck : checkM m = 0 := Classical.byContradiction fun h => hbad (.inl h)
    have hpl : planE m l = 0 := Classical.byContradiction fun h => hbad (.inr h)
    have hok := checkM_ok.1 hck
    obtain ⟨a, ha⟩ : ∃ a, wh m false = a := ⟨_, rfl⟩
    obtain ⟨b, hb⟩ : ∃ b, wh m true = b := ⟨_, rfl⟩
    have H3W := Lib.hid (holl_three ha hb hck hpl hx)
    obtain ⟨N2, hN2⟩ : ∃ N2 : Nat, N2 = 600 := ⟨_, rfl⟩
    have hla : a.length = kR m := by rw [← ha]; exact wh_length m false
    have hlb : b.length = kR m := by rw [← hb]; exact wh_length m true
    have HS0 := Lib.hid (fun W => same_n hok false hN2 W)
    have HS1 := Lib.hid (fun W => same_n hok true hN2 W)
    have HW := Lib.hid (fun (e : Bool) (W : World) (A1 A2 : Option Addr) (d1 d2 : Nat) (h1 : IntsIn W A1 (samP m e)) (h2 : IntsIn W A2 (samW m e N2)) => when_same (c1 := d1) (c2 := d2) hok e (by omega) h1 h2)
    have HE0 : Hid (whN m false N2 = a) := by show whN m false N2 = a; rw [hN2]; exact ha
    have HE1 : Hid (whN m true N2 = b) := by show whN m true N2 = b; rw [hN2]; exact hb
    have HEa := Lib.hid (end_law hok.toMdIn hla hpl rfl hnl)
    have HEb := Lib.hid (end_law hok.toMdIn hlb hpl rfl hnl)
    have HPl := Lib.hid (plan_law (m := m) hnl hpl)
    have HPo := Lib.hid (fun (q : Bool) (hq : pours m a l = q) => pours_law (m := m) hla rfl hnl hq)
    have HR : Hid (m.rings = ((kR m : Nat) : Int)) := (kR_eq hok.toMdIn).symm
    have hk8 : kR m ≤ 8 := (kR_le hok.toMdIn).2
    have HLB := Lib.hid hlb
    rw [hck] at HC
    clear hck hpl hok ha hb hN2 hla hlb hx hl hnl hbad
    go_enter Try.func10, Try.ntmps10
    obtain ⟨z0, z1, z2, z3, z4, z5, z6, z7, z8, z9, z10, z11⟩ := HM.out.cells
    go_wp2_with (first
      | (go_at_call 31; (with_reducible refine (HH.out _ _ _ HL.out).mono ?_); rintro e w1 ⟨rfl, hb1⟩; have HB2 := Lib.hid ((Below.refl _ w1).alloc (Nat.le_refl _) (.cells #[.int .i64 x1, .int .i64 x2, .int .i64 x3, .int .i64 x4] 45)); have H1 : Hid (LgA w m B l w1.heap.size x1 x2 x3 x4 (w1.alloc (.cells #[.int .i64 x1, .int .i64 x2, .int .i64 x3, .int .i64 x4] 45))) := ⟨(HM.out.on hb1).on HB2.out, (HL.out.on hb1).on HB2.out, Blk.new w1 _ _⟩; clear z0 z1 z2 z3 z4 z5 z6 z7 z8 z9 z10 z11; obtain ⟨z0, z1, z2, z3, z4, z5, z6, z7, z8, z9, z10, z11⟩ := H1.out.bm.cells; clear hb1)
      | (go_at_call 19; (with_reducible refine (HC.out _).mono ?_); rintro e w3 ⟨rfl, hb3⟩; have H3 := Lib.hid (H1.out.on hb3); clear z0 z1 z2 z3 z4 z5 z6 z7 z8 z9 z10 z11; obtain ⟨z0, z1, z2, z3, z4, z5, z6, z7, z8, z9, z10, z11⟩ := H3.out.bm.cells; clear hb3)
      | (go_at_call 43; (with_reducible refine (HPl.out _ _ _ H3.out.l).mono ?_); rintro e w5 ⟨rfl, hb5⟩; have H5 := Lib.hid (H3.out.on hb5); clear z0 z1 z2 z3 z4 z5 z6 z7 z8 z9 z10 z11; clear hb5)
      | fail)
    refine wp_of_eq (le4b_region (S := LgA w m B l w1.heap.size x1 x2 x3 x4) (fun W W' h hb => h.on hb) (fun W h => h.bm) HW HS0 HS1 H5 (Lib.hid fun u8 Af ca Al cb W8 i8 j8 h8 => ?_)) (by kernel_rfl)
    rw [HE0.out] at i8
    rw [HE1.out] at j8
    have H8 : Hid (LgA w m B l w1.heap.size x1 x2 x3 x4 W8 ∧ IntsIn W8 Af a ∧ IntsIn W8 Al b) := ⟨h8, i8, j8⟩
    clear h8 i8 j8 H5 HW HS0 HS1
    go_wp2_with fail
    go_loopw [9, 10] (fun v i W => ∃ (k : Nat) (nv : Bool), k ≤ kR m ∧ i = .int .i64 k ∧ v = .bool nv ∧ Hid (nv = never (b.take k)) ∧ Hid (LgA w m B l w1.heap.size x1 x2 x3 x4 W ∧ IntsIn W Af a ∧ IntsIn W Al b)) (fun _ i _ => kR m - (intOf i).toNat)
    case atStart => exact ⟨0, false, Nat.zero_le _, rfl, rfl, rfl, H8⟩
    case round =>
      obtain ⟨k, nv, hk, rfl, rfl, HV, HS⟩ := hrel
      clear H8
      by_cases hlt : k < kR m
      · have c0 := HS.out.1.bm.bk.cell 0
        rw [show m.rings = ((kR m : Nat) : Int) from HR.out] at c0
        have hlt' : (k : Int) < kR m := by omega
        obtain ⟨q, hq1⟩ : ∃ y, b[k]? = some y := ⟨b[k]'(by rw [HLB.out]; exact hlt), List.getElem?_eq_getElem _⟩
        obtain ⟨b5, o5, rfl, _, d5⟩ := ints_at HS.out.2.2.at_ hq1
        have HV1 := Lib.hid (never_step hq1)
        clear hq1
        have HN : Hid ((nv || decide (q < 0)) = never (b.take (k + 1))) := by show _ = _; rw [HV1.out, ← HV.out]
        clear HV1 HV
        rcases nv with _ | _
        · by_cases hq : q < 0
          · go_wp2_with fail
            go_roundw
            case rel => exact ⟨k + 1, true, Nat.succ_le_of_lt hlt, by go_num, rfl, by show _ = _; rw [← HN.out]; simp [hq], HS⟩
            case measure => exact meas_one hlt
          · go_wp2_with fail
            go_roundw
            case rel => exact ⟨k + 1, false, Nat.succ_le_of_lt hlt, by go_num, rfl, by show _ = _; rw [← HN.out]; simp [hq], HS⟩
            case measure => exact meas_one hlt
        · go_wp2_with fail
          go_roundw
          case rel => exact ⟨k + 1, true, Nat.succ_le_of_lt hlt, by go_num, rfl, by show _ = _; rw [← HN.out]; simp, HS⟩
          case measure => exact meas_one hlt
      · obtain rfl : k = kR m := by omega
        have hn2 : ¬ ((kR m : Int) < m.rings) := by rw [HR.out]; omega
        have hv : nv = never b := by rw [HV.out, List.take_of_length_le (by rw [HLB.out]; exact Nat.le_refl _)]
        clear HV
        obtain ⟨z0, z1, z2, z3, z4, z5, z6, z7, z8, z9, z10, z11⟩ := HS.out.1.bm.cells
        rcases H3W.out with ⟨rfl, hn⟩ | ⟨rfl, hn, hp⟩ | ⟨rfl, hn, hp, rfl, rfl⟩
        · rw [hn] at hv
          subst hv
          clear hn H3W
          go_wp2_with (first
            | (go_at_call 26; refine (awake_any _).mono ?_; rintro e wA ⟨rfl, hb⟩; have HA := Lib.hid (HS.out.1.on hb); clear hb)
            | fail)
          go_ret
          exact ⟨rfl, HA.out.bm.b⟩
        · rw [hn] at hv
          subst hv
          have HP1 := Lib.hid (HPo.out false hp)
          clear hn hp H3W
          go_wp2_with (first
            | (go_at_call 46; (with_reducible refine (HP1.out _ _ _ _ _ HS.out.2.1 HS.out.1.l).mono ?_); rintro e w9 ⟨rfl, hb9⟩; have H9 := Lib.hid (HS.out.1.on hb9); clear hb9; clear z0 z1 z2 z3 z4 z5 z6 z7 z8 z9 z10 z11)
            | (go_at_call 26; refine (awake_any _).mono ?_; rintro e wA ⟨rfl, hb⟩; have HA := Lib.hid (H9.out.on hb); clear hb)
            | fail)
          go_ret
          exact ⟨rfl, HA.out.bm.b⟩
        · rw [hn] at hv
          subst hv
          have HP1 := Lib.hid (HPo.out true hp)
          clear hn hp H3W
          generalize hollM m a l = x1 at *
          generalize hollM m b l = x2 at *
          go_wp2_with (first
            | (go_at_call 44; (with_reducible refine (HEa.out _ _ _ _ _ HS.out.2.1 HS.out.1.l).mono ?_); rintro e w9 ⟨rfl, hb9⟩; have H9 : Hid (LgA w m B l w1.heap.size x1 x2 x3 x4 w9 ∧ IntsIn w9 Af a ∧ IntsIn w9 Al b) := ⟨HS.out.1.on hb9, HS.out.2.1.on hb9, HS.out.2.2.on hb9⟩; clear hb9; clear z0 z1 z2 z3 z4 z5 z6 z7 z8 z9 z10 z11; obtain ⟨z0, z1, z2, z3, z4, z5, z6, z7, z8, z9, z10, z11⟩ := H9.out.1.bm.cells)
            | (go_at_call 44; (with_reducible refine (HEb.out _ _ _ _ _ H9.out.2.2 H9.out.1.l).mono ?_); rintro e wB ⟨rfl, hb9⟩; have HB : Hid (LgA w m B l w1.heap.size x1 x2 x3 x4 wB ∧ IntsIn wB Af a ∧ IntsIn wB Al b) := ⟨H9.out.1.on hb9, H9.out.2.1.on hb9, H9.out.2.2.on hb9⟩; clear hb9; clear z0 z1 z2 z3 z4 z5 z6 z7 z8 z9 z10 z11)
            | fail)
          refine wp_of_eq (le14_region (S := fun W => LgA w m B l w1.heap.size x1 x2 x3 x4 W ∧ IntsIn W Af a ∧ IntsIn W Al b) (fun W W' h hb => ⟨h.1.on hb, h.2.1.on hb, h.2.2.on hb⟩) (fun W h => h.1.bm) (fun W h => h.2.1) (fun W h => h.1.l) (fun W h => h.1.k) HP1 HB (Lib.hid fun u14 W14 h14 => ?_)) (by kernel_rfl)
          have H14 := Lib.hid h14
          clear h14
          go_wp2_with fail
          go_ret
          exact ⟨rfl, H14.out.1.bm.b⟩
end Go.Proofs.Ytljbjcnfkbmjkaa
