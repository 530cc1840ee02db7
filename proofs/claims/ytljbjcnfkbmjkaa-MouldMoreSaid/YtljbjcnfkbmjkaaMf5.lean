/- MouldFewest: the law. -/
import Derived.Test.YtljbjcnfkbmjkaaMeH
import Derived.Test.YtljbjcnfkbmjkaaMfg
import Derived.Test.YtljbjcnfkbmjkaaGa
namespace Go.Proofs.Ytljbjcnfkbmjkaa
open Go.RowKit Go.Shelf Go.Maps
attribute [local go_sem] Oper.semAt_some

/-- A plan that can be poured: what Hollow returns. -/
structure HolOk (m : Md) (l : List Int) (x1 x2 x3 x4 : Int) : Prop where
  ok : MdOk m
  plan : planE m l = 0
  nev : never (wh m true) = false
  pours : pours m (wh m false) l = true
  e1 : x1 = hollM m (wh m false) l
  e2 : x2 = hollM m (wh m true) l
  e3 : x3 = pourM m (wh m true) l
  e4 : x4 = pourM m (wh m false) l
theorem holl_cases {m : Md} {l : List Int} {x1 x2 x3 x4 f : Int} (h : hollR m l = (((x1, x2), (x3, x4)), f)) : (f ≠ 0 ∧ x1 = 0 ∧ x2 = 0 ∧ x3 = 0 ∧ x4 = 0) ∨ (f = 0 ∧ HolOk m l x1 x2 x3 x4) := by
  unfold hollR at h
  by_cases h1 : checkM m ≠ 0
  · rw [if_pos h1] at h
    cases h
    exact .inl ⟨h1, rfl, rfl, rfl, rfl⟩
  · rw [if_neg h1] at h
    by_cases h2 : planE m l ≠ 0
    · rw [if_pos h2] at h
      cases h
      exact .inl ⟨h2, rfl, rfl, rfl, rfl⟩
    · rw [if_neg h2] at h
      have hb : ∃ b, wh m true = b := ⟨_, rfl⟩
      have ha : ∃ a, wh m false = a := ⟨_, rfl⟩
      obtain ⟨b, hb⟩ := hb
      obtain ⟨a, ha⟩ := ha
      by_cases h3 : never b = true
      · rw [hb, if_pos h3] at h
        cases h
        exact .inl ⟨by decide, rfl, rfl, rfl, rfl⟩
      · rw [hb, if_neg h3, ha] at h
        by_cases h4 : pours m a l = true
        · rw [if_pos h4] at h
          cases h
          exact .inr ⟨rfl, checkM_ok.1 (by simpa using h1), by simpa using h2, by rw [hb]; simpa using h3, by rw [ha]; exact h4, by rw [ha], by rw [hb], by rw [hb], by rw [ha]⟩
        · rw [if_neg h4] at h
          cases h
          exact .inl ⟨by decide, rfl, rfl, rfl, rfl⟩
theorem HolOk.best {m : Md} {l : List Int} {x1 x2 x3 x4 : Int} (h : HolOk m l x1 x2 x3 x4) (hd : x2 ≤ m.deep) : Best m l := by
  obtain ⟨h1, h2, h3⟩ := planE_ok.1 h.plan
  exact ⟨h1, h2, h3, h.pours, by rw [← h.e2]; exact hd⟩
theorem few_e {m : Md} (h : checkM m = 0) {bl : List Int} {be : Int} (hf : fewR m = (bl, be)) : be = 0 ∨ be = 9 := by
  have hok := checkM_ok.1 h
  obtain ⟨b, hb⟩ : ∃ b, wh m true = b := ⟨_, rfl⟩
  cases hn : never b with
  | true =>
    rw [fewR_never h hb hn] at hf
    cases hf
    exact .inr rfl
  | false =>
    rw [← hb] at hn
    rcases few_cases hok hn with ⟨j, _, h2, _⟩ | ⟨h2, _⟩
    · rw [h2] at hf
      cases hf
      exact .inl rfl
    · rw [h2] at hf
      cases hf
      exact .inr rfl
theorem few_than {m : Md} {l bl : List Int} {be x1 x2 x3 x4 : Int} (hf : fewR m = (bl, be)) (h : HolOk m l x1 x2 x3 x4) (hd : x2 ≤ m.deep) :
    be = 0 ∧ bl.length ≤ l.length ∧ (bl.length = l.length → ∀ (k : Nat) (x y : Int), l.length = k + 1 → bl[k]? = some x → l[k]? = some y → y ≤ x) := by
  obtain ⟨j, h1, h2, h3⟩ := few_best h.ok h.nev (h.best hd)
  generalize lastAt m (wh m false) 601 = L at *
  rw [h2] at hf
  cases hf
  rw [lateL_length]
  refine ⟨rfl, h1, fun hj k x y hk hx hy => ?_⟩
  have h4 := lateL_get m.gap j L k x hx
  have h5 := h3 hj (by omega) y (by rw [hj, hk]; exact hy)
  rw [show (j : Int) - 1 - k = 0 by omega, Int.zero_mul] at h4
  omega
set_option maxRecDepth 100000 in
set_option maxHeartbeats 8000000 in
theorem lfew_any {w : World} (m : Md) {A : Option Addr} {c : Nat} {l : List Int} (hi : IntsIn w A l) :
    Calls Try.prog 12 #[.agg #[.int .i64 m.rings, .int .i64 m.give, .int .i64 m.plo, .int .i64 m.phi, .int .i64 m.wlo, .int .i64 m.whi, .int .i64 m.st, .int .i64 m.shrink, .int .i64 m.skin, .int .i64 m.fill, .int .i64 m.gap, .int .i64 m.deep], .slice A l.length c] w fun e w' => e = .returned (.bool true) ∧ Below w.heap.size w w' := by
  have HM := Lib.hid (MdBk.new w 25 m)
  have HI := Lib.hid hi
  obtain ⟨bl, be, hf⟩ : ∃ bl be, fewR m = (bl, be) := ⟨_, _, rfl⟩
  obtain ⟨x1, x2, x3, x4, f, hx⟩ : ∃ x1 x2 x3 x4 f, hollR m l = (((x1, x2), (x3, x4)), f) := ⟨_, _, _, _, _, rfl⟩
  have HF : Hid (∀ W : World, Calls Try.prog 33 #[.agg #[.int .i64 m.rings, .int .i64 m.give, .int .i64 m.plo, .int .i64 m.phi, .int .i64 m.wlo, .int .i64 m.whi, .int .i64 m.st, .int .i64 m.shrink, .int .i64 m.skin, .int .i64 m.fill, .int .i64 m.gap, .int .i64 m.deep]] W fun e w' => ∃ A1 c1, e = .returned (.tuple #[.slice A1 bl.length c1, .int .i64 be]) ∧ IntsIn w' A1 bl ∧ Below W.heap.size W w') := fun W => by
    refine (fewest_any m W).mono ?_
    rw [hf]
    rintro e w' ⟨v, rfl, hv, hb⟩
    obtain ⟨A1, c1, rfl, h1⟩ := hv.in_
    exact ⟨A1, c1, rfl, h1, hb⟩
  have HH : Hid (∀ W : World, IntsIn W A l → Calls Try.prog 31 #[.agg #[.int .i64 m.rings, .int .i64 m.give, .int .i64 m.plo, .int .i64 m.phi, .int .i64 m.wlo, .int .i64 m.whi, .int .i64 m.st, .int .i64 m.shrink, .int .i64 m.skin, .int .i64 m.fill, .int .i64 m.gap, .int .i64 m.deep], .slice A l.length c] W fun e w' => e = .returned (.tuple #[.agg #[.int .i64 x1, .int .i64 x2, .int .i64 x3, .int .i64 x4], .int .i64 f]) ∧ Below W.heap.size W w') := fun W hi => by
    refine (hollow_any (c := c) m hi).mono ?_
    rw [hx]
    exact fun _ _ h => h
  have HC := Lib.hid (fun W => rcheck_any m W)
  have hlen := hi.len
  clear hi
  by_cases hck : checkM m = 0
  · rw [hck] at HC
    rcases holl_cases hx with ⟨hf0, rfl, rfl, rfl, rfl⟩ | ⟨rfl, hok⟩
    · have hbe := few_e hck hf
      have hz : (f != 0) = true := by simpa using hf0
      have hz2 : (f == 0) = false := by simpa using hf0
      have e2 : ∀ W, (binOp .eql 45 (.agg #[.int .i64 0, .int .i64 0, .int .i64 0, .int .i64 0]) (.agg #[.int .i64 0, .int .i64 0, .int .i64 0, .int .i64 0])).run Try.prog W = .ok (.bool true) W := fun _ => by kernel_rfl
      clear hf hx
      rcases hbe with rfl | rfl
      · go_enter Try.func12, Try.ntmps12
        obtain ⟨c0, c1, c2, c3, c4, c5, c6, c7, c8, c9, c10, c11⟩ := HM.out.cells
        go_wp2_with (first
          | (go_at_call 33; (with_reducible refine (HF.out _).mono ?_); rintro e w1 ⟨A1, c1', rfl, hq1, hb1⟩; have HM1 := Lib.hid (HM.out.on hb1); have HQ1 := Lib.hid hq1; clear c0 c1 c2 c3 c4 c5 c6 c7 c8 c9 c10 c11; obtain ⟨c0, c1, c2, c3, c4, c5, c6, c7, c8, c9, c10, c11⟩ := HM1.out.cells; clear hb1 hq1)
          | (go_at_call 31; (with_reducible refine (HH.out _ (HI.out.on HM1.out.b)).mono ?_); rintro e w2 ⟨rfl, hb2⟩; have HM2 := Lib.hid (HM1.out.on hb2); have HQ2 := Lib.hid (HQ1.out.on hb2); have hv2 := HM2.out.bk.lt; clear c0 c1 c2 c3 c4 c5 c6 c7 c8 c9 c10 c11; obtain ⟨c0, c1, c2, c3, c4, c5, c6, c7, c8, c9, c10, c11⟩ := HM2.out.cells; clear hb2)
          | (go_at_call 19; (with_reducible refine (HC.out _).mono ?_); rintro e w3 ⟨rfl, hb3⟩; have HB2 := Lib.hid ((Below.refl _ w2).alloc (Nat.le_refl _) (.cells #[.int .i64 0, .int .i64 0, .int .i64 0, .int .i64 0] 45)); have HL3 : Hid (LfB w m w2.heap.size 0 0 0 0 A1 bl A l w3) := ⟨(HM2.out.on HB2.out).on hb3, (Blk.new w2 _ _).on hb3, (HQ2.out.on HB2.out).on hb3, HI.out.on ((HM2.out.on HB2.out).on hb3).b⟩; clear c0 c1 c2 c3 c4 c5 c6 c7 c8 c9 c10 c11; have c11 := HL3.out.bm.bk.cell 11; have d0 := HL3.out.bk.cell 0; have d1 := HL3.out.bk.cell 1; have d2 := HL3.out.bk.cell 2; have d3 := HL3.out.bk.cell 3; have hl3 := HL3.out.bm.bk.lt; have hk3 := HL3.out.bk.lt; clear hb3)
          | (go_at_call 26; refine (awake_any _).mono ?_; rintro e w4 ⟨rfl, hb4⟩; have HB4 := Lib.hid (HL3.out.bm.b.trans (hb4.mono HL3.out.bm.b.size)); clear hb4)
          | fail)
        go_ret
        exact ⟨rfl, HB4.out⟩
      · go_enter Try.func12, Try.ntmps12
        obtain ⟨c0, c1, c2, c3, c4, c5, c6, c7, c8, c9, c10, c11⟩ := HM.out.cells
        go_wp2_with (first
          | (go_at_call 33; (with_reducible refine (HF.out _).mono ?_); rintro e w1 ⟨A1, c1', rfl, hq1, hb1⟩; have HM1 := Lib.hid (HM.out.on hb1); have HQ1 := Lib.hid hq1; clear c0 c1 c2 c3 c4 c5 c6 c7 c8 c9 c10 c11; obtain ⟨c0, c1, c2, c3, c4, c5, c6, c7, c8, c9, c10, c11⟩ := HM1.out.cells; clear hb1 hq1)
          | (go_at_call 31; (with_reducible refine (HH.out _ (HI.out.on HM1.out.b)).mono ?_); rintro e w2 ⟨rfl, hb2⟩; have HM2 := Lib.hid (HM1.out.on hb2); have HQ2 := Lib.hid (HQ1.out.on hb2); have hv2 := HM2.out.bk.lt; clear c0 c1 c2 c3 c4 c5 c6 c7 c8 c9 c10 c11; obtain ⟨c0, c1, c2, c3, c4, c5, c6, c7, c8, c9, c10, c11⟩ := HM2.out.cells; clear hb2)
          | (go_at_call 19; (with_reducible refine (HC.out _).mono ?_); rintro e w3 ⟨rfl, hb3⟩; have HB2 := Lib.hid ((Below.refl _ w2).alloc (Nat.le_refl _) (.cells #[.int .i64 0, .int .i64 0, .int .i64 0, .int .i64 0] 45)); have HL3 : Hid (LfB w m w2.heap.size 0 0 0 0 A1 bl A l w3) := ⟨(HM2.out.on HB2.out).on hb3, (Blk.new w2 _ _).on hb3, (HQ2.out.on HB2.out).on hb3, HI.out.on ((HM2.out.on HB2.out).on hb3).b⟩; clear c0 c1 c2 c3 c4 c5 c6 c7 c8 c9 c10 c11; have c11 := HL3.out.bm.bk.cell 11; have d0 := HL3.out.bk.cell 0; have d1 := HL3.out.bk.cell 1; have d2 := HL3.out.bk.cell 2; have d3 := HL3.out.bk.cell 3; have hl3 := HL3.out.bm.bk.lt; have hk3 := HL3.out.bk.lt; clear hb3)
          | (go_at_call 26; refine (awake_any _).mono ?_; rintro e w4 ⟨rfl, hb4⟩; have HB4 := Lib.hid (HL3.out.bm.b.trans (hb4.mono HL3.out.bm.b.size)); clear hb4)
          | fail)
        go_ret
        exact ⟨rfl, HB4.out⟩
    · by_cases hd : m.deep < x2
      · have hbe := few_e hck hf
        clear hf hx hok
        rcases hbe with rfl | rfl
        · go_enter Try.func12, Try.ntmps12
          obtain ⟨c0, c1, c2, c3, c4, c5, c6, c7, c8, c9, c10, c11⟩ := HM.out.cells
          go_wp2_with (first
            | (go_at_call 33; (with_reducible refine (HF.out _).mono ?_); rintro e w1 ⟨A1, c1', rfl, hq1, hb1⟩; have HM1 := Lib.hid (HM.out.on hb1); have HQ1 := Lib.hid hq1; clear c0 c1 c2 c3 c4 c5 c6 c7 c8 c9 c10 c11; obtain ⟨c0, c1, c2, c3, c4, c5, c6, c7, c8, c9, c10, c11⟩ := HM1.out.cells; clear hb1 hq1)
            | (go_at_call 31; (with_reducible refine (HH.out _ (HI.out.on HM1.out.b)).mono ?_); rintro e w2 ⟨rfl, hb2⟩; have HM2 := Lib.hid (HM1.out.on hb2); have HQ2 := Lib.hid (HQ1.out.on hb2); have hv2 := HM2.out.bk.lt; clear c0 c1 c2 c3 c4 c5 c6 c7 c8 c9 c10 c11; obtain ⟨c0, c1, c2, c3, c4, c5, c6, c7, c8, c9, c10, c11⟩ := HM2.out.cells; clear hb2)
            | (go_at_call 19; (with_reducible refine (HC.out _).mono ?_); rintro e w3 ⟨rfl, hb3⟩; have HB2 := Lib.hid ((Below.refl _ w2).alloc (Nat.le_refl _) (.cells #[.int .i64 x1, .int .i64 x2, .int .i64 x3, .int .i64 x4] 45)); have HL3 : Hid (LfB w m w2.heap.size x1 x2 x3 x4 A1 bl A l w3) := ⟨(HM2.out.on HB2.out).on hb3, (Blk.new w2 _ _).on hb3, (HQ2.out.on HB2.out).on hb3, HI.out.on ((HM2.out.on HB2.out).on hb3).b⟩; clear c0 c1 c2 c3 c4 c5 c6 c7 c8 c9 c10 c11; have c11 := HL3.out.bm.bk.cell 11; have d0 := HL3.out.bk.cell 0; have d1 := HL3.out.bk.cell 1; have d2 := HL3.out.bk.cell 2; have d3 := HL3.out.bk.cell 3; have hl3 := HL3.out.bm.bk.lt; have hk3 := HL3.out.bk.lt; clear hb3)
            | (go_at_call 26; refine (awake_any _).mono ?_; rintro e w4 ⟨rfl, hb4⟩; have HB4 := Lib.hid (HL3.out.bm.b.trans (hb4.mono HL3.out.bm.b.size)); clear hb4)
            | fail)
          go_ret
          exact ⟨rfl, HB4.out⟩
        · go_enter Try.func12, Try.ntmps12
          obtain ⟨c0, c1, c2, c3, c4, c5, c6, c7, c8, c9, c10, c11⟩ := HM.out.cells
          go_wp2_with (first
            | (go_at_call 33; (with_reducible refine (HF.out _).mono ?_); rintro e w1 ⟨A1, c1', rfl, hq1, hb1⟩; have HM1 := Lib.hid (HM.out.on hb1); have HQ1 := Lib.hid hq1; clear c0 c1 c2 c3 c4 c5 c6 c7 c8 c9 c10 c11; obtain ⟨c0, c1, c2, c3, c4, c5, c6, c7, c8, c9, c10, c11⟩ := HM1.out.cells; clear hb1 hq1)
            | (go_at_call 31; (with_reducible refine (HH.out _ (HI.out.on HM1.out.b)).mono ?_); rintro e w2 ⟨rfl, hb2⟩; have HM2 := Lib.hid (HM1.out.on hb2); have HQ2 := Lib.hid (HQ1.out.on hb2); have hv2 := HM2.out.bk.lt; clear c0 c1 c2 c3 c4 c5 c6 c7 c8 c9 c10 c11; obtain ⟨c0, c1, c2, c3, c4, c5, c6, c7, c8, c9, c10, c11⟩ := HM2.out.cells; clear hb2)
            | (go_at_call 19; (with_reducible refine (HC.out _).mono ?_); rintro e w3 ⟨rfl, hb3⟩; have HB2 := Lib.hid ((Below.refl _ w2).alloc (Nat.le_refl _) (.cells #[.int .i64 x1, .int .i64 x2, .int .i64 x3, .int .i64 x4] 45)); have HL3 : Hid (LfB w m w2.heap.size x1 x2 x3 x4 A1 bl A l w3) := ⟨(HM2.out.on HB2.out).on hb3, (Blk.new w2 _ _).on hb3, (HQ2.out.on HB2.out).on hb3, HI.out.on ((HM2.out.on HB2.out).on hb3).b⟩; clear c0 c1 c2 c3 c4 c5 c6 c7 c8 c9 c10 c11; have c11 := HL3.out.bm.bk.cell 11; have d0 := HL3.out.bk.cell 0; have d1 := HL3.out.bk.cell 1; have d2 := HL3.out.bk.cell 2; have d3 := HL3.out.bk.cell 3; have hl3 := HL3.out.bm.bk.lt; have hk3 := HL3.out.bk.lt; clear hb3)
            | (go_at_call 26; refine (awake_any _).mono ?_; rintro e w4 ⟨rfl, hb4⟩; have HB4 := Lib.hid (HL3.out.bm.b.trans (hb4.mono HL3.out.bm.b.size)); clear hb4)
            | fail)
          go_ret
          exact ⟨rfl, HB4.out⟩
      · obtain ⟨rfl, hle, hlast⟩ := few_than hf hok (by omega)
        clear hf hx hok
        go_enter Try.func12, Try.ntmps12
        obtain ⟨c0, c1, c2, c3, c4, c5, c6, c7, c8, c9, c10, c11⟩ := HM.out.cells
        go_wp2_with (first
          | (go_at_call 33; (with_reducible refine (HF.out _).mono ?_); rintro e w1 ⟨A1, c1', rfl, hq1, hb1⟩; have HM1 := Lib.hid (HM.out.on hb1); have HQ1 := Lib.hid hq1; clear c0 c1 c2 c3 c4 c5 c6 c7 c8 c9 c10 c11; obtain ⟨c0, c1, c2, c3, c4, c5, c6, c7, c8, c9, c10, c11⟩ := HM1.out.cells; clear hb1 hq1)
          | (go_at_call 31; (with_reducible refine (HH.out _ (HI.out.on HM1.out.b)).mono ?_); rintro e w2 ⟨rfl, hb2⟩; have HM2 := Lib.hid (HM1.out.on hb2); have HQ2 := Lib.hid (HQ1.out.on hb2); have hv2 := HM2.out.bk.lt; clear c0 c1 c2 c3 c4 c5 c6 c7 c8 c9 c10 c11; obtain ⟨c0, c1, c2, c3, c4, c5, c6, c7, c8, c9, c10, c11⟩ := HM2.out.cells; clear hb2)
          | (go_at_call 19; (with_reducible refine (HC.out _).mono ?_); rintro e w3 ⟨rfl, hb3⟩; have HB2 := Lib.hid ((Below.refl _ w2).alloc (Nat.le_refl _) (.cells #[.int .i64 x1, .int .i64 x2, .int .i64 x3, .int .i64 x4] 45)); have HL3 : Hid (LfB w m w2.heap.size x1 x2 x3 x4 A1 bl A l w3) := ⟨(HM2.out.on HB2.out).on hb3, (Blk.new w2 _ _).on hb3, (HQ2.out.on HB2.out).on hb3, HI.out.on ((HM2.out.on HB2.out).on hb3).b⟩; clear c0 c1 c2 c3 c4 c5 c6 c7 c8 c9 c10 c11; have c11 := HL3.out.bm.bk.cell 11; have d0 := HL3.out.bk.cell 0; have d1 := HL3.out.bk.cell 1; have d2 := HL3.out.bk.cell 2; have d3 := HL3.out.bk.cell 3; have hl3 := HL3.out.bm.bk.lt; have hk3 := HL3.out.bk.lt; clear hb3)
          | (go_at_call 26; refine (awake_any _).mono ?_; rintro e w4 ⟨rfl, hb4⟩; have HB4 := Lib.hid (HL3.out.bm.b.trans (hb4.mono HL3.out.bm.b.size)); clear hb4)
          | fail)
        have hbl0 : (bl.length : Int) ≤ l.length := by omega
        by_cases hlt : bl.length < l.length
        · have hlt' : (bl.length : Int) < l.length := by omega
          refine wp_of_eq (lf1_region HL3 hbl0 hlt' (fun u W e34 hL => ?_)) (by kernel_rfl)
          go_wp2_with fail
          go_ret
          exact ⟨by first | rfl | simp [e34], hL.bm.b⟩
        · have hnl : ¬ ((bl.length : Int) < l.length) := by omega
          have hel : bl.length = l.length := by omega
          by_cases hn0 : l.length = 0
          · have hn0' : ((l.length : Int) == 0) = true := by simp [hn0]
            refine wp_of_eq (lf2_region HL3 hbl0 hnl hn0' (fun u W e34 hL => ?_)) (by kernel_rfl)
            go_wp2_with fail
            go_ret
            exact ⟨by first | rfl | simp [e34], hL.bm.b⟩
          · have hn0' : ((l.length : Int) == 0) = false := by rw [beq_eq_false_iff_ne]; omega
            obtain ⟨k, hk⟩ : ∃ k, l.length = k + 1 := ⟨l.length - 1, by omega⟩
            obtain ⟨x, hx⟩ : ∃ x, bl[k]? = some x := ⟨bl[k]'(by rw [hel, hk]; exact Nat.lt_succ_self k), List.getElem?_eq_getElem _⟩
            obtain ⟨y, hy⟩ : ∃ y, l[k]? = some y := ⟨l[k]'(by rw [hk]; exact Nat.lt_succ_self k), List.getElem?_eq_getElem _⟩
            have hyx := hlast hel k x y hk hx hy
            obtain ⟨b1, o1, rfl, _, _⟩ := ints_at HL3.out.q.at_ hx
            obtain ⟨b2, o2, rfl, _, _⟩ := ints_at HL3.out.p.at_ hy
            refine wp_of_eq (lf3_region HL3 hbl0 hnl hn0' (k := k) (by rw [IntWalk.i64_in _ (by omega)]; omega) (by omega) (by omega) hx hy hyx (fun u W e34 hL => ?_)) (by kernel_rfl)
            go_wp2_with fail
            go_ret
            exact ⟨by first | rfl | simp [e34], hL.bm.b⟩
  · have e1 : be = checkM m := by
      rw [fewR_bad hck] at hf; cases hf; rfl
    have e2 : f = checkM m := by
      unfold hollR at hx
      rw [if_pos hck] at hx; cases hx; rfl
    obtain ⟨rfl, rfl, rfl, rfl⟩ : x1 = 0 ∧ x2 = 0 ∧ x3 = 0 ∧ x4 = 0 := by
      unfold hollR at hx
      rw [if_pos hck] at hx; cases hx; exact ⟨rfl, rfl, rfl, rfl⟩
    subst e1 e2
    have hz : (checkM m != 0) = true := by simpa using hck
    have hz2 : (checkM m == checkM m) = true := by simp
    generalize checkM m = z at *
    go_enter Try.func12, Try.ntmps12
    obtain ⟨c0, c1, c2, c3, c4, c5, c6, c7, c8, c9, c10, c11⟩ := HM.out.cells
    go_wp2_with (first
      | (go_at_call 33; (with_reducible refine (HF.out _).mono ?_); rintro e w1 ⟨A1, c1', rfl, hq1, hb1⟩; have HM1 := Lib.hid (HM.out.on hb1); have HQ1 := Lib.hid hq1; clear c0 c1 c2 c3 c4 c5 c6 c7 c8 c9 c10 c11; obtain ⟨c0, c1, c2, c3, c4, c5, c6, c7, c8, c9, c10, c11⟩ := HM1.out.cells; clear hb1 hq1)
      | (go_at_call 31; (with_reducible refine (HH.out _ (HI.out.on HM1.out.b)).mono ?_); rintro e w2 ⟨rfl, hb2⟩; have HM2 := Lib.hid (HM1.out.on hb2); have HQ2 := Lib.hid (HQ1.out.on hb2); have hv2 := HM2.out.bk.lt; clear c0 c1 c2 c3 c4 c5 c6 c7 c8 c9 c10 c11; obtain ⟨c0, c1, c2, c3, c4, c5, c6, c7, c8, c9, c10, c11⟩ := HM2.out.cells; clear hb2)
      | (go_at_call 19; (with_reducible refine (HC.out _).mono ?_); rintro e w3 ⟨rfl, hb3⟩; have HB2 := Lib.hid ((Below.refl _ w2).alloc (Nat.le_refl _) (.cells #[.int .i64 0, .int .i64 0, .int .i64 0, .int .i64 0] 45)); have HL3 : Hid (LfB w m w2.heap.size 0 0 0 0 A1 bl A l w3) := ⟨(HM2.out.on HB2.out).on hb3, (Blk.new w2 _ _).on hb3, (HQ2.out.on HB2.out).on hb3, HI.out.on ((HM2.out.on HB2.out).on hb3).b⟩; clear c0 c1 c2 c3 c4 c5 c6 c7 c8 c9 c10 c11; have c11 := HL3.out.bm.bk.cell 11; have d0 := HL3.out.bk.cell 0; have d1 := HL3.out.bk.cell 1; have d2 := HL3.out.bk.cell 2; have d3 := HL3.out.bk.cell 3; have hl3 := HL3.out.bm.bk.lt; have hk3 := HL3.out.bk.lt; clear hb3)
      | (go_at_call 26; refine (awake_any _).mono ?_; rintro e w4 ⟨rfl, hb4⟩; have HB4 := Lib.hid (HL3.out.bm.b.trans (hb4.mono HL3.out.bm.b.size)); clear hb4)
      | fail)
    go_ret
    exact ⟨rfl, HB4.out⟩
end Go.Proofs.Ytljbjcnfkbmjkaa
