/- Layer mould, a part: regions of the law. No statement is proved here. -/
import Derived.Test.YtljbjcnfkbmjkaaGg
import Derived.Test.YtljbjcnfkbmjkaaMg5
import Derived.Test.YtljbjcnfkbmjkaaGj
import Derived.Test.YtljbjcnfkbmjkaaGd
import Derived.Test.YtljbjcnfkbmjkaaMgr
import Derived.Test.YtljbjcnfkbmjkaaMe6
namespace Go.Proofs.Ytljbjcnfkbmjkaa
open Go.RowKit Go.Shelf
attribute [local go_sem] Oper.semAt_some

theorem rnever_at {l : List Int} {k : Nat} {y : Int} (hy : l[k]? = some y) (h : y < 0) : never l = true := by
  unfold never
  rw [List.any_eq_true]
  exact ⟨y, List.mem_of_getElem? hy, by simpa using h⟩
theorem rnever_all {l : List Int} (h : ∀ (k : Nat) (y : Int), l[k]? = some y → 0 ≤ y) : never l = false := by
  unfold never
  rw [List.any_eq_false]
  intro y hy
  obtain ⟨k, hk⟩ := List.getElem?_of_mem hy
  have := h k y hk
  simp; omega
theorem rsetsR_ok {m : Md} (h : checkM m = 0) : setsR m = if never (wh m true) = true then ([], 9) else (zipS (wh m false) (wh m true), 0) := by
  unfold setsR
  rw [if_neg (fun h2 => h2 h)]
set_option maxRecDepth 100000 in
set_option maxHeartbeats 8000000 in
theorem rsets_any (m : Md) (w : World) :
    Calls Try.prog 28 #[.agg #[.int .i64 m.rings, .int .i64 m.give, .int .i64 m.plo, .int .i64 m.phi, .int .i64 m.wlo, .int .i64 m.whi, .int .i64 m.st, .int .i64 m.shrink, .int .i64 m.skin, .int .i64 m.fill, .int .i64 m.gap, .int .i64 m.deep]] w fun e w' => ∃ v, e = .returned (.tuple #[v, .int .i64 (setsR m).2]) ∧ SpansOut w.heap.size w' v (setsR m).1 ∧ Below w.heap.size w w' := by
  have HM := Lib.hid (MdBk.new w 25 m)
  have HC := Lib.hid (fun W => rcheck_any m W)
  obtain ⟨c0, c1, c2, c3, c4, c5, c6, c7, c8, c9, c10, c11⟩ := HM.out.cells
  by_cases hck : checkM m = 0
  · rw [hck] at HC
    have hok := checkM_ok.1 hck
    have HR := Lib.hid (rsetsR_ok hck)
    have HE := Lib.hid (show ∀ W : World, Calls Try.prog 69 #[.agg #[.int .i64 m.rings, .int .i64 m.give, .int .i64 m.plo, .int .i64 m.phi, .int .i64 m.wlo, .int .i64 m.whi, .int .i64 m.st, .int .i64 m.shrink, .int .i64 m.skin, .int .i64 m.fill, .int .i64 m.gap, .int .i64 m.deep]] W fun e w' => ∃ A c A2 c2, e = .returned (.tuple #[.slice A (kR m) c, .slice A2 (kR m) c2]) ∧ IntsIn w' A (wh m false) ∧ IntsIn w' A2 (wh m true) ∧ Below W.heap.size W w' from
        fun W => (rends_any m hok W).mono fun e w' ⟨v, e1, A, c, A2, c2, e2, h⟩ => ⟨A, c, A2, c2, by rw [e1, e2], h⟩)
    have HK := Lib.hid (kR_eq hok.toMdIn)
    have HK8 := Lib.hid (kR_le hok.toMdIn)
    have HLA := Lib.hid (wh_length m false)
    have HLB := Lib.hid (wh_length m true)
    generalize wh m false = ca at *
    generalize wh m true = ha at *
    clear hck hok
    go_enter Try.func28, Try.ntmps28
    go_wp2_with (first
        | (go_at_call 19; (with_reducible refine (HC.out _).mono ?_); rintro e w1 ⟨rfl, hb1⟩; have HM1 := Lib.hid (HM.out.on hb1); clear c0 c1 c2 c3 c4 c5 c6 c7 c8 c9 c10 c11; obtain ⟨c0, c1, c2, c3, c4, c5, c6, c7, c8, c9, c10, c11⟩ := HM1.out.cells; clear hb1)
        | (go_at_call 69; (with_reducible refine (HE.out _).mono ?_); rintro e w3 ⟨A, c, A2, d, rfl, i1, i2, hb⟩; have HS0 : Hid (RwB w m A A2 ca ha w3.heap.size (.slice none 0 0) 0 w3) := ⟨HM1.out.on hb, i1.at_, i2.at_, by simpa using SpansOut.nil _ _, by have h1 := HM1.out.bk.lt; have h2 := hb.size; omega, Nat.le_refl _⟩; clear hb i1 i2 c0 c1 c2 c3 c4 c5 c6 c7 c8 c9 c10 c11 HM1)
        | fail)
    generalize hB : w3.heap.size = B at *
    clear hB
    go_loopw [7, 8] (fun v i W => ∃ k : Nat, k ≤ kR m ∧ i = .int .i64 k ∧ Hid (∀ (q : Nat) (y : Int), q < k → ha[q]? = some y → 0 ≤ y) ∧ Hid (RwB w m A A2 ca ha B v k W)) (fun _ i _ => kR m - (intOf i).toNat)
    case atStart => exact ⟨0, Nat.zero_le _, rfl, fun q y h => absurd h (by omega), HS0⟩
    case round =>
      obtain ⟨k, hk, rfl, HP, HS⟩ := hrel
      clear HS0
      have c0 := HS.out.b0.bk.cell 0
      rw [← HK.out] at c0
      by_cases hlt : k < kR m
      · have hlt' : (k : Int) < kR m := by omega
        have hk8 : k < 8 := by have := HK8.out; omega
        obtain ⟨x, hx⟩ : ∃ x, ca[k]? = some x := ⟨ca[k]'(by rw [HLA.out]; exact hlt), List.getElem?_eq_getElem _⟩
        obtain ⟨y, hy⟩ : ∃ y, ha[k]? = some y := ⟨ha[k]'(by rw [HLB.out]; exact hlt), List.getElem?_eq_getElem _⟩
        obtain ⟨b1, o1, rfl, hb1, cx⟩ := ints_at HS.out.c hx
        obtain ⟨b2, o2, rfl, hb2, cy⟩ := ints_at HS.out.h hy
        have HZ := Lib.hid (zip_take hx hy)
        have HY := Lib.hid hy
        have HO := Lib.hid HS.out.own
        have hlen : ((zipS ca ha).take k).length = k := by rw [List.length_take, zip_length (HLA.out.trans HLB.out.symm), HLA.out]; omega
        obtain ⟨A4, c4, rfl⟩ := own_slice HS.out.own
        rw [hlen]
        have hszB := HS.out.sz
        have HL : Hid (∀ W, Below B wr W → W.cell? ⟨b1, o1 + k, none⟩ = some (.int .i64 x) ∧ W.cell? ⟨b2, o2 + k, none⟩ = some (.int .i64 y) ∧ Below B wr W) :=
          Lib.hid fun W hb => ⟨(hb.cell (p := ⟨b1, o1 + k, none⟩) hb1).trans cx, (hb.cell (p := ⟨b2, o2 + k, none⟩) hb2).trans cy, hb⟩
        clear hx hy
        by_cases hy0 : y < 0
        · have HN0 := Lib.hid (rnever_at HY.out hy0)
          go_wp2_with fail
          refine bodyPost_ret (v := .tuple #[.slice none 0 0, .int .i64 9]) (by simp [results, Try.results28, go_sem]) rfl ⟨.slice none 0 0, by rw [HR.out, if_pos HN0.out], by rw [HR.out, if_pos HN0.out]; exact SpansOut.nil _ _, HS.out.b0.b⟩
        · have hy1 : 0 ≤ y := by omega
          go_wp2_with fail
          go_region_held3 (fun W => W.cell? ⟨b1, o1 + k, none⟩ = some (.int .i64 x) ∧ W.cell? ⟨b2, o2 + k, none⟩ = some (.int .i64 y) ∧ Below B wr W)
            (exact HL.out _ (by repeat (first | assumption | exact Below.refl _ _ | (with_reducible apply Below.drew) | (with_reducible refine Below.alloc ?_ (by first | omega | (simp; omega)) _) | (with_reducible apply below_drewN') | exact Below.trans (by repeat (first | exact Below.refl _ _ | (with_reducible apply Below.drew) | (with_reducible refine Below.alloc ?_ (by first | omega | (simp; omega)) _) | (with_reducible apply below_drewN'))) hbN)))
            (first | (refine apps_step rfl _ _ rfl (l := (zipS ca ha).take k) (by rw [hlen]; rfl) (own_below HO.out (by repeat (first | exact Below.refl _ _ | (with_reducible apply Below.drew) | (with_reducible refine Below.alloc ?_ (by first | exact Nat.le_refl _ | (simp; done)) _) | (with_reducible apply below_drewN')))) x y (by rfl) (Blk.new _ _ _) (by rw [hlen]; omega) (by simp; omega) ?_; rw [hlen]; intro g cap w1 hown1 hbN hgr1 hgb1) | fail)
          have HBN : Hid (Below B wr w1) := Below.trans (by repeat (first | exact Below.refl _ _ | (with_reducible apply Below.drew) | (with_reducible refine Below.alloc ?_ (by first | omega | (simp; omega)) _) | (with_reducible apply below_drewN'))) hbN
          have HN := Lib.hid (HS.out.next HBN.out (by rw [HZ.out]; exact hown1))
          have HP2 : Hid (∀ (q : Nat) (z : Int), q < k + 1 → ha[q]? = some z → 0 ≤ z) := Lib.hid fun q z hq hz => by
            rcases Nat.lt_or_ge q k with h | h
            · exact HP.out q z h hz
            · obtain rfl : q = k := by omega
              have h2 := HY.out
              rw [hz] at h2
              cases h2
              exact hy1
          clear hown1 hbN hgr1 hgb1
          go_wp2_with fail
          go_roundw
          case rel => exact ⟨k + 1, Nat.succ_le_of_lt hlt, by go_num, HP2, HN⟩
          case measure => exact meas_one hlt
      · obtain rfl : k = kR m := by omega
        have hn2 : ¬ ((kR m : Int) < kR m) := by omega
        have HN0 : Hid (never ha = false) := rnever_all fun q y hy => HP.out q y (by have := (List.getElem?_eq_some_iff.1 hy).1; have := HLB.out; omega) hy
        have hxo := HS.out.own
        rw [List.take_of_length_le (by rw [zip_length (HLA.out.trans HLB.out.symm), HLA.out]; exact Nat.le_refl _)] at hxo
        go_wp2_with fail
        refine bodyPost_ret (v := .tuple #[u7, .int .i64 0]) (by simp [results, Try.results28, go_sem]) rfl ⟨u7, by rw [HR.out, if_neg (by rw [HN0.out]; decide)], by rw [HR.out, if_neg (by rw [HN0.out]; decide)]; exact own_base hxo (Nat.le_of_lt HS.out.lw), HS.out.b0.b⟩
  · have HR : Hid (setsR m = ([], checkM m)) := if_pos hck
    have hz : (checkM m != 0) = true := by simpa using hck
    generalize checkM m = z at *
    go_enter Try.func28, Try.ntmps28
    go_wp2_with (first
        | (go_at_call 19; (with_reducible refine (HC.out _).mono ?_); rintro e w1 ⟨rfl, hb1⟩; have HM1 := Lib.hid (HM.out.on hb1); clear c0 c1 c2 c3 c4 c5 c6 c7 c8 c9 c10 c11; obtain ⟨c0, c1, c2, c3, c4, c5, c6, c7, c8, c9, c10, c11⟩ := HM1.out.cells; clear hb1)
        | fail)
    refine bodyPost_ret (v := .tuple #[.slice none 0 0, .int .i64 z]) (by simp [results, Try.results28, go_sem]) rfl ⟨.slice none 0 0, by rw [HR.out], by rw [HR.out]; exact SpansOut.nil _ _, HM1.out.b⟩
end Go.Proofs.Ytljbjcnfkbmjkaa

namespace Go.Proofs.Ytljbjcnfkbmjkaa
open Go.RowKit Go.Shelf
attribute [local go_sem] Oper.semAt_some

/-- What lies in memory: the mould, the result's cells, the plan. -/
structure RhB (w : World) (m : Md) (B : Option Addr) (l : List Int) (W : World) : Prop where
  b0 : MdBk w w.heap.size 25 m W
  b1 : Blk W (w.heap.size + 1) 45 #[.int .i64 0, .int .i64 0, .int .i64 0, .int .i64 0]
  l : IntsIn W B l
theorem RhB.on {w W W' : World} {m : Md} {B : Option Addr} {l : List Int} (h : RhB w m B l W) (hb : Below W.heap.size W W') : RhB w m B l W' := ⟨h.b0.on hb, h.b1.on hb, h.l.on hb⟩
theorem rsets_err {m : Md} {e0 : Int} (h : (setsR m).2 = e0) (W : World) :
    Calls Try.prog 28 #[.agg #[.int .i64 m.rings, .int .i64 m.give, .int .i64 m.plo, .int .i64 m.phi, .int .i64 m.wlo, .int .i64 m.whi, .int .i64 m.st, .int .i64 m.shrink, .int .i64 m.skin, .int .i64 m.fill, .int .i64 m.gap, .int .i64 m.deep]] W fun e w' => ∃ A n c, e = .returned (.tuple #[.slice A n c, .int .i64 e0]) ∧ Below W.heap.size W w' :=
  (rsets_any m W).mono fun e w' ⟨v, he, hv, hb⟩ => by
    rw [h] at he
    obtain ⟨A, c, rfl, _⟩ := SpansOut.in_ hv
    exact ⟨A, _, c, he, hb⟩
theorem ends_law {m : Md} (hok : MdOk m) {a b : List Int} (ha : wh m false = a) (hb : wh m true = b) (W : World) :
    Calls Try.prog 69 #[.agg #[.int .i64 m.rings, .int .i64 m.give, .int .i64 m.plo, .int .i64 m.phi, .int .i64 m.wlo, .int .i64 m.whi, .int .i64 m.st, .int .i64 m.shrink, .int .i64 m.skin, .int .i64 m.fill, .int .i64 m.gap, .int .i64 m.deep]] W fun e w' => ∃ A c A2 c2, e = .returned (.tuple #[.slice A (kR m) c, .slice A2 (kR m) c2]) ∧ IntsIn w' A a ∧ IntsIn w' A2 b ∧ Below W.heap.size W w' :=
  (rends_any m hok W).mono fun e w' ⟨v, e1, A, c, A2, c2, e2, h1, h2, h3⟩ => ⟨A, c, A2, c2, by rw [e1, e2], by rw [← ha]; exact h1, by rw [← hb]; exact h2, h3⟩
theorem rh_plan {m : Md} {l : List Int} (h : checkM m = 0) (h2 : planE m l ≠ 0) : hollR m l = (((0, 0), (0, 0)), planE m l) := by
  unfold hollR
  rw [if_neg (fun h3 => h3 h), if_pos h2]
theorem rh_never {m : Md} {l b : List Int} (hb : wh m true = b) (h : checkM m = 0) (h2 : planE m l = 0) (h3 : never b = true) : hollR m l = (((0, 0), (0, 0)), 9) := by
  unfold hollR
  rw [if_neg (fun h4 => h4 h), if_neg (fun h4 => h4 h2), hb, if_pos h3]
theorem rh_shut {m : Md} {l a b : List Int} (ha : wh m false = a) (hb : wh m true = b) (h : checkM m = 0) (h2 : planE m l = 0) (h3 : never b = false) (h4 : pours m a l = false) : hollR m l = (((0, 0), (0, 0)), 9) := by
  unfold hollR
  rw [if_neg (fun h5 => h5 h), if_neg (fun h5 => h5 h2), hb, ha, if_neg (by rw [h3]; decide), if_neg (by rw [h4]; decide)]
theorem rh_good {m : Md} {l a b : List Int} (ha : wh m false = a) (hb : wh m true = b) (h : checkM m = 0) (h2 : planE m l = 0) (h3 : never b = false) (h4 : pours m a l = true) : hollR m l = (((hollM m a l, hollM m b l), (pourM m b l, pourM m a l)), 0) := by
  unfold hollR
  rw [if_neg (fun h5 => h5 h), if_neg (fun h5 => h5 h2), hb, ha, if_neg (by rw [h3]; decide), if_pos h4]
theorem setsR_err {m : Md} {b : List Int} (hb : wh m true = b) (h : checkM m = 0) : (setsR m).2 = if never b = true then 9 else 0 := by
  unfold setsR
  rw [if_neg (fun h2 => h2 h), hb]
  split <;> rfl
set_option maxRecDepth 100000 in
set_option maxHeartbeats 8000000 in
theorem rhollow_any {w : World} (m : Md) {B : Option Addr} {d : Nat} {l : List Int} (hl : IntsIn w B l) :
    Calls Try.prog 32 #[.agg #[.int .i64 m.rings, .int .i64 m.give, .int .i64 m.plo, .int .i64 m.phi, .int .i64 m.wlo, .int .i64 m.whi, .int .i64 m.st, .int .i64 m.shrink, .int .i64 m.skin, .int .i64 m.fill, .int .i64 m.gap, .int .i64 m.deep], .slice B l.length d] w fun e w' => e = .returned (.tuple #[.agg #[.int .i64 (hollR m l).1.1.1, .int .i64 (hollR m l).1.1.2, .int .i64 (hollR m l).1.2.1, .int .i64 (hollR m l).1.2.2], .int .i64 (hollR m l).2]) ∧ Below w.heap.size w w' := by
  have HM : Hid (RhB w m B l ((w.alloc (.cells #[.int .i64 m.rings, .int .i64 m.give, .int .i64 m.plo, .int .i64 m.phi, .int .i64 m.wlo, .int .i64 m.whi, .int .i64 m.st, .int .i64 m.shrink, .int .i64 m.skin, .int .i64 m.fill, .int .i64 m.gap, .int .i64 m.deep] 25)).alloc (.cells #[.int .i64 0, .int .i64 0, .int .i64 0, .int .i64 0] 45))) := by
    have hb0 : Below w.heap.size w ((w.alloc (.cells #[.int .i64 m.rings, .int .i64 m.give, .int .i64 m.plo, .int .i64 m.phi, .int .i64 m.wlo, .int .i64 m.whi, .int .i64 m.st, .int .i64 m.shrink, .int .i64 m.skin, .int .i64 m.fill, .int .i64 m.gap, .int .i64 m.deep] 25)).alloc (.cells #[.int .i64 0, .int .i64 0, .int .i64 0, .int .i64 0] 45)) := ((Below.refl _ w).alloc (Nat.le_refl _) _).alloc (by simp) _
    exact ⟨⟨(Blk.new w _ _).alloc _, hb0⟩, Blk.new1 w _ _ _, hl.on hb0⟩
  obtain ⟨nl, hnl⟩ : ∃ nl : Nat, l.length = nl := ⟨_, rfl⟩
  have HC := Lib.hid (fun W => rcheck_any m W)
  have HPl := Lib.hid (plan_law (m := m) hnl rfl)
  rw [hnl]
  by_cases hck : checkM m = 0
  · rw [hck] at HC
    by_cases hpl : planE m l = 0
    · rw [hpl] at HPl
      have hok := checkM_ok.1 hck
      obtain ⟨a, ha⟩ : ∃ a, wh m false = a := ⟨_, rfl⟩
      obtain ⟨b, hb⟩ : ∃ b, wh m true = b := ⟨_, rfl⟩
      have hse := setsR_err hb hck
      by_cases hnv : never b = true
      · rw [if_pos hnv] at hse
        have HSt := Lib.hid (fun W => rsets_err hse W)
        have HR := Lib.hid (rh_never hb hck hpl hnv)
        clear hck hpl hok ha hb hse hnv hl hnl
        go_enter Try.func32, Try.ntmps32
        obtain ⟨z0, z1, z2, z3, z4, z5, z6, z7, z8, z9, z10, z11⟩ := HM.out.b0.cells
        go_wp2_with (first
          | (go_at_call 19; (with_reducible refine (HC.out _).mono ?_); rintro e w1 ⟨rfl, hb⟩; have H1 := Lib.hid (HM.out.on hb); clear z0 z1 z2 z3 z4 z5 z6 z7 z8 z9 z10 z11; obtain ⟨z0, z1, z2, z3, z4, z5, z6, z7, z8, z9, z10, z11⟩ := H1.out.b0.cells; clear hb)
          | (go_at_call 43; (with_reducible refine (HPl.out _ _ _ H1.out.l).mono ?_); rintro e w2 ⟨rfl, hb⟩; have H2 := Lib.hid (H1.out.on hb); clear z0 z1 z2 z3 z4 z5 z6 z7 z8 z9 z10 z11; obtain ⟨z0, z1, z2, z3, z4, z5, z6, z7, z8, z9, z10, z11⟩ := H2.out.b0.cells; clear hb)
          | (go_at_call 28; (with_reducible refine (HSt.out _).mono ?_); rintro e w3 ⟨A3, n3, a3, rfl, hb⟩; have H3 := Lib.hid (H2.out.on hb); clear z0 z1 z2 z3 z4 z5 z6 z7 z8 z9 z10 z11; have f0 := H3.out.b1.frozen 0; have f1 := H3.out.b1.frozen 1; have f2 := H3.out.b1.frozen 2; have f3 := H3.out.b1.frozen 3; have d0 := H3.out.b1.cell 0; have d1 := H3.out.b1.cell 1; have d2 := H3.out.b1.cell 2; have d3 := H3.out.b1.cell 3; have hl1 := H3.out.b1.lt; clear hb)
          | fail)
        obtain ⟨s0, s1, s2, s3⟩ := end4' rfl H3.out.b1 0 0 0 0
        refine bodyPost_ret (v := .tuple #[.agg #[.int .i64 0, .int .i64 0, .int .i64 0, .int .i64 0], .int .i64 9]) ?_ rfl ⟨by rw [HR.out], ?_⟩
        · simp [results, Try.results32, go_sem, s0, s1, s2, s3]
        · exact below_set (below_set (below_set (below_set H3.out.b0.b (by omega)) (by omega)) (by omega)) (by omega)
      · have hnf : never b = false := by simpa using hnv
        rw [if_neg hnv] at hse
        have HSt := Lib.hid (fun W => rsets_err hse W)
        have HE := Lib.hid (fun W => ends_law hok ha hb W)
        have hla : a.length = kR m := by rw [← ha]; exact wh_length m false
        have hlb : b.length = kR m := by rw [← hb]; exact wh_length m true
        have HEa := Lib.hid (end_law hok.toMdIn hla hpl rfl hnl)
        have HEb := Lib.hid (end_law hok.toMdIn hlb hpl rfl hnl)
        cases hp : pours m a l with
        | true =>
          have HPo := Lib.hid (pours_law (m := m) hla rfl hnl hp)
          have HR := Lib.hid (rh_good ha hb hck hpl hnf hp)
          clear hck hpl hok ha hb hse hnv hnf hla hlb hp hl hnl
          generalize hollM m a l = y1 at *
          generalize hollM m b l = y2 at *
          generalize pourM m a l = y4 at *
          generalize pourM m b l = y3 at *
          go_enter Try.func32, Try.ntmps32
          obtain ⟨z0, z1, z2, z3, z4, z5, z6, z7, z8, z9, z10, z11⟩ := HM.out.b0.cells
          go_wp2_with (first
            | (go_at_call 19; (with_reducible refine (HC.out _).mono ?_); rintro e w1 ⟨rfl, hb⟩; have H1 := Lib.hid (HM.out.on hb); clear z0 z1 z2 z3 z4 z5 z6 z7 z8 z9 z10 z11; obtain ⟨z0, z1, z2, z3, z4, z5, z6, z7, z8, z9, z10, z11⟩ := H1.out.b0.cells; clear hb)
            | (go_at_call 43; (with_reducible refine (HPl.out _ _ _ H1.out.l).mono ?_); rintro e w2 ⟨rfl, hb⟩; have H2 := Lib.hid (H1.out.on hb); clear z0 z1 z2 z3 z4 z5 z6 z7 z8 z9 z10 z11; obtain ⟨z0, z1, z2, z3, z4, z5, z6, z7, z8, z9, z10, z11⟩ := H2.out.b0.cells; clear hb)
            | (go_at_call 28; (with_reducible refine (HSt.out _).mono ?_); rintro e w3 ⟨A3, n3, a3, rfl, hb⟩; have H3 := Lib.hid (H2.out.on hb); clear z0 z1 z2 z3 z4 z5 z6 z7 z8 z9 z10 z11; obtain ⟨z0, z1, z2, z3, z4, z5, z6, z7, z8, z9, z10, z11⟩ := H3.out.b0.cells; clear hb)
            | (go_at_call 69; (with_reducible refine (HE.out _).mono ?_); rintro e w4 ⟨A4, a4, A5, a5, rfl, i4, i5, hb⟩; have H4 := Lib.hid (And.intro (H3.out.on hb) (And.intro i4 i5)); clear z0 z1 z2 z3 z4 z5 z6 z7 z8 z9 z10 z11; obtain ⟨z0, z1, z2, z3, z4, z5, z6, z7, z8, z9, z10, z11⟩ := H4.out.1.b0.cells; clear hb i4 i5)
            | (go_at_call 46; (with_reducible refine (HPo.out _ _ _ _ _ H4.out.2.1 H4.out.1.l).mono ?_); rintro e w5 ⟨rfl, hb⟩; have H5 := Lib.hid (And.intro (H4.out.1.on hb) (And.intro (H4.out.2.1.on hb) (H4.out.2.2.on hb))); have H5a := Lib.hid (H4.out.1.on hb); clear z0 z1 z2 z3 z4 z5 z6 z7 z8 z9 z10 z11; obtain ⟨z0, z1, z2, z3, z4, z5, z6, z7, z8, z9, z10, z11⟩ := H5.out.1.b0.cells; clear hb)
            | (go_at_call 44; (with_reducible refine (HEa.out _ _ _ _ _ H5.out.2.1 H5.out.1.l).mono ?_); rintro e w6 ⟨rfl, hb⟩; have H6 := Lib.hid (And.intro (H5.out.1.on hb) (H5.out.2.2.on hb)); clear z0 z1 z2 z3 z4 z5 z6 z7 z8 z9 z10 z11; obtain ⟨z0, z1, z2, z3, z4, z5, z6, z7, z8, z9, z10, z11⟩ := H6.out.1.b0.cells; clear hb)
            | (go_at_call 44; (with_reducible refine (HEb.out _ _ _ _ _ H6.out.2 H6.out.1.l).mono ?_); rintro e w7 ⟨rfl, hb⟩; have H7 := Lib.hid (H6.out.1.on hb); clear z0 z1 z2 z3 z4 z5 z6 z7 z8 z9 z10 z11; have f0 := H7.out.b1.frozen 0; have f1 := H7.out.b1.frozen 1; have f2 := H7.out.b1.frozen 2; have f3 := H7.out.b1.frozen 3; have d0 := H7.out.b1.cell 0; have d1 := H7.out.b1.cell 1; have d2 := H7.out.b1.cell 2; have d3 := H7.out.b1.cell 3; have hl1 := H7.out.b1.lt; clear hb)
            | fail)
          obtain ⟨s0, s1, s2, s3⟩ := end4' rfl H7.out.b1 y1 y2 y3 y4
          refine bodyPost_ret (v := .tuple #[.agg #[.int .i64 y1, .int .i64 y2, .int .i64 y3, .int .i64 y4], .int .i64 0]) ?_ rfl ⟨by rw [HR.out], ?_⟩
          · simp [results, Try.results32, go_sem, s0, s1, s2, s3]
          · exact below_set (below_set (below_set (below_set H7.out.b0.b (by omega)) (by omega)) (by omega)) (by omega)
        | false =>
          have HPo := Lib.hid (pours_law (m := m) hla rfl hnl hp)
          have HR := Lib.hid (rh_shut ha hb hck hpl hnf hp)
          clear hck hpl hok ha hb hse hnv hnf hla hlb hp hl hnl HEa HEb
          go_enter Try.func32, Try.ntmps32
          obtain ⟨z0, z1, z2, z3, z4, z5, z6, z7, z8, z9, z10, z11⟩ := HM.out.b0.cells
          go_wp2_with (first
            | (go_at_call 19; (with_reducible refine (HC.out _).mono ?_); rintro e w1 ⟨rfl, hb⟩; have H1 := Lib.hid (HM.out.on hb); clear z0 z1 z2 z3 z4 z5 z6 z7 z8 z9 z10 z11; obtain ⟨z0, z1, z2, z3, z4, z5, z6, z7, z8, z9, z10, z11⟩ := H1.out.b0.cells; clear hb)
            | (go_at_call 43; (with_reducible refine (HPl.out _ _ _ H1.out.l).mono ?_); rintro e w2 ⟨rfl, hb⟩; have H2 := Lib.hid (H1.out.on hb); clear z0 z1 z2 z3 z4 z5 z6 z7 z8 z9 z10 z11; obtain ⟨z0, z1, z2, z3, z4, z5, z6, z7, z8, z9, z10, z11⟩ := H2.out.b0.cells; clear hb)
            | (go_at_call 28; (with_reducible refine (HSt.out _).mono ?_); rintro e w3 ⟨A3, n3, a3, rfl, hb⟩; have H3 := Lib.hid (H2.out.on hb); clear z0 z1 z2 z3 z4 z5 z6 z7 z8 z9 z10 z11; obtain ⟨z0, z1, z2, z3, z4, z5, z6, z7, z8, z9, z10, z11⟩ := H3.out.b0.cells; clear hb)
            | (go_at_call 69; (with_reducible refine (HE.out _).mono ?_); rintro e w4 ⟨A4, a4, A5, a5, rfl, i4, i5, hb⟩; have H4 := Lib.hid (And.intro (H3.out.on hb) (And.intro i4 i5)); clear z0 z1 z2 z3 z4 z5 z6 z7 z8 z9 z10 z11; obtain ⟨z0, z1, z2, z3, z4, z5, z6, z7, z8, z9, z10, z11⟩ := H4.out.1.b0.cells; clear hb i4 i5)
            | (go_at_call 46; (with_reducible refine (HPo.out _ _ _ _ _ H4.out.2.1 H4.out.1.l).mono ?_); rintro e w5 ⟨rfl, hb⟩; have H5 := Lib.hid (And.intro (H4.out.1.on hb) (And.intro (H4.out.2.1.on hb) (H4.out.2.2.on hb))); have H5a := Lib.hid (H4.out.1.on hb); clear z0 z1 z2 z3 z4 z5 z6 z7 z8 z9 z10 z11; have f0 := H5a.out.b1.frozen 0; have f1 := H5a.out.b1.frozen 1; have f2 := H5a.out.b1.frozen 2; have f3 := H5a.out.b1.frozen 3; have d0 := H5a.out.b1.cell 0; have d1 := H5a.out.b1.cell 1; have d2 := H5a.out.b1.cell 2; have d3 := H5a.out.b1.cell 3; have hl1 := H5a.out.b1.lt; clear hb)
            | fail)
          obtain ⟨s0, s1, s2, s3⟩ := end4' rfl H5a.out.b1 0 0 0 0
          refine bodyPost_ret (v := .tuple #[.agg #[.int .i64 0, .int .i64 0, .int .i64 0, .int .i64 0], .int .i64 9]) ?_ rfl ⟨by rw [HR.out], ?_⟩
          · simp [results, Try.results32, go_sem, s0, s1, s2, s3]
          · exact below_set (below_set (below_set (below_set H5a.out.b0.b (by omega)) (by omega)) (by omega)) (by omega)
    · have HR := Lib.hid (rh_plan hck hpl)
      have hz : (planE m l != 0) = true := by simpa using hpl
      have hz2 : (planE m l == 0) = false := by simpa using hpl
      generalize planE m l = z at *
      clear hpl hck hl hnl
      go_enter Try.func32, Try.ntmps32
      obtain ⟨z0, z1, z2, z3, z4, z5, z6, z7, z8, z9, z10, z11⟩ := HM.out.b0.cells
      go_wp2_with (first
        | (go_at_call 19; (with_reducible refine (HC.out _).mono ?_); rintro e w1 ⟨rfl, hb⟩; have H1 := Lib.hid (HM.out.on hb); clear z0 z1 z2 z3 z4 z5 z6 z7 z8 z9 z10 z11; obtain ⟨z0, z1, z2, z3, z4, z5, z6, z7, z8, z9, z10, z11⟩ := H1.out.b0.cells; clear hb)
        | (go_at_call 43; (with_reducible refine (HPl.out _ _ _ H1.out.l).mono ?_); rintro e w2 ⟨rfl, hb⟩; have H2 := Lib.hid (H1.out.on hb); clear z0 z1 z2 z3 z4 z5 z6 z7 z8 z9 z10 z11; have f0 := H2.out.b1.frozen 0; have f1 := H2.out.b1.frozen 1; have f2 := H2.out.b1.frozen 2; have f3 := H2.out.b1.frozen 3; have d0 := H2.out.b1.cell 0; have d1 := H2.out.b1.cell 1; have d2 := H2.out.b1.cell 2; have d3 := H2.out.b1.cell 3; have hl1 := H2.out.b1.lt; clear hb)
        | fail)
      obtain ⟨s0, s1, s2, s3⟩ := end4' rfl H2.out.b1 0 0 0 0
      refine bodyPost_ret (v := .tuple #[.agg #[.int .i64 0, .int .i64 0, .int .i64 0, .int .i64 0], .int .i64 z]) ?_ rfl ⟨by rw [HR.out], ?_⟩
      · simp [results, Try.results32, go_sem, s0, s1, s2, s3]
      · exact below_set (below_set (below_set (below_set H2.out.b0.b (by omega)) (by omega)) (by omega)) (by omega)
  · have HR : Hid (hollR m l = (((0, 0), (0, 0)), checkM m)) := if_pos hck
    have hz : (checkM m != 0) = true := by simpa using hck
    have hz2 : (checkM m == 0) = false := by simpa using hck
    generalize checkM m = z at *
    clear hck hl hnl
    go_enter Try.func32, Try.ntmps32
    obtain ⟨z0, z1, z2, z3, z4, z5, z6, z7, z8, z9, z10, z11⟩ := HM.out.b0.cells
    go_wp2_with (first
      | (go_at_call 19; (with_reducible refine (HC.out _).mono ?_); rintro e w1 ⟨rfl, hb⟩; have H1 := Lib.hid (HM.out.on hb); clear z0 z1 z2 z3 z4 z5 z6 z7 z8 z9 z10 z11; have f0 := H1.out.b1.frozen 0; have f1 := H1.out.b1.frozen 1; have f2 := H1.out.b1.frozen 2; have f3 := H1.out.b1.frozen 3; have d0 := H1.out.b1.cell 0; have d1 := H1.out.b1.cell 1; have d2 := H1.out.b1.cell 2; have d3 := H1.out.b1.cell 3; have hl1 := H1.out.b1.lt; clear hb)
      | fail)
    obtain ⟨s0, s1, s2, s3⟩ := end4' rfl H1.out.b1 0 0 0 0
    refine bodyPost_ret (v := .tuple #[.agg #[.int .i64 0, .int .i64 0, .int .i64 0, .int .i64 0], .int .i64 z]) ?_ rfl ⟨by rw [HR.out], ?_⟩
    · simp [results, Try.results32, go_sem, s0, s1, s2, s3]
    · exact below_set (below_set (below_set (below_set H1.out.b0.b (by omega)) (by omega)) (by omega)) (by omega)
end Go.Proofs.Ytljbjcnfkbmjkaa

namespace Go.Proofs.Ytljbjcnfkbmjkaa
open Go.RowKit Go.Shelf Go.Maps
attribute [local go_sem] Oper.semAt_some

/-- What each operation leaves. -/
def rf6aR (w : World) (m : Md) (Af : Option Addr) (kk cf : Nat) (a : List Int) (x : Int) (sb : Bool) : Nat → Value → World → Prop
  | 0, v, _ => v = .int .i64 x
  | 1, v, _ => v = .bool true
  | 2, v, _ => v = .bool true
  | 3, v, _ => v = .slice Af kk cf
  | 4, v, _ => v = .int .i64 x
  | 5, v, _ => v = .int .i64 (setN a x)
  | 6, v, _ => v = .pointer (some ⟨w.heap.size, 8, none⟩)
  | 7, v, _ => v = .int .i64 m.skin
  | 8, v, _ => v = .bool sb
  | 9, v, _ => v = .bool sb
  | _, _, _ => True
theorem rf6aR_on (w : World) (m : Md) (Af : Option Addr) (kk cf : Nat) (a : List Int) (x : Int) (sb : Bool) : ∀ i, i < 10 → ∀ v W W', rf6aR w m Af kk cf a x sb i v W → Below W.heap.size W W' → rf6aR w m Af kk cf a x sb i v W' := by
  iterate 10 (refine all_succ ?_ ?_)
  · exact all_zero
  · exact fun _ _ _ h _ => h
  · exact fun _ _ _ h _ => h
  · exact fun _ _ _ h _ => h
  · exact fun _ _ _ h _ => h
  · exact fun _ _ _ h _ => h
  · exact fun _ _ _ h _ => h
  · exact fun _ _ _ h _ => h
  · exact fun _ _ _ h _ => h
  · exact fun _ _ _ h _ => h
  · exact fun _ _ _ h _ => h
set_option maxRecDepth 100000 in
set_option maxHeartbeats 8000000 in
theorem rf6a_region {S : World → Prop} (hon : ∀ W W', S W → Below W.heap.size W W' → S W') {w : World} {m : Md} (hM : ∀ W, S W → MdBk w w.heap.size 25 m W) {Af : Option Addr} {kk cf : Nat} {a : List Int} {x : Int} {sb : Bool} (hx : 0 ≤ x) (hs : decide (m.skin < setN a x) = sb) (hf : ∀ W, S W → IntsIn W Af a) (HT : Hid (∀ (W : World) (A : Option Addr) (c : Nat) (_ : IntsIn W A a), Calls Try.prog 42 #[.slice A kk c, .int .i64 x] W fun e w' => e = .returned (.int .i64 (setN a x)) ∧ w' = W)) {Q : Exit → Act → World → Prop} {s0 s2 s3 s4 s5 s7 s9 s10 s11 s12 s13 s14 s15 s16 s17 s18 s19 s20 s21 s22 s23 s24 s35 s36 s37 s38 s39 s40 s41 s42 s43 s44 s45 s46 s47 s48 s49 s50 s51 s52 s53 s54 s55 s56 s57 s58 s59 s60 s61 s62 s63 s25 s26 s27 s28 s29 s30 s31 s32 s33 s34 : Value} {W0 : World} (HL : Hid (S W0))
    (HQ : Hid (∀ (u : Nat → Value) (W : World), S W → Q .normal ⟨#[s0, .pointer (some ⟨w.heap.size, 0, none⟩), s2, s3, s4, s5, .slice Af kk cf, s7, .int .i64 x, s9, s10, s11, s12, s13, s14, s15, s16, s17, s18, s19, s20, s21, s22, s23, s24, u 0, u 1, u 2, u 3, u 4, u 5, u 6, u 7, u 8, .bool sb, s35, s36, s37, s38, s39, s40, s41, s42, s43, s44, s45, s46, s47, s48, s49, s50, s51, s52, s53, s54, s55, s56, s57, s58, s59, s60, s61, s62, s63], []⟩ W)) :
    Code.wp Try.prog ((Try.f34.body.bind (regionAt 6)).getD .skip) Q ⟨#[s0, .pointer (some ⟨w.heap.size, 0, none⟩), s2, s3, s4, s5, .slice Af kk cf, s7, .int .i64 x, s9, s10, s11, s12, s13, s14, s15, s16, s17, s18, s19, s20, s21, s22, s23, s24, s25, s26, s27, s28, s29, s30, s31, s32, s33, s34, s35, s36, s37, s38, s39, s40, s41, s42, s43, s44, s45, s46, s47, s48, s49, s50, s51, s52, s53, s54, s55, s56, s57, s58, s59, s60, s61, s62, s63], []⟩ W0 := by
  conv => arg 2; whnf
  refine wp_region_spec (by kernel_rfl) 10 (by kernel_rfl) (fun u => ⟨#[s0, .pointer (some ⟨w.heap.size, 0, none⟩), s2, s3, s4, s5, .slice Af kk cf, s7, .int .i64 x, s9, s10, s11, s12, s13, s14, s15, s16, s17, s18, s19, s20, s21, s22, s23, s24, u 0, u 1, u 2, u 3, u 4, u 5, u 6, u 7, u 8, u 9, s35, s36, s37, s38, s39, s40, s41, s42, s43, s44, s45, s46, s47, s48, s49, s50, s51, s52, s53, s54, s55, s56, s57, s58, s59, s60, s61, s62, s63], []⟩) (fun i => if i = 0 then s25 else if i = 1 then s26 else if i = 2 then s27 else if i = 3 then s28 else if i = 4 then s29 else if i = 5 then s30 else if i = 6 then s31 else if i = 7 then s32 else if i = 8 then s33 else if i = 9 then s34 else undef) (fun W => Hid (S W)) (rf6aR w m Af kk cf a x sb) (by kernel_rfl) (hon _ _ HL.out (Below.refl _ _).drew) (fun i v W W2 hi h hb => rf6aR_on w m Af kk cf a x sb i hi v W W2 h hb) (by decide +kernel) ?_ ?_
  · iterate 10 (refine all_succ ?_ ?_)
    · exact all_zero
    · intro u W hB _ hd _ K hK
      have HK := Lib.hid hK; clear hK
      refine wpOp_of rfl (by rfl) ?_
      go_simp
      exact k_of (HK.out (.int .i64 x) _ rfl hB (Below.refl _ _)) (by kernel_rfl)
    · intro u W hB _ hd _ K hK
      have HK := Lib.hid hK; clear hK
      have e0 : u 0 = .int .i64 x := hd 0 (by decide +kernel)
      refine wpOp_of rfl (by rfl) ?_
      go_simp
      exact k_of (HK.out (.bool true) _ rfl hB (Below.refl _ _)) (by rw [← u1_eq e0]; kernel_rfl)
    · intro u W hB _ hd _ K hK
      have HK := Lib.hid hK; clear hK
      have e1 : u 1 = .bool true := hd 1 (by decide +kernel)
      refine wpOp_of rfl (by rfl) ?_
      go_simp
      exact k_of (HK.out (.bool true) _ rfl hB (Below.refl _ _)) (by rw [← u1_eq e1]; kernel_rfl)
    · intro u W hB _ hd _ K hK
      have HK := Lib.hid hK; clear hK
      have e2 : u 2 = .bool true := hd 2 (by decide +kernel)
      refine wpOp_of rfl (by rw [← u1_eq e2]; kernel_rfl) ?_
      go_simp
      exact k_of (HK.out (.slice Af kk cf) _ rfl hB (Below.refl _ _)) (by rw [← u1_eq e2]; kernel_rfl)
    · intro u W hB _ hd _ K hK
      have HK := Lib.hid hK; clear hK
      have e2 : u 2 = .bool true := hd 2 (by decide +kernel)
      refine wpOp_of rfl (by rw [← u1_eq e2]; kernel_rfl) ?_
      go_simp
      exact k_of (HK.out (.int .i64 x) _ rfl hB (Below.refl _ _)) (by rw [← u1_eq e2]; kernel_rfl)
    · intro u W hB _ hd _ K hK
      have HK := Lib.hid hK; clear hK
      have e2 : u 2 = .bool true := hd 2 (by decide +kernel)
      have e3 : u 3 = .slice Af kk cf := hd 3 (by decide +kernel)
      have e4 : u 4 = .int .i64 x := hd 4 (by decide +kernel)
      refine wpOp_of rfl (by rw [← u1_eq e2]; kernel_rfl) ?_
      go_simp
      refine (HT.out W Af cf (hf W hB.out)).mono ?_
      rintro e w' ⟨rfl, rfl⟩
      exact k_of (HK.out (.int .i64 (setN a x)) _ rfl hB (Below.refl _ _)) (by rw [← u1_eq e2, ← u1_eq e3, ← u1_eq e4]; kernel_rfl)
    · intro u W hB _ hd _ K hK
      have HK := Lib.hid hK; clear hK
      have e2 : u 2 = .bool true := hd 2 (by decide +kernel)
      refine wpOp_of rfl (by rw [← u1_eq e2]; kernel_rfl) ?_
      go_simp
      exact k_of (HK.out (.pointer (some ⟨w.heap.size, 8, none⟩)) _ rfl hB (Below.refl _ _)) (by rw [← u1_eq e2]; kernel_rfl)
    · intro u W hB _ hd _ K hK
      have HK := Lib.hid hK; clear hK
      have e2 : u 2 = .bool true := hd 2 (by decide +kernel)
      have e6 : u 6 = .pointer (some ⟨w.heap.size, 8, none⟩) := hd 6 (by decide +kernel)
      refine wpOp_of rfl (by rw [← u1_eq e2]; kernel_rfl) ?_
      have c8 := (hM W hB.out).bk.cell 8
      go_simp
      exact k_of (HK.out (.int .i64 m.skin) _ rfl hB (Below.refl _ _)) (by rw [← u1_eq e2, ← u1_eq e6]; kernel_rfl)
    · intro u W hB _ hd _ K hK
      have HK := Lib.hid hK; clear hK
      have e2 : u 2 = .bool true := hd 2 (by decide +kernel)
      have e5 : u 5 = .int .i64 (setN a x) := hd 5 (by decide +kernel)
      have e7 : u 7 = .int .i64 m.skin := hd 7 (by decide +kernel)
      refine wpOp_of rfl (by rw [← u1_eq e2]; kernel_rfl) ?_
      go_simp
      exact k_of (HK.out (.bool sb) _ rfl hB (Below.refl _ _)) (by rw [← u1_eq e2, ← u1_eq e5, ← u1_eq e7]; kernel_rfl)
    · intro u W hB _ hd _ K hK
      have HK := Lib.hid hK; clear hK
      have e2 : u 2 = .bool true := hd 2 (by decide +kernel)
      have e8 : u 8 = .bool sb := hd 8 (by decide +kernel)
      refine wpOp_of rfl (by rfl) ?_
      go_simp
      exact k_of (HK.out (.bool sb) _ rfl hB (Below.refl _ _)) (by rw [← u1_eq e2, ← u1_eq e8]; kernel_rfl)
  · intro u W hB hd
    have e9 : u 9 = .bool sb := hd 9 (by decide)
    exact k_of (HQ.out u W hB.out) (by simp only [e9])

/-- What each operation leaves. -/
def rf6bR (_w : World) (_m : Md) (_Af : Option Addr) (_kk _cf : Nat) (_a : List Int) (x : Int) (_sb : Bool) : Nat → Value → World → Prop
  | 0, v, _ => v = .int .i64 x
  | 1, v, _ => v = .bool false
  | 2, v, _ => v = .bool false
  | 3, v, _ => v = undef
  | 4, v, _ => v = undef
  | 5, v, _ => v = undef
  | 6, v, _ => v = undef
  | 7, v, _ => v = undef
  | 8, v, _ => v = undef
  | 9, v, _ => v = .bool false
  | _, _, _ => True
theorem rf6bR_on (w : World) (m : Md) (Af : Option Addr) (kk cf : Nat) (a : List Int) (x : Int) (sb : Bool) : ∀ i, i < 10 → ∀ v W W', rf6bR w m Af kk cf a x sb i v W → Below W.heap.size W W' → rf6bR w m Af kk cf a x sb i v W' := by
  iterate 10 (refine all_succ ?_ ?_)
  · exact all_zero
  · exact fun _ _ _ h _ => h
  · exact fun _ _ _ h _ => h
  · exact fun _ _ _ h _ => h
  · exact fun _ _ _ h _ => h
  · exact fun _ _ _ h _ => h
  · exact fun _ _ _ h _ => h
  · exact fun _ _ _ h _ => h
  · exact fun _ _ _ h _ => h
  · exact fun _ _ _ h _ => h
  · exact fun _ _ _ h _ => h
set_option maxRecDepth 100000 in
set_option maxHeartbeats 8000000 in
theorem rf6b_region {S : World → Prop} (hon : ∀ W W', S W → Below W.heap.size W W' → S W') {w : World} {m : Md} {Af : Option Addr} {kk cf : Nat} {a : List Int} {x : Int} {sb : Bool} (hx : ¬ (0 ≤ x)) {Q : Exit → Act → World → Prop} {s0 s2 s3 s4 s5 s7 s9 s10 s11 s12 s13 s14 s15 s16 s17 s18 s19 s20 s21 s22 s23 s24 s35 s36 s37 s38 s39 s40 s41 s42 s43 s44 s45 s46 s47 s48 s49 s50 s51 s52 s53 s54 s55 s56 s57 s58 s59 s60 s61 s62 s63 s25 s26 s27 s28 s29 s30 s31 s32 s33 s34 : Value} {W0 : World} (HL : Hid (S W0))
    (HQ : Hid (∀ (u : Nat → Value) (W : World), S W → Q .normal ⟨#[s0, .pointer (some ⟨w.heap.size, 0, none⟩), s2, s3, s4, s5, .slice Af kk cf, s7, .int .i64 x, s9, s10, s11, s12, s13, s14, s15, s16, s17, s18, s19, s20, s21, s22, s23, s24, u 0, u 1, u 2, u 3, u 4, u 5, u 6, u 7, u 8, .bool false, s35, s36, s37, s38, s39, s40, s41, s42, s43, s44, s45, s46, s47, s48, s49, s50, s51, s52, s53, s54, s55, s56, s57, s58, s59, s60, s61, s62, s63], []⟩ W)) :
    Code.wp Try.prog ((Try.f34.body.bind (regionAt 6)).getD .skip) Q ⟨#[s0, .pointer (some ⟨w.heap.size, 0, none⟩), s2, s3, s4, s5, .slice Af kk cf, s7, .int .i64 x, s9, s10, s11, s12, s13, s14, s15, s16, s17, s18, s19, s20, s21, s22, s23, s24, s25, s26, s27, s28, s29, s30, s31, s32, s33, s34, s35, s36, s37, s38, s39, s40, s41, s42, s43, s44, s45, s46, s47, s48, s49, s50, s51, s52, s53, s54, s55, s56, s57, s58, s59, s60, s61, s62, s63], []⟩ W0 := by
  conv => arg 2; whnf
  refine wp_region_spec (by kernel_rfl) 10 (by kernel_rfl) (fun u => ⟨#[s0, .pointer (some ⟨w.heap.size, 0, none⟩), s2, s3, s4, s5, .slice Af kk cf, s7, .int .i64 x, s9, s10, s11, s12, s13, s14, s15, s16, s17, s18, s19, s20, s21, s22, s23, s24, u 0, u 1, u 2, u 3, u 4, u 5, u 6, u 7, u 8, u 9, s35, s36, s37, s38, s39, s40, s41, s42, s43, s44, s45, s46, s47, s48, s49, s50, s51, s52, s53, s54, s55, s56, s57, s58, s59, s60, s61, s62, s63], []⟩) (fun i => if i = 0 then s25 else if i = 1 then s26 else if i = 2 then s27 else if i = 3 then s28 else if i = 4 then s29 else if i = 5 then s30 else if i = 6 then s31 else if i = 7 then s32 else if i = 8 then s33 else if i = 9 then s34 else undef) (fun W => Hid (S W)) (rf6bR w m Af kk cf a x sb) (by kernel_rfl) (hon _ _ HL.out (Below.refl _ _).drew) (fun i v W W2 hi h hb => rf6bR_on w m Af kk cf a x sb i hi v W W2 h hb) (by decide +kernel) ?_ ?_
  · iterate 10 (refine all_succ ?_ ?_)
    · exact all_zero
    · intro u W hB _ hd _ K hK
      have HK := Lib.hid hK; clear hK
      refine wpOp_of rfl (by rfl) ?_
      go_simp
      exact k_of (HK.out (.int .i64 x) _ rfl hB (Below.refl _ _)) (by kernel_rfl)
    · intro u W hB _ hd _ K hK
      have HK := Lib.hid hK; clear hK
      have e0 : u 0 = .int .i64 x := hd 0 (by decide +kernel)
      refine wpOp_of rfl (by rfl) ?_
      go_simp
      exact k_of (HK.out (.bool false) _ rfl hB (Below.refl _ _)) (by rw [← u1_eq e0]; kernel_rfl)
    · intro u W hB _ hd _ K hK
      have HK := Lib.hid hK; clear hK
      have e1 : u 1 = .bool false := hd 1 (by decide +kernel)
      refine wpOp_of rfl (by rfl) ?_
      go_simp
      exact k_of (HK.out (.bool false) _ rfl hB (Below.refl _ _)) (by rw [← u1_eq e1]; kernel_rfl)
    · intro u W hB _ hd _ K hK
      have HK := Lib.hid hK; clear hK
      have e2 : u 2 = .bool false := hd 2 (by decide +kernel)
      refine wpOp_skip rfl (by rw [← u1_eq e2]; kernel_rfl) ?_
      exact k_of (HK.out undef _ rfl hB (Below.refl _ _)) (by rw [← u1_eq e2]; kernel_rfl)
    · intro u W hB _ hd _ K hK
      have HK := Lib.hid hK; clear hK
      have e2 : u 2 = .bool false := hd 2 (by decide +kernel)
      refine wpOp_skip rfl (by rw [← u1_eq e2]; kernel_rfl) ?_
      exact k_of (HK.out undef _ rfl hB (Below.refl _ _)) (by rw [← u1_eq e2]; kernel_rfl)
    · intro u W hB _ hd _ K hK
      have HK := Lib.hid hK; clear hK
      have e2 : u 2 = .bool false := hd 2 (by decide +kernel)
      refine wpOp_skip rfl (by rw [← u1_eq e2]; kernel_rfl) ?_
      exact k_of (HK.out undef _ rfl hB (Below.refl _ _)) (by rw [← u1_eq e2]; kernel_rfl)
    · intro u W hB _ hd _ K hK
      have HK := Lib.hid hK; clear hK
      have e2 : u 2 = .bool false := hd 2 (by decide +kernel)
      refine wpOp_skip rfl (by rw [← u1_eq e2]; kernel_rfl) ?_
      exact k_of (HK.out undef _ rfl hB (Below.refl _ _)) (by rw [← u1_eq e2]; kernel_rfl)
    · intro u W hB _ hd _ K hK
      have HK := Lib.hid hK; clear hK
      have e2 : u 2 = .bool false := hd 2 (by decide +kernel)
      refine wpOp_skip rfl (by rw [← u1_eq e2]; kernel_rfl) ?_
      exact k_of (HK.out undef _ rfl hB (Below.refl _ _)) (by rw [← u1_eq e2]; kernel_rfl)
    · intro u W hB _ hd _ K hK
      have HK := Lib.hid hK; clear hK
      have e2 : u 2 = .bool false := hd 2 (by decide +kernel)
      refine wpOp_skip rfl (by rw [← u1_eq e2]; kernel_rfl) ?_
      exact k_of (HK.out undef _ rfl hB (Below.refl _ _)) (by rw [← u1_eq e2]; kernel_rfl)
    · intro u W hB _ hd _ K hK
      have HK := Lib.hid hK; clear hK
      have e2 : u 2 = .bool false := hd 2 (by decide +kernel)
      have e8 : u 8 = undef := hd 8 (by decide +kernel)
      refine wpOp_of rfl (by rfl) ?_
      go_simp
      exact k_of (HK.out (.bool false) _ rfl hB (Below.refl _ _)) (by rw [← u1_eq e2, ← u1_eq e8]; kernel_rfl)
  · intro u W hB hd
    have e9 : u 9 = .bool false := hd 9 (by decide)
    exact k_of (HQ.out u W hB.out) (by simp only [e9])
end Go.Proofs.Ytljbjcnfkbmjkaa

namespace Go.Proofs.Ytljbjcnfkbmjkaa
open Go.RowKit Go.Shelf
attribute [local go_sem] Oper.semAt_some

/-- A new list of one number. -/
theorem own_one (w : World) (x : Int) : IntsOut w.heap.size (w.alloc (.cells #[.int .i64 x] 3)) (.slice (some ⟨w.heap.size, 0, none⟩) 1 1) [x] := by
  refine ⟨rfl, .inr ⟨w.heap.size, 1, _, rfl, Nat.le_refl _, heap_alloc_new w _, ?_⟩⟩
  exact ⟨Nat.le_refl _, by decide, rfl, rfl⟩
def sliceLen : Value → Nat
  | .slice _ n _ => n
  | _ => 0
theorem meas_dn {x : Int} (h : 0 ≤ x) : (intOf (Value.int .i64 (x - 1)) + 1).toNat < (intOf (Value.int .i64 x) + 1).toNat := by
  simp only [intOf]
  omega
/-- The mould, and when rings set in both truths. -/
structure RfB (w : World) (m : Md) (A : Option Addr) (a : List Int) (B : Option Addr) (b : List Int) (W : World) : Prop where
  bm : MdBk w w.heap.size 25 m W
  f : IntsIn W A a
  l : IntsIn W B b
theorem RfB.on {w W W' : World} {m : Md} {A B : Option Addr} {a b : List Int} (h : RfB w m A a B b W) (hb : Below W.heap.size W W') : RfB w m A a B b W' := ⟨h.bm.on hb, h.f.on hb, h.l.on hb⟩
/-- A plan so far, and the minute of the next topping. -/
structure FwI (m : Md) (b l : List Int) (x : Int) : Prop where
  few : fewL m b (42 - l.length) l x = fewR m
  len : l.length ≤ 40
  rng : ∀ t ∈ l, 0 ≤ t ∧ t ≤ 600
  asc : Asc l
  gap : ∀ t ∈ l, x + m.gap ≤ t
  top : x ≤ 600
theorem FwI.step {m : Md} (hm : MdIn m) {b l : List Int} {x : Int} (h : FwI m b l x) (hd : ¬ hollM m b l ≤ m.deep) (hx : ¬ x < 0) (h40 : ¬ l.length = 40) : FwI m b (x :: l) (x - m.gap) := by
  have hg := hm.gap
  have h1 := h.few
  have h2 := h.len
  rw [show 42 - l.length = (42 - (x :: l).length) + 1 by simp only [List.length_cons]; omega, fewL, if_neg hd, if_neg (by omega)] at h1
  refine ⟨h1, by simp only [List.length_cons]; omega, ?_, ?_, ?_, by have := h.top; omega⟩
  · intro t ht
    rcases List.mem_cons.1 ht with rfl | ht
    · exact ⟨by omega, h.top⟩
    · exact h.rng t ht
  · exact List.pairwise_cons.2 ⟨fun t ht => by have := h.gap t ht; omega, h.asc⟩
  · intro t ht
    rcases List.mem_cons.1 ht with rfl | ht
    · omega
    · have := h.gap t ht; omega
theorem FwI.done {m : Md} {b l : List Int} {x : Int} (h : FwI m b l x) (hd : hollM m b l ≤ m.deep) : fewR m = (l, 0) := by
  have h1 := h.few
  have h2 := h.len
  rw [show 42 - l.length = (41 - l.length) + 1 by omega, fewL, if_pos hd] at h1
  exact h1.symm
theorem FwI.fail {m : Md} {b l : List Int} {x : Int} (h : FwI m b l x) (hd : ¬ hollM m b l ≤ m.deep) (hx : x < 0 ∨ l.length = 40) : fewR m = ([], 9) := by
  have h1 := h.few
  have h2 := h.len
  rw [show 42 - l.length = (41 - l.length) + 1 by omega, fewL, if_neg hd, if_pos hx] at h1
  exact h1.symm
theorem FwI.start {m : Md} {a b : List Int} {L : Int} (ha : wh m false = a) (hb : wh m true = b) (hc : checkM m = 0) (hn : never b = false) (hL : lastAt m a 601 = L) : FwI m b [] L := by
  have h1 := lastAt_bounds m a 601
  rw [hL] at h1
  refine ⟨?_, by simp, fun t ht => by simp at ht, List.Pairwise.nil, fun t ht => by simp at ht, by omega⟩
  unfold fewR
  rw [if_neg (fun h => h hc), hb, if_neg (by rw [hn]; decide), ha, hL]
  rfl
theorem lastAt_open2 {m : Md} {a : List Int} {n : Nat} (h : shut m a n = true) : lastAt m a (n + 1) = lastAt m a n := by rw [lastAt, if_pos h]
theorem lastAt_shut2 {m : Md} {a : List Int} {n : Nat} (h : shut m a n = false) : lastAt m a (n + 1) = n := by rw [lastAt, if_neg (by rw [h]; decide)]
theorem und_int3 : Try.prog.underlying 3 = some (.int .i64) := by kernel_rfl
theorem run_app_nil (w : World) (g : Nat) (ty : TypeId) : (Builtin.append_ #[26, 26] ty #[.slice (some ⟨g, 0, none⟩) 1 1, .slice none 0 0]).run Try.prog w = .ok (.slice (some ⟨g, 0, none⟩) 1 1) w := by
  obtain ⟨i0, hi0, hz0, hz1, hz2⟩ := info_parts infoInt
  simp [Builtin.append_, run_underlying und_ints, sizeOf, typeInfo, hi0, Builtin.lenOf, Builtin.firstCells, storeCells]
end Go.Proofs.Ytljbjcnfkbmjkaa

namespace Go.Proofs.Ytljbjcnfkbmjkaa
open Go.RowKit Go.Shelf
attribute [local go_sem] Oper.semAt_some

set_option maxRecDepth 100000 in
set_option maxHeartbeats 8000000 in
theorem rfewest_any (m : Md) (w : World) :
    Calls Try.prog 34 #[.agg #[.int .i64 m.rings, .int .i64 m.give, .int .i64 m.plo, .int .i64 m.phi, .int .i64 m.wlo, .int .i64 m.whi, .int .i64 m.st, .int .i64 m.shrink, .int .i64 m.skin, .int .i64 m.fill, .int .i64 m.gap, .int .i64 m.deep]] w fun e w' => ∃ v, e = .returned (.tuple #[v, .int .i64 (fewR m).2]) ∧ IntsOut w.heap.size w' v (fewR m).1 ∧ Below w.heap.size w w' := by
  have HM := Lib.hid (MdBk.new w 25 m)
  by_cases hck : checkM m = 0
  · have hok := checkM_ok.1 hck
    obtain ⟨a, ha⟩ : ∃ a, wh m false = a := ⟨_, rfl⟩
    obtain ⟨b, hb⟩ : ∃ b, wh m true = b := ⟨_, rfl⟩
    have hse := setsR_err hb hck
    by_cases hnv : never b = true
    · rw [if_pos hnv] at hse
      have HSt := Lib.hid (fun W => rsets_err hse W)
      have HR := Lib.hid (fewR_never hck hb hnv)
      clear hck hok ha hb hse hnv
      go_enter Try.func34, Try.ntmps34
      obtain ⟨z0, z1, z2, z3, z4, z5, z6, z7, z8, z9, z10, z11⟩ := HM.out.cells
      go_wp2_with (first
        | (go_at_call 28; (with_reducible refine (HSt.out _).mono ?_); rintro e w1 ⟨A3, n3, a3, rfl, hb⟩; have H1 := Lib.hid (HM.out.on hb); clear z0 z1 z2 z3 z4 z5 z6 z7 z8 z9 z10 z11; clear hb)
        | fail)
      refine bodyPost_ret (v := .tuple #[.slice none 0 0, .int .i64 9]) (by simp [results, Try.results34, go_sem]) rfl ⟨.slice none 0 0, by rw [HR.out], by rw [HR.out]; exact IntsOut.nil _ _, H1.out.b⟩
    · have hnf : never b = false := by simpa using hnv
      rw [if_neg hnv] at hse
      have HSt := Lib.hid (fun W => rsets_err hse W)
      have HEn := Lib.hid (fun W => ends_law hok ha hb W)
      have hla : a.length = kR m := by rw [← ha]; exact wh_length m false
      have hlb : b.length = kR m := by rw [← hb]; exact wh_length m true
      obtain ⟨L, hL⟩ : ∃ L, lastAt m a 601 = L := ⟨_, rfl⟩
      have HF0 := Lib.hid (FwI.start ha hb hck hnf hL)
      have HL0 : Hid (lastAt m a (600 + 1) = L) := hL
      have HE := Lib.hid (fun (l : List Int) (h1 : l.length ≤ 100000) (h2 : Asc l) (h3 : ∀ t ∈ l, 0 ≤ t ∧ t ≤ 600) (W : World) (A B : Option Addr) (c d : Nat) (hA : IntsIn W A b) (hB : IntsIn W B l) => rend_any (c := c) (d := d) hok.toMdIn hA hB hlb h1 h2 h3)
      have HTs := Lib.hid (show ∀ (x : Int) (W : World) (A : Option Addr) (c : Nat) (_ : IntsIn W A a), Calls Try.prog 42 #[.slice A (kR m) c, .int .i64 x] W fun e w' => e = .returned (.int .i64 (setN a x)) ∧ w' = W from fun x W A c h => by rw [← hla]; exact rset_any x h)
      have HST := Lib.hid (fun (l : List Int) (x : Int) (h : FwI m b l x) => h.step hok.toMdIn)
      have hgap := hok.gap
      clear hck hok ha hb hse hnv hnf hla hlb hL
      go_enter Try.func34, Try.ntmps34
      obtain ⟨z0, z1, z2, z3, z4, z5, z6, z7, z8, z9, z10, z11⟩ := HM.out.cells
      go_wp2_with (first
        | (go_at_call 28; (with_reducible refine (HSt.out _).mono ?_); rintro e w1 ⟨A3, n3, a3, rfl, hb⟩; have H1 := Lib.hid (HM.out.on hb); clear z0 z1 z2 z3 z4 z5 z6 z7 z8 z9 z10 z11; obtain ⟨z0, z1, z2, z3, z4, z5, z6, z7, z8, z9, z10, z11⟩ := H1.out.cells; clear hb)
        | (go_at_call 69; (with_reducible refine (HEn.out _).mono ?_); rintro e w4 ⟨A4, a4, A5, a5, rfl, i4, i5, hb⟩; have H4 : Hid (RfB w m A4 a A5 b w4) := ⟨H1.out.on hb, i4, i5⟩; clear z0 z1 z2 z3 z4 z5 z6 z7 z8 z9 z10 z11; clear hb i4 i5)
        | fail)
      go_loopw [8] (fun v W => ∃ (n : Nat) (x : Int), x = (n : Int) - 1 ∧ n ≤ 601 ∧ v = .int .i64 x ∧ Hid (lastAt m a n = L) ∧ Hid (RfB w m A4 a A5 b W)) (fun v _ => (intOf v + 1).toNat)
      case atStart => exact ⟨601, 600, by omega, by omega, rfl, HL0, H4⟩
      case round =>
        obtain ⟨n, x, hxn, hn, rfl, HLn, HS⟩ := hrel
        clear H4 HL0
        by_cases hx : 0 ≤ x
        · obtain ⟨k, rfl⟩ : ∃ k, n = k + 1 := ⟨n - 1, by omega⟩
          have hxk : x = (k : Int) := by omega
          have HT := Lib.hid (HTs.out x)
          cases hsb : decide (m.skin < setN a x) with
          | true =>
            have HLk : Hid (lastAt m a k = L) := by
              show lastAt m a k = L
              rw [← HLn.out, lastAt_open2]
              rw [hxk] at hsb
              simpa [shut] using hsb
            have HXN := Lib.hid hxn
            have hx6 : x ≤ 600 := by omega
            clear hxn hxk
            go_wp2_with fail
            refine wp_of_eq (rf6a_region (fun W W' h hb => h.on hb) (fun W h => h.bm) hx hsb (fun W h => h.f) HT HS (Lib.hid fun u6 W6 h6 => ?_)) (by kernel_rfl)
            have H6 := Lib.hid h6
            clear h6
            go_wp2_with fail
            go_roundw
            case rel => exact ⟨k, x - 1, by have := HXN.out; omega, by omega, by go_num, HLk, H6⟩
            case measure => exact meas_dn hx
          | false =>
            have HLk : Hid (x = L) := by
              show x = L
              rw [← HLn.out, hxk, lastAt_shut2]
              rw [hxk] at hsb
              simpa [shut] using hsb
            have HXN := Lib.hid hxn
            have hx6 : x ≤ 600 := by omega
            clear hxn hxk
            go_wp2_with fail
            refine wp_of_eq (rf6a_region (fun W W' h hb => h.on hb) (fun W h => h.bm) hx hsb (fun W h => h.f) HT HS (Lib.hid fun u6 W6 h6 => ?_)) (by kernel_rfl)
            have H6 := Lib.hid h6
            clear h6 hsb
            have HF1 : Hid (FwI m b [] x) := by have h := HF0.out; rw [← HLk.out] at h; exact h
            clear HF0 HLk HLn HTs
            go_wp2_with fail
            go_loopw [8, 9] (fun v p W => ∃ (l : List Int) (x : Int) (A : Option Addr) (c : Nat), v = .int .i64 x ∧ p = .slice A l.length c ∧ (l = [] → A = none ∧ c = 0) ∧ Hid (FwI m b l x) ∧ Hid (IntsOut w.heap.size W p l) ∧ Hid (RfB w m A4 a A5 b W)) (fun _ p _ => 42 - sliceLen p)
            case atStart => exact ⟨[], x, none, 0, rfl, rfl, fun _ => ⟨rfl, rfl⟩, HF1, IntsOut.nil _ _, H6⟩
            case round =>
              obtain ⟨l, y, A, c, rfl, rfl, hnil, HF, HO, HB⟩ := hrel
              clear H6 HF1
              obtain ⟨B1, d1, e1, i1⟩ := HO.out.in_
              cases e1
              have HI := Lib.hid i1
              clear i1
              have HEl := Lib.hid (fun (W : World) (A B : Option Addr) (c d : Nat) => HE.out l (by have := HF.out.len; omega) HF.out.asc HF.out.rng W A B c d)
              have hl40 := HF.out.len
              have hy6 := HF.out.top
              obtain ⟨hd, hhd⟩ : ∃ hd, hollM m b l = hd := ⟨_, rfl⟩
              rw [hhd] at HEl
              have HHD := Lib.hid hhd
              clear hhd
              obtain ⟨z0, z1, z2, z3, z4, z5, z6, z7, z8, z9, z10, z11⟩ := HB.out.bm.cells
              by_cases hle : hd ≤ m.deep
              · have HDn : Hid (fewR m = (l, 0)) := HF.out.done (by rw [HHD.out]; exact hle)
                go_wp2_with (first
                  | (go_at_call 44; (with_reducible refine (HEl.out _ _ _ _ _ HB.out.l HI.out).mono ?_); rintro e w6 ⟨rfl, hb⟩; have HB6 := Lib.hid (HB.out.on hb); have HO6 := Lib.hid (own_below HO.out hb); clear z0 z1 z2 z3 z4 z5 z6 z7 z8 z9 z10 z11; have z11 := HB6.out.bm.bk.cell 11; have hl6 := HB6.out.bm.bk.lt; clear hb)
                  | fail)
                refine bodyPost_ret (v := .tuple #[.slice A l.length c, .int .i64 0]) (by simp [results, Try.results34, go_sem]) rfl ⟨.slice A l.length c, by rw [HDn.out], by rw [HDn.out]; exact HO6.out, HB6.out.bm.b⟩
              · by_cases hy : y < 0
                · have HDn : Hid (fewR m = ([], 9)) := HF.out.fail (by rw [HHD.out]; exact hle) (.inl hy)
                  go_wp2_with (first
                    | (go_at_call 44; (with_reducible refine (HEl.out _ _ _ _ _ HB.out.l HI.out).mono ?_); rintro e w6 ⟨rfl, hb⟩; have HB6 := Lib.hid (HB.out.on hb); clear z0 z1 z2 z3 z4 z5 z6 z7 z8 z9 z10 z11; have z11 := HB6.out.bm.bk.cell 11; have hl6 := HB6.out.bm.bk.lt; clear hb)
                    | fail)
                  refine bodyPost_ret (v := .tuple #[.slice none 0 0, .int .i64 9]) (by simp [results, Try.results34, go_sem]) rfl ⟨.slice none 0 0, by rw [HDn.out], by rw [HDn.out]; exact IntsOut.nil _ _, HB6.out.bm.b⟩
                · by_cases h40 : l.length = 40
                  · have HDn : Hid (fewR m = ([], 9)) := HF.out.fail (by rw [HHD.out]; exact hle) (.inr h40)
                    have h40' : ((l.length : Int) == 40) = true := by rw [h40]; rfl
                    clear h40
                    clear hnil
                    go_wp2_with (first
                      | (go_at_call 44; (with_reducible refine (HEl.out _ _ _ _ _ HB.out.l HI.out).mono ?_); rintro e w6 ⟨rfl, hb⟩; have HB6 := Lib.hid (HB.out.on hb); clear z0 z1 z2 z3 z4 z5 z6 z7 z8 z9 z10 z11; have z11 := HB6.out.bm.bk.cell 11; have hl6 := HB6.out.bm.bk.lt; clear hb)
                      | fail)
                    refine bodyPost_ret (v := .tuple #[.slice none 0 0, .int .i64 9]) (by simp [results, Try.results34, go_sem]) rfl ⟨.slice none 0 0, by rw [HDn.out], by rw [HDn.out]; exact IntsOut.nil _ _, HB6.out.bm.b⟩
                  · have h40' : ((l.length : Int) == 40) = false := by rw [beq_eq_false_iff_ne]; omega
                    have HF2 := Lib.hid (HST.out l y HF.out (by have := HHD.out; omega) (by omega) (by omega))
                    by_cases h0 : l.length = 0
                    · obtain rfl : l = [] := List.length_eq_zero_iff.1 h0
                      obtain ⟨rfl, rfl⟩ := hnil rfl
                      clear h0 h40'
                      rw [List.length_nil] at HEl
                      go_wp2_with (first
                        | (go_at_call 44; (with_reducible refine (HEl.out _ _ _ _ _ HB.out.l HI.out).mono ?_); rintro e w6 ⟨rfl, hb⟩; have HA6 := Lib.hid ((Below.refl _ w6).alloc (Nat.le_refl _) (.cells #[.int .i64 y] 3)); have HB6 := Lib.hid ((HB.out.on hb).on HA6.out); have hw6 := Nat.le_trans (Nat.le_of_lt HB.out.bm.bk.lt) hb.size; have HO6 := Lib.hid (own_base (own_one w6 y) hw6); have hrun := run_app_nil (w6.alloc (.cells #[.int .i64 y] 3)) w6.heap.size; clear z0 z1 z2 z3 z4 z5 z6 z7 z8 z9 z10 z11; have z11' := (HB.out.on hb).bm.bk.cell 11; have z11 := HB6.out.bm.bk.cell 11; have z10 := HB6.out.bm.bk.cell 10; have hl6 := HB6.out.bm.bk.lt; have hl6' := (HB.out.on hb).bm.bk.lt; clear hb)
                        | fail)
                      go_roundw
                      case rel => exact ⟨[y], y - m.gap, _, _, by go_num, rfl, fun h => by simp at h, HF2, HO6, HB6⟩
                      case measure => simp [sliceLen]
                    · go_wp2_with (first
                        | (go_at_call 44; (with_reducible refine (HEl.out _ _ _ _ _ HB.out.l HI.out).mono ?_); rintro e w6 ⟨rfl, hb⟩; have HA6 := Lib.hid ((Below.refl _ w6).alloc (Nat.le_refl _) (.cells #[.int .i64 y] 3)); have HB6 := Lib.hid ((HB.out.on hb).on HA6.out); have HI6 := Lib.hid ((HI.out.on hb).on HA6.out); have hw6 := Nat.le_trans (Nat.le_of_lt HB.out.bm.bk.lt) hb.size; clear z0 z1 z2 z3 z4 z5 z6 z7 z8 z9 z10 z11; have z11' := (HB.out.on hb).bm.bk.cell 11; have hl6' := (HB.out.on hb).bm.bk.lt; have HB7 := Lib.hid (HB.out.on hb); clear hb)
                        | (at_builtin; go_must (refine app_many rfl _ _ rfl (l := [y]) (l2 := l) rfl (own_one w6 y) rfl HI6.out (by omega) (by simp only [List.length_singleton]; omega) (by simp) ?_); intro g cap w7 r1 r2 r3 r4; have HB8 := Lib.hid (HB7.out.on ((HA6.out).trans r2)); have HO8 := Lib.hid (own_base r1 hw6); have z10 := HB8.out.bm.bk.cell 10; have hl8 := HB8.out.bm.bk.lt; clear r1 r2 r3 r4)
                        | fail)
                      go_roundw
                      case rel => exact ⟨y :: l, y - m.gap, _, cap, by go_num, by simp only [List.length_cons]; rw [Nat.add_comm], fun h => by simp at h, HF2, by have h := HO8.out; exact h, HB8⟩
                      case measure => simp only [sliceLen]; omega
        · have HLk : Hid (x = L) := by
            show x = L
            obtain rfl : n = 0 := by omega
            rw [← HLn.out, lastAt]
            omega
          clear hxn
          go_wp2_with fail
          refine wp_of_eq (rf6b_region (m := m) (a := a) (sb := true) (fun W W' h hb => h.on hb) (by omega) HS (Lib.hid fun u6 W6 h6 => ?_)) (by kernel_rfl)
          have H6 := Lib.hid h6
          clear h6
          have HF1 : Hid (FwI m b [] x) := by have h := HF0.out; rw [← HLk.out] at h; exact h
          clear HF0 HLk HLn HTs
          go_wp2_with fail
          go_loopw [8, 9] (fun v p W => ∃ (l : List Int) (x : Int) (A : Option Addr) (c : Nat), v = .int .i64 x ∧ p = .slice A l.length c ∧ (l = [] → A = none ∧ c = 0) ∧ Hid (FwI m b l x) ∧ Hid (IntsOut w.heap.size W p l) ∧ Hid (RfB w m A4 a A5 b W)) (fun _ p _ => 42 - sliceLen p)
          case atStart => exact ⟨[], x, none, 0, rfl, rfl, fun _ => ⟨rfl, rfl⟩, HF1, IntsOut.nil _ _, H6⟩
          case round =>
            obtain ⟨l, y, A, c, rfl, rfl, hnil, HF, HO, HB⟩ := hrel
            clear H6 HF1
            obtain ⟨B1, d1, e1, i1⟩ := HO.out.in_
            cases e1
            have HI := Lib.hid i1
            clear i1
            have HEl := Lib.hid (fun (W : World) (A B : Option Addr) (c d : Nat) => HE.out l (by have := HF.out.len; omega) HF.out.asc HF.out.rng W A B c d)
            have hl40 := HF.out.len
            have hy6 := HF.out.top
            obtain ⟨hd, hhd⟩ : ∃ hd, hollM m b l = hd := ⟨_, rfl⟩
            rw [hhd] at HEl
            have HHD := Lib.hid hhd
            clear hhd
            obtain ⟨z0, z1, z2, z3, z4, z5, z6, z7, z8, z9, z10, z11⟩ := HB.out.bm.cells
            by_cases hle : hd ≤ m.deep
            · have HDn : Hid (fewR m = (l, 0)) := HF.out.done (by rw [HHD.out]; exact hle)
              go_wp2_with (first
                | (go_at_call 44; (with_reducible refine (HEl.out _ _ _ _ _ HB.out.l HI.out).mono ?_); rintro e w6 ⟨rfl, hb⟩; have HB6 := Lib.hid (HB.out.on hb); have HO6 := Lib.hid (own_below HO.out hb); clear z0 z1 z2 z3 z4 z5 z6 z7 z8 z9 z10 z11; have z11 := HB6.out.bm.bk.cell 11; have hl6 := HB6.out.bm.bk.lt; clear hb)
                | fail)
              refine bodyPost_ret (v := .tuple #[.slice A l.length c, .int .i64 0]) (by simp [results, Try.results34, go_sem]) rfl ⟨.slice A l.length c, by rw [HDn.out], by rw [HDn.out]; exact HO6.out, HB6.out.bm.b⟩
            · by_cases hy : y < 0
              · have HDn : Hid (fewR m = ([], 9)) := HF.out.fail (by rw [HHD.out]; exact hle) (.inl hy)
                go_wp2_with (first
                  | (go_at_call 44; (with_reducible refine (HEl.out _ _ _ _ _ HB.out.l HI.out).mono ?_); rintro e w6 ⟨rfl, hb⟩; have HB6 := Lib.hid (HB.out.on hb); clear z0 z1 z2 z3 z4 z5 z6 z7 z8 z9 z10 z11; have z11 := HB6.out.bm.bk.cell 11; have hl6 := HB6.out.bm.bk.lt; clear hb)
                  | fail)
                refine bodyPost_ret (v := .tuple #[.slice none 0 0, .int .i64 9]) (by simp [results, Try.results34, go_sem]) rfl ⟨.slice none 0 0, by rw [HDn.out], by rw [HDn.out]; exact IntsOut.nil _ _, HB6.out.bm.b⟩
              · by_cases h40 : l.length = 40
                · have HDn : Hid (fewR m = ([], 9)) := HF.out.fail (by rw [HHD.out]; exact hle) (.inr h40)
                  have h40' : ((l.length : Int) == 40) = true := by rw [h40]; rfl
                  clear h40
                  clear hnil
                  go_wp2_with (first
                    | (go_at_call 44; (with_reducible refine (HEl.out _ _ _ _ _ HB.out.l HI.out).mono ?_); rintro e w6 ⟨rfl, hb⟩; have HB6 := Lib.hid (HB.out.on hb); clear z0 z1 z2 z3 z4 z5 z6 z7 z8 z9 z10 z11; have z11 := HB6.out.bm.bk.cell 11; have hl6 := HB6.out.bm.bk.lt; clear hb)
                    | fail)
                  refine bodyPost_ret (v := .tuple #[.slice none 0 0, .int .i64 9]) (by simp [results, Try.results34, go_sem]) rfl ⟨.slice none 0 0, by rw [HDn.out], by rw [HDn.out]; exact IntsOut.nil _ _, HB6.out.bm.b⟩
                · have h40' : ((l.length : Int) == 40) = false := by rw [beq_eq_false_iff_ne]; omega
                  have HF2 := Lib.hid (HST.out l y HF.out (by have := HHD.out; omega) (by omega) (by omega))
                  by_cases h0 : l.length = 0
                  · obtain rfl : l = [] := List.length_eq_zero_iff.1 h0
                    obtain ⟨rfl, rfl⟩ := hnil rfl
                    clear h0 h40'
                    rw [List.length_nil] at HEl
                    go_wp2_with (first
                      | (go_at_call 44; (with_reducible refine (HEl.out _ _ _ _ _ HB.out.l HI.out).mono ?_); rintro e w6 ⟨rfl, hb⟩; have HA6 := Lib.hid ((Below.refl _ w6).alloc (Nat.le_refl _) (.cells #[.int .i64 y] 3)); have HB6 := Lib.hid ((HB.out.on hb).on HA6.out); have hw6 := Nat.le_trans (Nat.le_of_lt HB.out.bm.bk.lt) hb.size; have HO6 := Lib.hid (own_base (own_one w6 y) hw6); have hrun := run_app_nil (w6.alloc (.cells #[.int .i64 y] 3)) w6.heap.size; clear z0 z1 z2 z3 z4 z5 z6 z7 z8 z9 z10 z11; have z11' := (HB.out.on hb).bm.bk.cell 11; have z11 := HB6.out.bm.bk.cell 11; have z10 := HB6.out.bm.bk.cell 10; have hl6 := HB6.out.bm.bk.lt; have hl6' := (HB.out.on hb).bm.bk.lt; clear hb)
                      | fail)
                    go_roundw
                    case rel => exact ⟨[y], y - m.gap, _, _, by go_num, rfl, fun h => by simp at h, HF2, HO6, HB6⟩
                    case measure => simp [sliceLen]
                  · go_wp2_with (first
                      | (go_at_call 44; (with_reducible refine (HEl.out _ _ _ _ _ HB.out.l HI.out).mono ?_); rintro e w6 ⟨rfl, hb⟩; have HA6 := Lib.hid ((Below.refl _ w6).alloc (Nat.le_refl _) (.cells #[.int .i64 y] 3)); have HB6 := Lib.hid ((HB.out.on hb).on HA6.out); have HI6 := Lib.hid ((HI.out.on hb).on HA6.out); have hw6 := Nat.le_trans (Nat.le_of_lt HB.out.bm.bk.lt) hb.size; clear z0 z1 z2 z3 z4 z5 z6 z7 z8 z9 z10 z11; have z11' := (HB.out.on hb).bm.bk.cell 11; have hl6' := (HB.out.on hb).bm.bk.lt; have HB7 := Lib.hid (HB.out.on hb); clear hb)
                      | (at_builtin; go_must (refine app_many rfl _ _ rfl (l := [y]) (l2 := l) rfl (own_one w6 y) rfl HI6.out (by omega) (by simp only [List.length_singleton]; omega) (by simp) ?_); intro g cap w7 r1 r2 r3 r4; have HB8 := Lib.hid (HB7.out.on ((HA6.out).trans r2)); have HO8 := Lib.hid (own_base r1 hw6); have z10 := HB8.out.bm.bk.cell 10; have hl8 := HB8.out.bm.bk.lt; clear r1 r2 r3 r4)
                      | fail)
                    go_roundw
                    case rel => exact ⟨y :: l, y - m.gap, _, cap, by go_num, by simp only [List.length_cons]; rw [Nat.add_comm], fun h => by simp at h, HF2, by have h := HO8.out; exact h, HB8⟩
                    case measure => simp only [sliceLen]; omega
  · have HR := Lib.hid (fewR_bad hck)
    have HSt := Lib.hid (fun W => rsets_err (m := m) (show (setsR m).2 = checkM m by unfold setsR; rw [if_pos hck]) W)
    have hz : (checkM m != 0) = true := by simpa using hck
    generalize checkM m = z at *
    go_enter Try.func34, Try.ntmps34
    obtain ⟨z0, z1, z2, z3, z4, z5, z6, z7, z8, z9, z10, z11⟩ := HM.out.cells
    go_wp2_with (first
      | (go_at_call 28; (with_reducible refine (HSt.out _).mono ?_); rintro e w1 ⟨A3, n3, a3, rfl, hb⟩; have H1 := Lib.hid (HM.out.on hb); clear z0 z1 z2 z3 z4 z5 z6 z7 z8 z9 z10 z11; clear hb)
      | fail)
    refine bodyPost_ret (v := .tuple #[.slice none 0 0, .int .i64 z]) (by simp [results, Try.results34, go_sem]) rfl ⟨.slice none 0 0, by rw [HR.out], by rw [HR.out]; exact IntsOut.nil _ _, H1.out.b⟩
end Go.Proofs.Ytljbjcnfkbmjkaa
