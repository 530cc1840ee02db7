/- ref.Sets: contract. -/
import Derived.Test.YtljbjcnfkbmjkaaGg
import Derived.Test.YtljbjcnfkbmjkaaMg5
namespace Go.Proofs.Ytljbjcnfkbmjkaa
open Go.RowKit Go.Shelf
attribute [local go_sem] Oper.semAt_some

theorem rnever_at {l : List Int} {k : Nat} {y : Int} (hy : l[k]? = some y) (h : y < 0) : never l = true := by
  unfold never
  rw [List.any_eq_true]
  exact ⟨y, List.mem_of_getElem? hy, by simpa using h⟩
theorem rnever_all {l : List Int} (h : ∀ (k : Nat) (y : Int), l[k]? = some y → 0 ≤ y) : never l = false := by
  unfold never
  rw [List.any_eq_false]
  intro y hy
  obtain ⟨k, hk⟩ := List.getElem?_of_mem hy
  have := h k y hk
  simp; omega
theorem rsetsR_ok {m : Md} (h : checkM m = 0) : setsR m = if never (wh m true) = true then ([], 9) else (zipS (wh m false) (wh m true), 0) := by
  unfold setsR
  rw [if_neg (fun h2 => h2 h)]
set_option maxRecDepth 100000 in
set_option maxHeartbeats 8000000 in
theorem rsets_any (m : Md) (w : World) :
    Calls Try.prog 28 #[.agg #[.int .i64 m.rings, .int .i64 m.give, .int .i64 m.plo, .int .i64 m.phi, .int .i64 m.wlo, .int .i64 m.whi, .int .i64 m.st, .int .i64 m.shrink, .int .i64 m.skin, .int .i64 m.fill, .int .i64 m.gap, .int .i64 m.deep]] w fun e w' => ∃ v, e = .returned (.tuple #[v, .int .i64 (setsR m).2]) ∧ SpansOut w.heap.size w' v (setsR m).1 ∧ Below w.heap.size w w' := by
  have HM := Lib.hid (MdBk.new w 25 m)
  have HC := Lib.hid (fun W => rcheck_any m W)
  obtain ⟨c0, c1, c2, c3, c4, c5, c6, c7, c8, c9, c10, c11⟩ := HM.out.cells
  by_cases hck : checkM m = 0
  · rw [hck] at HC
    have hok := checkM_ok.1 hck
    have HR := Lib.hid (rsetsR_ok hck)
    have HE := Lib.hid (show ∀ W : World, Calls Try.prog 69 #[.agg #[.int .i64 m.rings, .int .i64 m.give, .int .i64 m.plo, .int .i64 m.phi, .int .i64 m.wlo, .int .i64 m.whi, .int .i64 m.st, .int .i64 m.shrink, .int .i64 m.skin, .int .i64 m.fill, .int .i64 m.gap, .int .i64 m.deep]] W fun e w' => ∃ A c A2 c2, e = .returned (.tuple #[.slice A (kR m) c, .slice A2 (kR m) c2]) ∧ IntsIn w' A (wh m false) ∧ IntsIn w' A2 (wh m true) ∧ Below W.heap.size W w' from
        fun W => (rends_any m hok W).mono fun e w' ⟨v, e1, A, c, A2, c2, e2, h⟩ => ⟨A, c, A2, c2, by rw [e1, e2], h⟩)
    have HK := Lib.hid (kR_eq hok.toMdIn)
    have HK8 := Lib.hid (kR_le hok.toMdIn)
    have HLA := Lib.hid (wh_length m false)
    have HLB := Lib.hid (wh_length m true)
    generalize wh m false = ca at *
    generalize wh m true = ha at *
    clear hck hok
    go_enter Try.func28, Try.ntmps28
    go_wp2_with (first
        | (go_at_call 19; (with_reducible refine (HC.out _).mono ?_); rintro e w1 ⟨rfl, hb1⟩; have HM1 := Lib.hid (HM.out.on hb1); clear c0 c1 c2 c3 c4 c5 c6 c7 c8 c9 c10 c11; obtain ⟨c0, c1, c2, c3, c4, c5, c6, c7, c8, c9, c10, c11⟩ := HM1.out.cells; clear hb1)
        | (go_at_call 69; (with_reducible refine (HE.out _).mono ?_); rintro e w3 ⟨A, c, A2, d, rfl, i1, i2, hb⟩; have HS0 : Hid (RwB w m A A2 ca ha w3.heap.size (.slice none 0 0) 0 w3) := ⟨HM1.out.on hb, i1.at_, i2.at_, by simpa using SpansOut.nil _ _, by have h1 := HM1.out.bk.lt; have h2 := hb.size; omega, Nat.le_refl _⟩; clear hb i1 i2 c0 c1 c2 c3 c4 c5 c6 c7 c8 c9 c10 c11 HM1)
        | fail)
    generalize hB : w3.heap.size = B at *
    clear hB
    go_loopw [7, 8] (fun v i W => ∃ k : Nat, k ≤ kR m ∧ i = .int .i64 k ∧ Hid (∀ (q : Nat) (y : Int), q < k → ha[q]? = some y → 0 ≤ y) ∧ Hid (RwB w m A A2 ca ha B v k W)) (fun _ i _ => kR m - (intOf i).toNat)
    case atStart => exact ⟨0, Nat.zero_le _, rfl, fun q y h => absurd h (by omega), HS0⟩
    case round =>
      obtain ⟨k, hk, rfl, HP, HS⟩ := hrel
      clear HS0
      have c0 := HS.out.b0.bk.cell 0
      rw [← HK.out] at c0
      by_cases hlt : k < kR m
      · have hlt' : (k : Int) < kR m := by omega
        have hk8 : k < 8 := by have := HK8.out; omega
        obtain ⟨x, hx⟩ : ∃ x, ca[k]? = some x := ⟨ca[k]'(by rw [HLA.out]; exact hlt), List.getElem?_eq_getElem _⟩
        obtain ⟨y, hy⟩ : ∃ y, ha[k]? = some y := ⟨ha[k]'(by rw [HLB.out]; exact hlt), List.getElem?_eq_getElem _⟩
        obtain ⟨b1, o1, rfl, hb1, cx⟩ := ints_at HS.out.c hx
        obtain ⟨b2, o2, rfl, hb2, cy⟩ := ints_at HS.out.h hy
        have HZ := Lib.hid (zip_take hx hy)
        have HY := Lib.hid hy
        have HO := Lib.hid HS.out.own
        have hlen : ((zipS ca ha).take k).length = k := by rw [List.length_take, zip_length (HLA.out.trans HLB.out.symm), HLA.out]; omega
        obtain ⟨A4, c4, rfl⟩ := own_slice HS.out.own
        rw [hlen]
        have hszB := HS.out.sz
        have HL : Hid (∀ W, Below B wr W → W.cell? ⟨b1, o1 + k, none⟩ = some (.int .i64 x) ∧ W.cell? ⟨b2, o2 + k, none⟩ = some (.int .i64 y) ∧ Below B wr W) :=
          Lib.hid fun W hb => ⟨(hb.cell (p := ⟨b1, o1 + k, none⟩) hb1).trans cx, (hb.cell (p := ⟨b2, o2 + k, none⟩) hb2).trans cy, hb⟩
        clear hx hy
        by_cases hy0 : y < 0
        · have HN0 := Lib.hid (rnever_at HY.out hy0)
          go_wp2_with fail
          refine bodyPost_ret (v := .tuple #[.slice none 0 0, .int .i64 9]) (by simp [results, Try.results28, go_sem]) rfl ⟨.slice none 0 0, by rw [HR.out, if_pos HN0.out], by rw [HR.out, if_pos HN0.out]; exact SpansOut.nil _ _, HS.out.b0.b⟩
        · have hy1 : 0 ≤ y := by omega
          go_wp2_with fail
          go_region_held3 (fun W => W.cell? ⟨b1, o1 + k, none⟩ = some (.int .i64 x) ∧ W.cell? ⟨b2, o2 + k, none⟩ = some (.int .i64 y) ∧ Below B wr W)
            (exact HL.out _ (by repeat (first | assumption | exact Below.refl _ _ | (with_reducible apply Below.drew) | (with_reducible refine Below.alloc ?_ (by first | omega | (simp; omega)) _) | (with_reducible apply below_drewN') | exact Below.trans (by repeat (first | exact Below.refl _ _ | (with_reducible apply Below.drew) | (with_reducible refine Below.alloc ?_ (by first | omega | (simp; omega)) _) | (with_reducible apply below_drewN'))) hbN)))
            (first | (refine apps_step rfl _ _ rfl (l := (zipS ca ha).take k) (by rw [hlen]; rfl) (own_below HO.out (by repeat (first | exact Below.refl _ _ | (with_reducible apply Below.drew) | (with_reducible refine Below.alloc ?_ (by first | exact Nat.le_refl _ | (simp; done)) _) | (with_reducible apply below_drewN')))) x y (by rfl) (Blk.new _ _ _) (by rw [hlen]; omega) (by simp; omega) ?_; rw [hlen]; intro g cap w1 hown1 hbN hgr1 hgb1) | fail)
          have HBN : Hid (Below B wr w1) := Below.trans (by repeat (first | exact Below.refl _ _ | (with_reducible apply Below.drew) | (with_reducible refine Below.alloc ?_ (by first | omega | (simp; omega)) _) | (with_reducible apply below_drewN'))) hbN
          have HN := Lib.hid (HS.out.next HBN.out (by rw [HZ.out]; exact hown1))
          have HP2 : Hid (∀ (q : Nat) (z : Int), q < k + 1 → ha[q]? = some z → 0 ≤ z) := Lib.hid fun q z hq hz => by
            rcases Nat.lt_or_ge q k with h | h
            · exact HP.out q z h hz
            · obtain rfl : q = k := by omega
              have h2 := HY.out
              rw [hz] at h2
              cases h2
              exact hy1
          clear hown1 hbN hgr1 hgb1
          go_wp2_with fail
          go_roundw
          case rel => exact ⟨k + 1, Nat.succ_le_of_lt hlt, by go_num, HP2, HN⟩
          case measure => exact meas_one hlt
      · obtain rfl : k = kR m := by omega
        have hn2 : ¬ ((kR m : Int) < kR m) := by omega
        have HN0 : Hid (never ha = false) := rnever_all fun q y hy => HP.out q y (by have := (List.getElem?_eq_some_iff.1 hy).1; have := HLB.out; omega) hy
        have hxo := HS.out.own
        rw [List.take_of_length_le (by rw [zip_length (HLA.out.trans HLB.out.symm), HLA.out]; exact Nat.le_refl _)] at hxo
        go_wp2_with fail
        refine bodyPost_ret (v := .tuple #[u7, .int .i64 0]) (by simp [results, Try.results28, go_sem]) rfl ⟨u7, by rw [HR.out, if_neg (by rw [HN0.out]; decide)], by rw [HR.out, if_neg (by rw [HN0.out]; decide)]; exact own_base hxo (Nat.le_of_lt HS.out.lw), HS.out.b0.b⟩
  · have HR : Hid (setsR m = ([], checkM m)) := if_pos hck
    have hz : (checkM m != 0) = true := by simpa using hck
    generalize checkM m = z at *
    go_enter Try.func28, Try.ntmps28
    go_wp2_with (first
        | (go_at_call 19; (with_reducible refine (HC.out _).mono ?_); rintro e w1 ⟨rfl, hb1⟩; have HM1 := Lib.hid (HM.out.on hb1); clear c0 c1 c2 c3 c4 c5 c6 c7 c8 c9 c10 c11; obtain ⟨c0, c1, c2, c3, c4, c5, c6, c7, c8, c9, c10, c11⟩ := HM1.out.cells; clear hb1)
        | fail)
    refine bodyPost_ret (v := .tuple #[.slice none 0 0, .int .i64 z]) (by simp [results, Try.results28, go_sem]) rfl ⟨.slice none 0 0, by rw [HR.out], by rw [HR.out]; exact SpansOut.nil _ _, HM1.out.b⟩
end Go.Proofs.Ytljbjcnfkbmjkaa
