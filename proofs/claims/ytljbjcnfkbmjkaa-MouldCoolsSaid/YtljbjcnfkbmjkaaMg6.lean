/- ref.Warm: contract. -/
import Derived.Test.YtljbjcnfkbmjkaaMg5
namespace Go.Proofs.Ytljbjcnfkbmjkaa
open Go.RowKit Go.Shelf
attribute [local go_sem] Oper.semAt_some

set_option maxRecDepth 100000 in
set_option maxHeartbeats 8000000 in
theorem rWarm_any (m : Md) (n : Int) (w : World) :
    Calls Try.prog 24 #[.agg #[.int .i64 m.rings, .int .i64 m.give, .int .i64 m.plo, .int .i64 m.phi, .int .i64 m.wlo, .int .i64 m.whi, .int .i64 m.st, .int .i64 m.shrink, .int .i64 m.skin, .int .i64 m.fill, .int .i64 m.gap, .int .i64 m.deep], .int .i64 n] w fun e w' => ∃ v, e = .returned (.tuple #[v, .int .i64 (warmR m n).2]) ∧ SpansOut w.heap.size w' v (warmR m n).1 ∧ Below w.heap.size w w' := by
  have HM := Lib.hid (MdBk.new w 25 m)
  have HC := Lib.hid (fun W => rcheck_any m W)
  obtain ⟨c0, c1, c2, c3, c4, c5, c6, c7, c8, c9, c10, c11⟩ := HM.out.cells
  by_cases hck : checkM m = 0
  · rw [hck] at HC
    have hok := checkM_ok.1 hck
    cases hin : inB n 0 600 with
    | true =>
      have hn := inB_iff.1 hin
      obtain ⟨N, rfl⟩ : ∃ N : Nat, n = N := ⟨n.toNat, by omega⟩
      have hN : N ≤ 600 := by omega
      have HR : Hid (warmR m N = (zipS (warmL m false N) (warmL m true N), 0)) := by
        show warmR m N = _
        unfold warmR
        rw [if_neg (fun h => h hck), if_pos hin]; rfl
      have HI := Lib.hid (fun W => rin_any (N : Int) 0 600 W)
      rw [hin] at HI
      clear hin hn hck
      go_enter Try.func24, Try.ntmps24
      go_wp2_with (first
        | (go_at_call 19; (with_reducible refine (HC.out _).mono ?_); rintro e w1 ⟨rfl, hb1⟩; have HM1 := Lib.hid (HM.out.on hb1); clear c0 c1 c2 c3 c4 c5 c6 c7 c8 c9 c10 c11; obtain ⟨c0, c1, c2, c3, c4, c5, c6, c7, c8, c9, c10, c11⟩ := HM1.out.cells; clear hb1)
        | (go_at_call 51; refine (HI.out _).mono ?_; rintro e w2 ⟨rfl, hw2⟩; rw [hw2]; clear hw2)
        | fail)
      refine wp_of_eq (wm_r6 hok hN HM1 (fun _ _ _ _ _ _ _ _ A c W6 hb6 i6 => ?_)) (by kernel_rfl)
      have HM6 := Lib.hid (HM1.out.on hb6)
      have I6 := Lib.hid i6
      clear HM1 hb6 i6 c0 c1 c2 c3 c4 c5 c6 c7 c8 c9 c10 c11
      go_wp2_with fail
      refine wp_of_eq (wm_r7 hok hN HM6 (fun _ _ _ _ _ _ _ _ A2 c2 W7 hb7 i7 => ?_)) (by kernel_rfl)
      have HS0 : Hid (RwB w m A A2 (warmL m false N) (warmL m true N) W7.heap.size (.slice none 0 0) 0 W7) := ⟨HM6.out.on hb7, (I6.out.on hb7).at_, i7.at_, by simpa using SpansOut.nil _ _, by have h1 := HM6.out.bk.lt; have h2 := hb7.size; omega, Nat.le_refl _⟩
      have HK := Lib.hid (kR_eq hok.toMdIn)
      have HK8 := Lib.hid (kR_le hok.toMdIn)
      have hla := warmL_length m false N
      have hlb := warmL_length m true N
      clear HM6 I6 i7 hb7 hok HI hN
      generalize hca : warmL m false N = ca at *
      generalize hha : warmL m true N = ha at *
      generalize hB : W7.heap.size = B at *
      rw [hla, hlb]
      have HLA := Lib.hid hla
      have HLB := Lib.hid hlb
      clear hla hlb hca hha hB
      go_wp2_with fail
      go_loopw [11, 12] (fun v i W => ∃ k : Nat, k ≤ kR m ∧ i = .int .i64 k ∧ Hid (RwB w m A A2 ca ha B v k W)) (fun _ i _ => kR m - (intOf i).toNat)
      case atStart => exact ⟨0, Nat.zero_le _, rfl, HS0⟩
      case round =>
        obtain ⟨k, hk, rfl, HS⟩ := hrel
        clear HS0
        have c0 := HS.out.b0.bk.cell 0
        rw [← HK.out] at c0
        by_cases hlt : k < kR m
        · have hlt' : (k : Int) < kR m := by omega
          have hk8 : k < 8 := by have := HK8.out; omega
          obtain ⟨x, hx⟩ : ∃ x, ca[k]? = some x := ⟨ca[k]'(by rw [HLA.out]; exact hlt), List.getElem?_eq_getElem _⟩
          obtain ⟨y, hy⟩ : ∃ y, ha[k]? = some y := ⟨ha[k]'(by rw [HLB.out]; exact hlt), List.getElem?_eq_getElem _⟩
          obtain ⟨b1, o1, rfl, hb1, cx⟩ := ints_at HS.out.c hx
          obtain ⟨b2, o2, rfl, hb2, cy⟩ := ints_at HS.out.h hy
          have HZ := Lib.hid (zip_take hx hy)
          have HO := Lib.hid HS.out.own
          have hlen : ((zipS ca ha).take k).length = k := by rw [List.length_take, zip_length (HLA.out.trans HLB.out.symm), HLA.out]; omega
          obtain ⟨A4, c4, rfl⟩ := own_slice HS.out.own
          rw [hlen]
          have hszB := HS.out.sz
          have HL : Hid (∀ W, Below B wr W → W.cell? ⟨b1, o1 + k, none⟩ = some (.int .i64 x) ∧ W.cell? ⟨b2, o2 + k, none⟩ = some (.int .i64 y) ∧ Below B wr W) :=
            Lib.hid fun W hb => ⟨(hb.cell (p := ⟨b1, o1 + k, none⟩) hb1).trans cx, (hb.cell (p := ⟨b2, o2 + k, none⟩) hb2).trans cy, hb⟩
          clear hx hy
          go_wp2_with fail
          go_region_held3 (fun W => W.cell? ⟨b1, o1 + k, none⟩ = some (.int .i64 x) ∧ W.cell? ⟨b2, o2 + k, none⟩ = some (.int .i64 y) ∧ Below B wr W)
            (exact HL.out _ (by repeat (first | assumption | exact Below.refl _ _ | (with_reducible apply Below.drew) | (with_reducible refine Below.alloc ?_ (by first | omega | (simp; omega)) _) | (with_reducible apply below_drewN') | exact Below.trans (by repeat (first | exact Below.refl _ _ | (with_reducible apply Below.drew) | (with_reducible refine Below.alloc ?_ (by first | omega | (simp; omega)) _) | (with_reducible apply below_drewN'))) hbN)))
            (first | (refine apps_step rfl _ _ rfl (l := (zipS ca ha).take k) (by rw [hlen]; rfl) (own_below HO.out (by repeat (first | exact Below.refl _ _ | (with_reducible apply Below.drew) | (with_reducible refine Below.alloc ?_ (by first | exact Nat.le_refl _ | (simp; done)) _) | (with_reducible apply below_drewN')))) x y (by rfl) (Blk.new _ _ _) (by rw [hlen]; omega) (by simp; omega) ?_; rw [hlen]; intro g cap w1 hown1 hbN hgr1 hgb1) | fail)
          have HBN : Hid (Below B wr w1) := Below.trans (by repeat (first | exact Below.refl _ _ | (with_reducible apply Below.drew) | (with_reducible refine Below.alloc ?_ (by first | omega | (simp; omega)) _) | (with_reducible apply below_drewN'))) hbN
          have HN := Lib.hid (HS.out.next HBN.out (by rw [HZ.out]; exact hown1))
          clear hown1 hbN hgr1 hgb1
          go_wp2_with fail
          go_roundw
          case rel => exact ⟨k + 1, Nat.succ_le_of_lt hlt, by go_num, HN⟩
          case measure => exact meas_one hlt
        · obtain rfl : k = kR m := by omega
          have hn2 : ¬ ((kR m : Int) < kR m) := by omega
          have hxo := HS.out.own
          rw [List.take_of_length_le (by rw [zip_length (HLA.out.trans HLB.out.symm), HLA.out]; exact Nat.le_refl _)] at hxo
          go_wp2_with fail
          refine bodyPost_ret (v := .tuple #[u11, .int .i64 0]) (by simp [results, Try.results24, go_sem]) rfl ⟨u11, by rw [HR.out], by rw [HR.out]; exact own_base hxo (Nat.le_of_lt HS.out.lw), HS.out.b0.b⟩
    | false =>
      have HR : Hid (warmR m n = ([], 7)) := by
        show warmR m n = _
        unfold warmR
        rw [if_neg (fun h => h hck), if_neg (by rw [hin]; decide)]
      have HI := Lib.hid (fun W => rin_any n 0 600 W)
      rw [hin] at HI
      clear hin hck
      go_enter Try.func24, Try.ntmps24
      go_wp2_with (first
        | (go_at_call 19; (with_reducible refine (HC.out _).mono ?_); rintro e w1 ⟨rfl, hb1⟩; have HM1 := Lib.hid (HM.out.on hb1); clear hb1)
        | (go_at_call 51; refine (HI.out _).mono ?_; rintro e w2 ⟨rfl, hw2⟩; rw [hw2]; clear hw2)
        | fail)
      refine bodyPost_ret (v := .tuple #[.slice none 0 0, .int .i64 7]) (by simp [results, Try.results24, go_sem]) rfl ⟨.slice none 0 0, by rw [HR.out], by rw [HR.out]; exact SpansOut.nil _ _, HM1.out.b⟩
  · have HR : Hid (warmR m n = ([], checkM m)) := if_pos hck
    have hz : (checkM m != 0) = true := by simpa using hck
    have hz2 : (checkM m == 0) = false := by simpa using hck
    generalize checkM m = z at *
    go_enter Try.func24, Try.ntmps24
    go_wp2_with (first
      | (go_at_call 19; (with_reducible refine (HC.out _).mono ?_); rintro e w1 ⟨rfl, hb1⟩; have HM1 := Lib.hid (HM.out.on hb1); clear hb1)
      | fail)
    refine bodyPost_ret (v := .tuple #[.slice none 0 0, .int .i64 z]) (by simp [results, Try.results24, go_sem]) rfl ⟨.slice none 0 0, by rw [HR.out], by rw [HR.out]; exact SpansOut.nil _ _, HM1.out.b⟩
end Go.Proofs.Ytljbjcnfkbmjkaa
