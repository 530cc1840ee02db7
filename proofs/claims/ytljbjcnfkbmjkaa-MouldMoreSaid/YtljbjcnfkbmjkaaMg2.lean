/- ref.Cool: contract. -/
import Derived.Test.YtljbjcnfkbmjkaaMg1
import Derived.Test.YtljbjcnfkbmjkaaMe7
namespace Go.Proofs.Ytljbjcnfkbmjkaa
open Go.RowKit Go.Shelf

theorem coolR_bad {m : Md} (h : checkM m ≠ 0) (ps ws : List Int) : coolR m ps ws = ([], checkM m) := if_pos h
theorem coolR_err {m : Md} (h : checkM m = 0) {ps ws : List Int} (h2 : truthE m ps ws ≠ 0) : coolR m ps ws = ([], truthE m ps ws) := by
  unfold coolR
  rw [if_neg (fun h3 => h3 h), if_pos h2]
theorem coolR_ok {m : Md} (h : checkM m = 0) {ps ws : List Int} (h2 : truthE m ps ws = 0) : coolR m ps ws = (afterL m.give ps ws, 0) := by
  unfold coolR
  rw [if_neg (fun h3 => h3 h), if_neg (fun h3 => h3 h2)]
set_option maxRecDepth 100000 in
set_option maxHeartbeats 4000000 in
theorem rcool_any {w : World} (m : Md) {A1 A2 : Option Addr} {c1 c2 : Nat} {ps ws : List Int} (hp : IntsIn w A1 ps) (hq : IntsIn w A2 ws) :
    Calls Try.prog 21 #[.agg #[.int .i64 m.rings, .int .i64 m.give, .int .i64 m.plo, .int .i64 m.phi, .int .i64 m.wlo, .int .i64 m.whi, .int .i64 m.st, .int .i64 m.shrink, .int .i64 m.skin, .int .i64 m.fill, .int .i64 m.gap, .int .i64 m.deep], .agg #[.slice A1 ps.length c1, .slice A2 ws.length c2]] w fun e w' => ∃ v, e = .returned (.tuple #[v, .int .i64 (coolR m ps ws).2]) ∧ IntsOut w.heap.size w' v (coolR m ps ws).1 ∧ Below w.heap.size w w' := by
  have HM : Hid (RtB w m A1 A2 c1 c2 ps ws ((w.alloc (.cells #[.int .i64 m.rings, .int .i64 m.give, .int .i64 m.plo, .int .i64 m.phi, .int .i64 m.wlo, .int .i64 m.whi, .int .i64 m.st, .int .i64 m.shrink, .int .i64 m.skin, .int .i64 m.fill, .int .i64 m.gap, .int .i64 m.deep] 25)).alloc (.cells #[.slice A1 ps.length c1, .slice A2 ws.length c2] 28))) := by
    have hb0 : Below w.heap.size w ((w.alloc (.cells #[.int .i64 m.rings, .int .i64 m.give, .int .i64 m.plo, .int .i64 m.phi, .int .i64 m.wlo, .int .i64 m.whi, .int .i64 m.st, .int .i64 m.shrink, .int .i64 m.skin, .int .i64 m.fill, .int .i64 m.gap, .int .i64 m.deep] 25)).alloc (.cells #[.slice A1 ps.length c1, .slice A2 ws.length c2] 28)) := ((Below.refl _ w).alloc (Nat.le_refl _) _).alloc (by simp) _
    exact ⟨⟨(Blk.new w _ _).alloc _, hb0⟩, Blk.new1 w _ _ _, hp.on hb0, hq.on hb0⟩
  clear hp hq
  have HC := Lib.hid (fun W => rcheck_any m W)
  obtain ⟨c0, c1x, c2x, c3, c4, c5, c6, c7, c8, c9, c10, c11⟩ := HM.out.b0.cells
  by_cases hck : checkM m = 0
  · have hok := checkM_ok.1 hck
    have HT := Lib.hid (fun (W : World) (hp : IntsIn W A1 ps) (hq : IntsIn W A2 ws) => rtruth_any (c1 := c1) (c2 := c2) hok.toMdIn hp hq)
    rw [hck] at HC
    by_cases hte : truthE m ps ws = 0
    · rw [hte] at HT
      have HR := Lib.hid (coolR_ok hck hte)
      have HK := Lib.hid (truthE_ok hok hte)
      have h0 : 0 < ps.length := by rw [HK.out.len]; exact (kR_le hok.toMdIn).1
      have h8 : ps.length ≤ 8 := by rw [HK.out.len]; exact (kR_le hok.toMdIn).2
      have hwl := HK.out.wl
      clear hck hte
      go_enter Try.func21, Try.ntmps21
      go_wp2_with (first
        | (go_at_call 19; (with_reducible refine (HC.out _).mono ?_); rintro e w1 ⟨rfl, hb1⟩; have HM1 := Lib.hid (HM.out.on hb1); clear c0 c1x c2x c3 c4 c5 c6 c7 c8 c9 c10 c11; obtain ⟨c0, c1x, c2x, c3, c4, c5, c6, c7, c8, c9, c10, c11⟩ := HM1.out.b0.cells; have y0 := HM1.out.b1.cell 0; have y1 := HM1.out.b1.cell 1; clear hb1)
        | (go_at_call 56; (with_reducible refine (HT.out _ HM1.out.p HM1.out.q).mono ?_); rintro e w2 ⟨rfl, hb2⟩; have HM2 := Lib.hid (HM1.out.on hb2); clear c0 c1x c2x c3 c4 c5 c6 c7 c8 c9 c10 c11 y0 y1; have y0 := HM2.out.b1.cell 0; have y1 := HM2.out.b1.cell 1; have hl1 := HM2.out.b1.lt; clear hb2)
        | (at_builtin; go_must (refine app_many rfl _ _ rfl (l := []) (l2 := ps) rfl (own_empty w2 w2.heap.size (Nat.le_refl _)) rfl (HM2.out.p.on ((Below.refl _ w2).alloc (Nat.le_refl _) _)) h0 (by simp; omega) (by simp) ?_); intro g cap w4 h1 h2 h3 h4; have HB4 := Lib.hid (((Below.refl _ w2).alloc (Nat.le_refl _) (.cells #[] 3)).trans h2); have HV4 := Lib.hid h1; clear h1 h2 h3 h4)
        | fail)
      have HM4 := Lib.hid (HM2.out.on HB4.out)
      have HV : Hid (IntsOut w.heap.size w4 (.slice (some ⟨g, 0, none⟩) ps.length cap) (afterL m.give ps (ws.take 0))) := show IntsOut w.heap.size w4 _ ps from own_base (show IntsOut w2.heap.size w4 (.slice (some ⟨g, 0, none⟩) ps.length cap) ps by simpa using HV4.out) HM2.out.b0.b.size
      clear HV4 HB4 HM2 HM1 y0 y1 hl1 HC HT
      go_loopw [7, 8] (fun x i W => ∃ k : Nat, k ≤ ws.length ∧ i = .int .i64 k ∧ Hid (IntsOut w.heap.size W x (afterL m.give ps (ws.take k))) ∧ Hid (RtB w m A1 A2 c1 c2 ps ws W)) (fun _ i _ => ws.length - (intOf i).toNat)
      case atStart => exact ⟨0, by omega, rfl, HV, HM4⟩
      case round =>
        obtain ⟨k, hk, rfl, HX, HB⟩ := hrel
        clear HV HM4
        have y1 := HB.out.b1.cell 1
        have hl1 := HB.out.b1.lt
        have hl0 := HB.out.b0.bk.lt
        by_cases hlt : k < ws.length
        · have hlt' : (k : Int) < ws.length := by omega
          obtain ⟨x, hx⟩ : ∃ x, ws[k]? = some x := ⟨ws[k], List.getElem?_eq_getElem hlt⟩
          obtain ⟨bb, of, rfl, hbb, cx⟩ := ints_at HB.out.q.at_ hx
          have HN := Lib.hid (afterL_take (g := m.give) (l := ps) hx)
          have hin : ∀ y ∈ afterL m.give ps (ws.take k), 0 ≤ y ∧ y ≤ 2000 := afterL_in HK.out.ok.give (fun y hy => by
            have h1 := HK.out.q y (List.mem_of_mem_take hy); have h2 := HK.out.ok.wlo; have h3 := HK.out.ok.whi; omega) (fun y hy => by
            have h1 := HK.out.p y hy; have h2 := HK.out.ok.plo; have h3 := HK.out.ok.phi; omega)
          have hxin : 0 ≤ x ∧ x ≤ 2000 := by
            have h1 := HK.out.q x (List.mem_of_getElem? hx); have h2 := HK.out.ok.wlo; have h3 := HK.out.ok.whi; omega
          obtain ⟨A3, c3', rfl, hi3⟩ := HX.out.in_
          have hll : (afterL m.give ps (ws.take k)).length = ps.length := afterL_length _ _ _
          have HL := Lib.hid (rnext_any (w := wr.drew) (c := c3') HK.out.ok.toMdIn (hi3.on (Below.refl _ _).drew) hin (by rw [hll]; omega) hxin)
          rw [hll] at HL
          rw [hll]
          obtain ⟨c0, c1x, c2x, c3, c4, c5, c6, c7, c8, c9, c10, c11⟩ := HB.out.b0.cells
          clear hx hin hxin HX hi3 hll
          go_wp2_with fail
          go_region_law (first
            | (go_simp; refine HL.out.mono ?_; rintro e w5 ⟨v5, rfl, hv5, hb5⟩; have HB5 := Lib.hid ((HB.out.on (Below.refl _ _).drew).on hb5); have HV5 := Lib.hid (own_base hv5 (show w.heap.size ≤ wr.drew.heap.size from HB.out.b0.b.size)); clear hv5 hb5)
            | fail)
          all_goals go_wp2_with fail
          all_goals go_roundw
          case rel => exact ⟨k + 1, Nat.succ_le_of_lt hlt, by go_num, by rw [HN.out]; exact HV5, HB5⟩
          case measure => exact meas_one hlt
          case rel => exact ⟨k + 1, Nat.succ_le_of_lt hlt, by go_num, by rw [HN.out]; exact HV5, HB5⟩
          case measure => exact meas_one hlt
          case rel => exact ⟨k + 1, Nat.succ_le_of_lt hlt, by go_num, by rw [HN.out]; exact HV5, HB5⟩
          case measure => exact meas_one hlt
        · obtain rfl : k = ws.length := by omega
          have hn2 : ¬ ((ws.length : Int) < ws.length) := by omega
          have hxo := HX.out
          rw [List.take_of_length_le (Nat.le_refl _)] at hxo
          have HXO := Lib.hid hxo
          clear hxo HX
          go_wp2_with fail
          refine bodyPost_ret (v := .tuple #[u7, .int .i64 0]) (by simp [results, Try.results21, go_sem]) rfl ⟨u7, by rw [HR.out], by rw [HR.out]; exact HXO.out, HB.out.b0.b⟩
    · have HR := Lib.hid (coolR_err hck hte)
      have hz : (truthE m ps ws != 0) = true := by simpa using hte
      generalize truthE m ps ws = z at *
      clear hck
      go_enter Try.func21, Try.ntmps21
      go_wp2_with (first
        | (go_at_call 19; (with_reducible refine (HC.out _).mono ?_); rintro e w1 ⟨rfl, hb1⟩; have HM1 := Lib.hid (HM.out.on hb1); clear c0 c1x c2x c3 c4 c5 c6 c7 c8 c9 c10 c11; obtain ⟨c0, c1x, c2x, c3, c4, c5, c6, c7, c8, c9, c10, c11⟩ := HM1.out.b0.cells; have y0 := HM1.out.b1.cell 0; have y1 := HM1.out.b1.cell 1; clear hb1)
        | (go_at_call 56; (with_reducible refine (HT.out _ HM1.out.p HM1.out.q).mono ?_); rintro e w2 ⟨rfl, hb2⟩; have HM2 := Lib.hid (HM1.out.on hb2); clear hb2)
        | fail)
      refine bodyPost_ret (v := .tuple #[.slice none 0 0, .int .i64 z]) (by simp [results, Try.results21, go_sem]) rfl ⟨.slice none 0 0, by rw [HR.out], by rw [HR.out]; exact IntsOut.nil _ _, HM2.out.b0.b⟩
  · have HR := Lib.hid (coolR_bad hck ps ws)
    have hz : (checkM m != 0) = true := by simpa using hck
    have hz2 : (checkM m == 0) = false := by simpa using hck
    generalize checkM m = z at *
    go_enter Try.func21, Try.ntmps21
    go_wp2_with (first
      | (go_at_call 19; (with_reducible refine (HC.out _).mono ?_); rintro e w1 ⟨rfl, hb1⟩; have HM1 := Lib.hid (HM.out.on hb1); clear hb1)
      | fail)
    refine bodyPost_ret (v := .tuple #[.slice none 0 0, .int .i64 z]) (by simp [results, Try.results21, go_sem]) rfl ⟨.slice none 0 0, by rw [HR.out], by rw [HR.out]; exact IntsOut.nil _ _, HM1.out.b0.b⟩
end Go.Proofs.Ytljbjcnfkbmjkaa
