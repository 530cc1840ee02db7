/- ref02.Check: contract. -/
import Derived.Test.YtalghiecjhfflaaZD
import Derived.LoopIn
namespace Go.Proofs.Ytalghiecjhfflaa
open Go.RowKit Go.Shelf Go.Maps
attribute [local go_sem] Oper.semAt_some


set_option maxRecDepth 100000 in
set_option maxHeartbeats 4000000 in
theorem rcheck_any {w : World} {A : Option Addr} {c : Nat} {l : List Bw} (h : BwsIn w A l) :
    Calls Try.prog 16 #[.slice A l.length c] w fun e w' => e = .returned (.tuple #[.int .i64 (checkB l).1, .int .i64 (checkB l).2.1, .int .i64 (checkB l).2.2]) ∧ Below w.heap.size w w' := by
  obtain ⟨R, hR⟩ : ∃ R, R = checkB l := ⟨_, rfl⟩
  rw [← hR]
  have HR := Lib.hid hR
  have hlen := h.len
  have H0 := Lib.hid h
  clear h hR
  cases hq : inB l.length 1 5 with
  | false =>
    have HP1 := Lib.hid hq
    have HRR : Hid (R = (1, 0, 3)) := by
      show R = _
      rw [HR.out]; unfold checkB; rw [if_neg (by rw [hq]; decide)]
    clear hq
    go_enter Try.func16, Try.ntmps16
    go_wp2_with (first
      | (go_at_call 50; (with_reducible refine (rinB_any _ _ _ _).mono ?_); rintro e w' ⟨rfl, hw⟩; rw [hw]; clear hw; rw [HP1.out])
      | fail)
    go_ret3
    exact ⟨ret3 HRR.out, Below.refl _ _⟩
  | true =>
    have HQ1 := Lib.hid hq
    have HP1 := Lib.hid hq
    have h5 := (inB_iff.1 hq).2
    clear hq
    go_enter Try.func16, Try.ntmps16
    go_wp2_with (first
      | (go_at_call 50; (with_reducible refine (rinB_any _ _ _ _).mono ?_); rintro e w' ⟨rfl, hw⟩; rw [hw]; clear hw; rw [HP1.out])
      | fail)
    clear HP1
    go_loopw [5, 6] (fun v i wr => ∃ k : Nat, k ≤ l.length ∧ i = .int .i64 k ∧ Hid (CkN w wr v ((l.take k).map Bw.nm)) ∧ Hid (∀ i, i < k → bwE l i = 0)) (fun _ i _ => l.length - (intOf i).toNat)
    case atStart => exact ⟨0, by omega, rfl, ⟨World.ownsRow_nil _ _ _ _, Below.refl _ _⟩, fun i hi => absurd hi (by omega)⟩
    case round =>
      obtain ⟨k, hk, rfl, HK, HN⟩ := hrel
      have hll : ((l.take k).map Bw.nm).length = k := by simp; omega
      obtain ⟨V, vc, hv⟩ := own_slice HK.out.own
      rw [hll] at hv
      subst hv
      by_cases hlt : k < l.length
      · obtain ⟨x, hx⟩ : ∃ x, l[k]? = some x := ⟨l[k], List.getElem?_eq_getElem hlt⟩
        obtain ⟨b, o, hA, _⟩ := (H0.out.on HK.out.bel).get hx
        have s2 := HK.out.own.reads.2.1
        have s4 := HK.out.own.reads.2.2.2
        have HX0 := Lib.hid hx
        have HX := Lib.hid (fun (W : World) (hW : Below w.heap.size w W) => wax_at (H0.out.on hW) hA hx)
        have HX4 := Lib.hid (fun (W : World) (hW : Below w.heap.size w W) => (⟨(HX.out W hW).2.2.1, (HX.out W hW).2.2.2.1, (HX.out W hW).2.2.2.2.1, (HX.out W hW).2.2.2.2.2.1⟩ : W.cell? ⟨b, o + k * 7 + 2, none⟩ = some (.int .i64 x.mlo) ∧ W.cell? ⟨b, o + k * 7 + 3, none⟩ = some (.int .i64 x.mhi) ∧ W.cell? ⟨b, o + k * 7 + 4, none⟩ = some (.int .i64 x.slo) ∧ W.cell? ⟨b, o + k * 7 + 5, none⟩ = some (.int .i64 x.shi)))
        have HV := Lib.hid (fun (W : World) (hW : Below w.heap.size w W) => rcurve_any (c := x.cc) ((H0.out.cv x (List.mem_of_getElem? hx)).on hW))
        have HSP := Lib.hid (fun W => rspans_any (x.mlo, x.mhi) (x.slo, x.shi) W)
        have HP := Lib.hid (bwE_at hx)
        have HA : Hid (Calls Try.prog 51 #[.string x.nm, .slice V k vc] wr fun e w' => e = .returned (.int .i64 (nameErr ((l.take k).map Bw.nm) x.nm)) ∧ w' = wr) := by
          have := rnamed_any (w := wr) (c := vc) x.nm (H0.out.nm x (List.mem_of_getElem? hx)) s2 (by unfold maxLen at s4; omega)
          rwa [hll] at this
        have HL := Lib.hid hll
        obtain ⟨c0, -, -, -, -, -, -⟩ := HX.out wr HK.out.bel
        have ie := wxErr_in x
        have hki : (k : Int) < l.length := by omega
        have hkm : k < 1000000 := by omega
        rw [hA]
        clear hx s2 s4 hll hA
        generalize nameErr ((l.take k).map Bw.nm) x.nm = z at *
        have HW : Hid (wxErr x = sp2E (spanErr (x.mlo, x.mhi) 0 2000) (spanErr (x.slo, x.shi) 0 1000)) := rfl
        rw [← HW.out] at HSP
        generalize wxErr x = e0 at *
        generalize cvE x.cv = e1 at *
        by_cases hz : z = 0
        · subst hz
          cases hin : inB x.pr 0 100000 with
          | false =>
            have HP1 := Lib.hid hin
            have HRR : Hid (R = (2, (k : Int), 7)) := by
              have hq : bwE l k = 7 := by rw [HP.out, hin]; simp
              show R = _
              rw [HR.out]
              unfold checkB
              rw [if_pos HQ1.out, firstAt_hit (k := k) HN.out hlt (by rw [hq]; decide), hq]
            clear HP
            clear hin
            go_wp2_with (first
              | (go_at_call 51; (refine HA.out.mono ?_); rintro e w9 ⟨rfl, hw⟩; rw [hw]; clear hw)
              | (at_builtin; go_must (refine app_strs rfl _ _ rfl (l := (l.take k).map Bw.nm) rfl (own_below HK.out.own ((Below.refl _ wr).alloc (Nat.le_refl _) _)) x.nm rfl (Blk.newat rfl) (by rw [HL.out]; exact hkm) (by have := HK.out.bel.size; simp; omega) ?_); intro g cap w2 h1 h2 _; simp only [HL.out] at h1 ⊢; have HK2 : Hid (CkN w w2 _ _) := Lib.hid ⟨h1, (HK.out.bel.alloc HK.out.bel.size _).trans h2⟩; obtain ⟨y0, y1, y2, y3, y4, y5, y6⟩ := HX.out w2 HK2.out.bel; clear h1 h2)
              | (go_at_call 50; (with_reducible refine (rinB_any _ _ _ _).mono ?_); rintro e w' ⟨rfl, hw⟩; rw [hw]; clear hw; rw [HP1.out])
              | fail)
            go_ret3
            exact ⟨ret3 HRR.out, HK2.out.bel⟩
          | true =>
            have HP1 := Lib.hid hin
            by_cases he : e0 = 0
            · subst he
              by_cases hv : e1 = 0
              · subst hv
                have HZ := Lib.hid (show bwE l k = 0 by rw [HP.out, hin]; simp)
                clear HP hin
                go_wp2_with (first
                  | (go_at_call 51; (refine HA.out.mono ?_); rintro e w9 ⟨rfl, hw⟩; rw [hw]; clear hw)
                  | (at_builtin; go_must (refine app_strs rfl _ _ rfl (l := (l.take k).map Bw.nm) rfl (own_below HK.out.own ((Below.refl _ wr).alloc (Nat.le_refl _) _)) x.nm rfl (Blk.newat rfl) (by rw [HL.out]; exact hkm) (by have := HK.out.bel.size; simp; omega) ?_); intro g cap w2 h1 h2 _; simp only [HL.out] at h1 ⊢; have HK2 : Hid (CkN w w2 _ _) := Lib.hid ⟨h1, (HK.out.bel.alloc HK.out.bel.size _).trans h2⟩; obtain ⟨y0, y1, y2, y3, y4, y5, y6⟩ := HX.out w2 HK2.out.bel; clear h1 h2)
                  | (go_at_call 50; (with_reducible refine (rinB_any _ _ _ _).mono ?_); rintro e w' ⟨rfl, hw⟩; rw [hw]; clear hw; rw [HP1.out])
                  | fail)
                refine wp_of_eq (rk12_region (S := Below w2.heap.size w2) (fun W W' h hb => h.trans (hb.mono h.size)) (k := k) (x1 := x.mlo) (x2 := x.mhi) (x3 := x.slo) (x4 := x.shi) (e0 := 0) hki (fun W hW => (HX4.out W (HK2.out.bel.trans (hW.mono HK2.out.bel.size)))) HSP (Lib.hid (Below.refl _ _)) (Lib.hid fun u W h => ?_)) (by kernel_rfl)
                have HK3 := Lib.hid (HK2.out.on h)
                clear h
                obtain ⟨-, -, -, -, -, -, y6⟩ := HX.out W HK3.out.bel
                go_wp2_with (first
                  | (go_at_call 53; (with_reducible refine Calls.mono (HV.out _ HK3.out.bel) ?_); rintro e w4 ⟨rfl, hb⟩; have HK4 := Lib.hid (HK3.out.on hb); clear hb)
                  | fail)
                go_roundw
                case rel => exact ⟨k + 1, by omega, by go_num, by
                  show CkN _ _ _ _
                  rw [map_take_one _ HX0.out]
                  exact HK4.out, fun i hi => by
                  by_cases hik : i = k
                  · subst hik; exact HZ.out
                  · exact HN.out i (by omega)⟩
                case measure => simp [intOf]; omega
              · have hv1 : (e1 != 0) = true := by simpa using hv
                have hv2 : (e1 == 0) = false := by simpa using hv
                have HRR : Hid (R = (2, (k : Int), e1)) := by
                  have hq : bwE l k = e1 := by rw [HP.out, hin]; simp
                  show R = _
                  rw [HR.out]
                  unfold checkB
                  rw [if_pos HQ1.out, firstAt_hit (k := k) HN.out hlt (by rw [hq]; exact hv), hq]
                clear HP
                clear hin hv
                go_wp2_with (first
                  | (go_at_call 51; (refine HA.out.mono ?_); rintro e w9 ⟨rfl, hw⟩; rw [hw]; clear hw)
                  | (at_builtin; go_must (refine app_strs rfl _ _ rfl (l := (l.take k).map Bw.nm) rfl (own_below HK.out.own ((Below.refl _ wr).alloc (Nat.le_refl _) _)) x.nm rfl (Blk.newat rfl) (by rw [HL.out]; exact hkm) (by have := HK.out.bel.size; simp; omega) ?_); intro g cap w2 h1 h2 _; simp only [HL.out] at h1 ⊢; have HK2 : Hid (CkN w w2 _ _) := Lib.hid ⟨h1, (HK.out.bel.alloc HK.out.bel.size _).trans h2⟩; obtain ⟨y0, y1, y2, y3, y4, y5, y6⟩ := HX.out w2 HK2.out.bel; clear h1 h2)
                  | (go_at_call 50; (with_reducible refine (rinB_any _ _ _ _).mono ?_); rintro e w' ⟨rfl, hw⟩; rw [hw]; clear hw; rw [HP1.out])
                  | fail)
                refine wp_of_eq (rk12_region (S := Below w2.heap.size w2) (fun W W' h hb => h.trans (hb.mono h.size)) (k := k) (x1 := x.mlo) (x2 := x.mhi) (x3 := x.slo) (x4 := x.shi) (e0 := 0) hki (fun W hW => (HX4.out W (HK2.out.bel.trans (hW.mono HK2.out.bel.size)))) HSP (Lib.hid (Below.refl _ _)) (Lib.hid fun u W h => ?_)) (by kernel_rfl)
                have HK3 := Lib.hid (HK2.out.on h)
                clear h
                obtain ⟨-, -, -, -, -, -, y6⟩ := HX.out W HK3.out.bel
                go_wp2_with (first
                  | (go_at_call 53; (with_reducible refine Calls.mono (HV.out _ HK3.out.bel) ?_); rintro e w4 ⟨rfl, hb⟩; have HK4 := Lib.hid (HK3.out.on hb); clear hb)
                  | fail)
                go_ret3
                exact ⟨ret3 HRR.out, HK4.out.bel⟩
            · have hv1 : (e0 != 0) = true := by simpa using he
              have hv2 : (e0 == 0) = false := by simpa using he
              have HRR : Hid (R = (2, (k : Int), e0)) := by
                have hq : bwE l k = e0 := by rw [HP.out, hin]; simp [he]
                show R = _
                rw [HR.out]
                unfold checkB
                rw [if_pos HQ1.out, firstAt_hit (k := k) HN.out hlt (by rw [hq]; exact he), hq]
              clear HP
              clear hin he ie
              go_wp2_with (first
                | (go_at_call 51; (refine HA.out.mono ?_); rintro e w9 ⟨rfl, hw⟩; rw [hw]; clear hw)
                | (at_builtin; go_must (refine app_strs rfl _ _ rfl (l := (l.take k).map Bw.nm) rfl (own_below HK.out.own ((Below.refl _ wr).alloc (Nat.le_refl _) _)) x.nm rfl (Blk.newat rfl) (by rw [HL.out]; exact hkm) (by have := HK.out.bel.size; simp; omega) ?_); intro g cap w2 h1 h2 _; simp only [HL.out] at h1 ⊢; have HK2 : Hid (CkN w w2 _ _) := Lib.hid ⟨h1, (HK.out.bel.alloc HK.out.bel.size _).trans h2⟩; obtain ⟨y0, y1, y2, y3, y4, y5, y6⟩ := HX.out w2 HK2.out.bel; clear h1 h2)
                | (go_at_call 50; (with_reducible refine (rinB_any _ _ _ _).mono ?_); rintro e w' ⟨rfl, hw⟩; rw [hw]; clear hw; rw [HP1.out])
                | fail)
              refine wp_of_eq (rk12_region (S := Below w2.heap.size w2) (fun W W' h hb => h.trans (hb.mono h.size)) (k := k) (x1 := x.mlo) (x2 := x.mhi) (x3 := x.slo) (x4 := x.shi) (e0 := e0) hki (fun W hW => (HX4.out W (HK2.out.bel.trans (hW.mono HK2.out.bel.size)))) HSP (Lib.hid (Below.refl _ _)) (Lib.hid fun u W h => ?_)) (by kernel_rfl)
              have HK3 := Lib.hid (HK2.out.on h)
              clear h
              go_wp2_with (first
                | (go_at_call 53; (with_reducible refine Calls.mono (HV.out _ HK3.out.bel) ?_); rintro e w4 ⟨rfl, hb⟩; have HK4 := Lib.hid (HK3.out.on hb); clear hb)
                | fail)
              go_ret3
              exact ⟨ret3 HRR.out, HK3.out.bel⟩
        · have hz1 : (z != 0) = true := by simpa using hz
          have hz2 : (z == 0) = false := by simpa using hz
          have HRR : Hid (R = (2, (k : Int), z)) := by
            have hq : bwE l k = z := by rw [HP.out, if_pos hz]
            show R = _
            rw [HR.out]
            unfold checkB
            rw [if_pos HQ1.out, firstAt_hit (k := k) HN.out hlt (by rw [hq]; exact hz), hq]
          clear HP
          clear hz
          go_wp2_with (first
            | (go_at_call 51; (refine HA.out.mono ?_); rintro e w9 ⟨rfl, hw⟩; rw [hw]; clear hw)
            | (at_builtin; go_must (refine app_strs rfl _ _ rfl (l := (l.take k).map Bw.nm) rfl (own_below HK.out.own ((Below.refl _ wr).alloc (Nat.le_refl _) _)) x.nm rfl (Blk.newat rfl) (by rw [HL.out]; exact hkm) (by have := HK.out.bel.size; simp; omega) ?_); intro g cap w2 h1 h2 _; simp only [HL.out] at h1 ⊢; have HK2 : Hid (CkN w w2 _ _) := Lib.hid ⟨h1, (HK.out.bel.alloc HK.out.bel.size _).trans h2⟩; obtain ⟨y0, y1, y2, y3, y4, y5, y6⟩ := HX.out w2 HK2.out.bel; clear h1 h2)
            | fail)
          go_ret3
          exact ⟨ret3 HRR.out, HK2.out.bel⟩
      · have HF : Hid (firstAt (bwE l) l.length = none) := firstAt_none (fun i hi => HN.out i (by omega))
        have HRR : Hid (R = (0, 0, 0)) := by
          show R = _
          rw [HR.out]
          unfold checkB
          rw [if_pos HQ1.out, HF.out]
        clear HF HN
        go_wp2_with fail
        go_ret3
        exact ⟨ret3 HRR.out, HK.out.bel⟩
end Go.Proofs.Ytalghiecjhfflaa
