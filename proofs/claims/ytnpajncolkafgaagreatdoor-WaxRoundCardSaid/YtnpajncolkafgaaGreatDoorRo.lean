/- WaxRound: for every table and string, and every start that the row allows, the call returns true, and both read behind it as before. Conditions: none beside the row's own. -/
import Derived.Test.YtnpajncolkafgaaGreatDoorTx
import Derived.Test.YtnpajncolkafgaaGreatDoorAw
import Derived.Test.YtnpajncolkafgaaGreatDoorFr
namespace Go.Proofs.YtnpajncolkafgaaGreatDoor
open Go.ChangeShapes Go.WideShapes Go.ChangeAt Go.RowKit

theorem readV_none {s : ByteArray} {n : Int} (h : readV s = (none, n)) : n ≠ 0 := by
  unfold readV at h
  split at h
  · simp only [Prod.mk.injEq] at h; omega
  · split at h
    · simp only [Prod.mk.injEq] at h; omega
    · split at h
      · simp at h
      · simp only [Prod.mk.injEq] at h; omega
theorem readV_some {s : ByteArray} {x : List Pr × Int × List (ByteArray × List (Int × Int))} {n : Int} (h : readV s = (some x, n)) : n = 0 := by
  unfold readV at h
  split at h
  · simp at h
  · split at h
    · simp at h
    · split at h
      · simp only [Prod.mk.injEq] at h; omega
      · simp at h
theorem nil_in (w : World) : TabIn w none none 0 0 ⟨[], [], 0⟩ := ⟨⟨RowAt.nil, ⟨RowAt.nil, fun k hk => by simp at hk⟩, by simp, by simp⟩, by simp, by simp, fun p hp => by simp at hp, fun k hk => by simp at hk⟩

theorem tabs_nil (w : World) : Calls Tryz.prog 36 #[.agg #[.slice none 0 0, .slice none 0 0, .int .i64 0], .agg #[.slice none 0 0, .slice none 0 0, .int .i64 0]] w fun e w' => e = .returned (.bool true) ∧ Below w.heap.size w w' := by
  have h := tables_any (nil_in w) (nil_in w)
  rw [show decide (tabEq ⟨[], [], 0⟩ ⟨[], [], 0⟩) = true from decide_eq_true ⟨rfl, rfl, rfl⟩] at h
  exact h

set_option maxRecDepth 100000 in
set_option maxHeartbeats 4000000 in
theorem round_any {w : World} (hB : Base w) {s : ByteArray} (hs : s.size ≤ 9223372036854775807) {pa ka : Option Addr} {pc kc : Nat} {t : Tab} (h : TabIn w pa ka pc kc t) :
    Calls Tryz.prog 15 #[.agg #[.slice pa t.ps.length pc, .slice ka t.ks.length kc, .int .i64 t.pu], .string s] w fun e w' => e = .returned (.bool true) ∧ Below w.heap.size w w' := by
  have hA := (Below.refl _ w).alloc (Nat.le_refl _) (.cells #[.slice pa t.ps.length pc, .slice ka t.ks.length kc, .int .i64 t.pu] 25)
  have HB := Lib.hid hB
  have HT := Lib.hid (h.on hA)
  have HA := Lib.hid hA
  have H1 := Lib.hid (write_any (h.on hA) (hB.on hA))
  have X0 := Lib.hid (Blk.new w 25 #[.slice pa t.ps.length pc, .slice ka t.ks.length kc, .int .i64 t.pu])
  clear h hB hA
  go_enter Tryz.func15, Tryz.ntmps15
  go_wp2_with fail
  refine H1.out.mono ?_
  rintro e w1 ⟨rfl, hb⟩
  have X1 := Lib.hid (X0.out.on hb)
  have HT1 := Lib.hid (HT.out.on hb)
  have HW1 := Lib.hid (HA.out.trans (hb.mono (by simp)))
  clear hb X0 HT HA H1
  by_cases hv : (checkT t).2.2 = 0
  · rw [show writeV t = (textV t, 0) by simp [writeV, hv]]
    obtain ⟨hr, hz⟩ := write_read hv
    have h2 := read_any (HB.out.on HW1.out) (textV t) (by omega)
    rw [hr] at h2
    have H2 := Lib.hid h2
    clear h2 hr hv
    generalize textV t = tx at *
    go_wp2_with fail
    refine H2.out.mono ?_
    rintro e w2 ⟨pa2, pc2, ka2, kc2, ks, rfl, hT2, hks, hb⟩
    have X2 := Lib.hid (X1.out.on hb)
    have HT2 := HT1.out.on hb
    have HW2 := Lib.hid (HW1.out.trans (hb.mono HW1.out.size))
    have hA2 := (Below.refl _ w2).alloc (Nat.le_refl _) (.cells #[.slice pa2 t.ps.length pc2, .slice ka2 ks.length kc2, .int .i64 t.pu] 25)
    have h3 := tables_any (hT2.on hA2) (HT2.on hA2)
    rw [show decide (tabEq ⟨t.ps, ks, t.pu⟩ t) = true from decide_eq_true ⟨rfl, hks, rfl⟩] at h3
    have H3 := Lib.hid h3
    obtain ⟨x0, x1, x2, _, _, _, _⟩ := X2.out.three
    have hlt2 := X2.out.lt
    have HA2 := Lib.hid hA2
    clear h3 hT2 HT2 hks hb hA2 H2 X1
    go_wp2_with fail
    refine H3.out.mono ?_
    rintro e W ⟨rfl, hb⟩
    have HWW := Lib.hid (HW2.out.trans ((HA2.out.trans (hb.mono (by simp))).mono HW2.out.size))
    clear hb HA2 HW2 HW1 HT1 X2 x0 x1 x2 H3
    go_wp2_with fail
    have h4 := read_any (HB.out.on HWW.out) s hs
    cases hR : readV s with
    | mk R n =>
      rw [hR] at h4
      cases R with
      | none =>
        have hn := readV_none hR
        have hn1 : (n != 0) = true := by simpa using hn
        have H4 := Lib.hid h4
        clear h4 hR hn
        refine H4.out.mono ?_
        rintro e w5 ⟨rfl, hb⟩
        have HW5 := Lib.hid (HWW.out.trans (hb.mono HWW.out.size))
        have hA5 := (Below.refl _ w5).alloc (Nat.le_refl _) (.cells #[.slice none 0 0, .slice none 0 0, .int .i64 0] 25)
        have HA5 := Lib.hid hA5
        clear hb hA5 H4 HWW
        go_wp2_with fail
        refine (tabs_nil _).mono ?_
        rintro e w6 ⟨rfl, hb⟩
        have HW6 := Lib.hid (HW5.out.trans ((HA5.out.trans (hb.mono (by simp))).mono HW5.out.size))
        have H6 := Lib.hid (awake_any (HB.out.on HW6.out))
        clear hb HA5 HW5
        go_wp2_with fail
        refine H6.out.mono ?_
        rintro e w7 ⟨rfl, hb⟩
        go_wp2_with fail
        go_ret
        exact ⟨rfl, HW6.out.trans (hb.mono HW6.out.size)⟩
      | some x =>
        obtain ⟨l, pu, kl⟩ := x
        have hn := readV_some hR
        subst hn
        have H4 := Lib.hid h4
        have HR := Lib.hid hR
        clear h4 hR
        refine H4.out.mono ?_
        rintro e w5 ⟨pa3, pc3, ka3, kc3, ks3, rfl, hT3, hks3, hb⟩
        have HW5 := Lib.hid (HWW.out.trans (hb.mono HWW.out.size))
        have hA5 := (Below.refl _ w5).alloc (Nat.le_refl _) (.cells #[.slice pa3 l.length pc3, .slice ka3 ks3.length kc3, .int .i64 pu] 25)
        have h5 := write_any (hT3.on hA5) (HB.out.on (HW5.out.trans (hA5.mono HW5.out.size)))
        rw [read_write (by rw [HR.out, ← hks3])] at h5
        have H5 := Lib.hid h5
        have HA5 := Lib.hid hA5
        have hq : (s.toList == s.toList) = true := by simp
        clear hb hA5 h5 H4 HWW HR hT3 hks3
        go_wp2_with fail
        refine H5.out.mono ?_
        rintro e w6 ⟨rfl, hb⟩
        have HW6 := Lib.hid (HW5.out.trans ((HA5.out.trans (hb.mono (by simp))).mono HW5.out.size))
        have H6 := Lib.hid (awake_any (HB.out.on HW6.out))
        clear hb HA5 HW5
        go_wp2_with fail
        refine H6.out.mono ?_
        rintro e w7 ⟨rfl, hb⟩
        go_wp2_with fail
        go_ret
        exact ⟨rfl, HW6.out.trans (hb.mono HW6.out.size)⟩
  · have hne : (checkT t).2.2 ≠ 0 := hv
    rw [show writeV t = (⟨#[]⟩, (checkT t).2.2) by simp [writeV, hv]]
    obtain ⟨W, rfl⟩ : ∃ W, W = w1 := ⟨_, rfl⟩
    have HWW := HW1
    generalize (checkT t).2.2 = ce at *
    have hc1 : (ce == 0) = false := by simpa using hne
    have h4 := read_any (HB.out.on HWW.out) s hs
    clear HW1 HT1 X1 hv hne
    go_wp2_with fail
    cases hR : readV s with
    | mk R n =>
      rw [hR] at h4
      cases R with
      | none =>
        have hn := readV_none hR
        have hn1 : (n != 0) = true := by simpa using hn
        have H4 := Lib.hid h4
        clear h4 hR hn
        refine H4.out.mono ?_
        rintro e w5 ⟨rfl, hb⟩
        have HW5 := Lib.hid (HWW.out.trans (hb.mono HWW.out.size))
        have hA5 := (Below.refl _ w5).alloc (Nat.le_refl _) (.cells #[.slice none 0 0, .slice none 0 0, .int .i64 0] 25)
        have HA5 := Lib.hid hA5
        clear hb hA5 H4 HWW
        go_wp2_with fail
        refine (tabs_nil _).mono ?_
        rintro e w6 ⟨rfl, hb⟩
        have HW6 := Lib.hid (HW5.out.trans ((HA5.out.trans (hb.mono (by simp))).mono HW5.out.size))
        have H6 := Lib.hid (awake_any (HB.out.on HW6.out))
        clear hb HA5 HW5
        go_wp2_with fail
        refine H6.out.mono ?_
        rintro e w7 ⟨rfl, hb⟩
        go_wp2_with fail
        go_ret
        exact ⟨rfl, HW6.out.trans (hb.mono HW6.out.size)⟩
      | some x =>
        obtain ⟨l, pu, kl⟩ := x
        have hn := readV_some hR
        subst hn
        have H4 := Lib.hid h4
        have HR := Lib.hid hR
        clear h4 hR
        refine H4.out.mono ?_
        rintro e w5 ⟨pa3, pc3, ka3, kc3, ks3, rfl, hT3, hks3, hb⟩
        have HW5 := Lib.hid (HWW.out.trans (hb.mono HWW.out.size))
        have hA5 := (Below.refl _ w5).alloc (Nat.le_refl _) (.cells #[.slice pa3 l.length pc3, .slice ka3 ks3.length kc3, .int .i64 pu] 25)
        have h5 := write_any (hT3.on hA5) (HB.out.on (HW5.out.trans (hA5.mono HW5.out.size)))
        rw [read_write (by rw [HR.out, ← hks3])] at h5
        have H5 := Lib.hid h5
        have HA5 := Lib.hid hA5
        have hq : (s.toList == s.toList) = true := by simp
        clear hb hA5 h5 H4 HWW HR hT3 hks3
        go_wp2_with fail
        refine H5.out.mono ?_
        rintro e w6 ⟨rfl, hb⟩
        have HW6 := Lib.hid (HW5.out.trans ((HA5.out.trans (hb.mono (by simp))).mono HW5.out.size))
        have H6 := Lib.hid (awake_any (HB.out.on HW6.out))
        clear hb HA5 HW5
        go_wp2_with fail
        refine H6.out.mono ?_
        rintro e w7 ⟨rfl, hb⟩
        go_wp2_with fail
        go_ret
        exact ⟨rfl, HW6.out.trans (hb.mono HW6.out.size)⟩

set_option maxRecDepth 100000 in
theorem ro_contract (H : Type) (enc : TypeId × Value → H) (W : World) (base : Nat) (args : Array Value) (ds gs : List (DataW H)) (before : List MemPlace)
    (hval0 : ∀ (j : Nat) t v, Tryz.f15.params[j]? = some t → args[j]? = some v → Value.okWide Tryz.prog W .any base t v)
    (hW : DataW.Whole enc Tryz.prog Tryz.f15.params.toList Rows.waxRoundSpec.vars false W args.toList ds gs before) (hL : laidMetH Tryz.prog Rows.waxRoundRow.laid W) (hS : W.ShapedOpen Tryz.prog) :
    Calls Tryz.prog 15 args W fun e W' => ∃ v, e = .returned v ∧ Rows.waxRoundSpec.post enc Tryz.prog Tryz.f15 false true false false W args v W' := by
  have hval : ∀ (j : Nat) t v, Tryz.f15.params[j]? = some t → args[j]? = some v → Value.okWide Tryz.prog W .any base t v := hval0
  have hW' := hW
  have hlt := hW.lt
  obtain ⟨p, q, hA0, hV, rfl, hfz, hnd⟩ := hW
  have hA : DataW.TrodAll enc Tryz.prog W 0 (fun _ => true) true Tryz.f15.params.toList args.toList ds p := hA0
  rw [Tryz.params15] at hA hval
  have hA2 := hA
  obtain ⟨v0, v1, d0, d1, p0, p1, rfl, rfl, rfl, h0, h1⟩ := trodAll_two hA
  obtain ⟨rfl, rfl⟩ := trodVars_none hV
  obtain ⟨s, rfl, _, _, hs⟩ := Go.ChangeMaps.open_string Tryz.underlying9 (hval 1 9 v1 rfl rfl) h1
  obtain ⟨pa, pc, ka, kc, t, rfl, hT⟩ := open_table (hval 0 25 v0 rfl rfl) h0
  refine (round_any (base_of hL hS) (by unfold maxLen at hs; omega) hT).mono fun e W' ⟨he, hb⟩ => ?_
  subst he
  exact ⟨_, rfl, [d0, d1], [], (p0 ++ p1) ++ [], [], p0 ++ p1, [], hW', trodAll_cons_mk (shut_bool Tryz.underlying4 _) trodAll_mk0, by rw [Tryz.params15]; exact trodAll_below laidOut hb _ _ _ _ (by kernel_rfl) hA2 (fun x hx => hlt x (by simpa using hx)), rfl, hb.frame _, fun h => by cases h⟩

theorem ro_reads (os : Os) {H : Type} (enc : TypeId × Value → H) : ∃ places, DataW.whole enc Tryz.prog ((laidWorld os).forCall (fun _ _ => 0) ⟨#[], #[.agg #[.slice none 0 0, .slice none 0 0, .int .i64 0], .string ⟨#[]⟩], []⟩).memory Tryz.f15.params.toList Rows.waxRoundSpec.vars false (#[.agg #[.slice none 0 0, .slice none 0 0, .int .i64 0], .string ⟨#[]⟩] : Array Value).toList 8 = some ([.agg [.nil, .nil, .lit (.int .i64 0)], .lit (.string [])], [], places) :=
  ⟨[], by kernel_rfl⟩

set_option maxRecDepth 100000 in
theorem ro_lifted (os : Os) (started : os.Started) (H : Type) (enc : TypeId × Value → H) (F : Stop.Interp) :
    ReturnsInHanded {} Tryz.checked os 15 .any ((OpenSpec.ofChange Rows.waxRoundSpec).preRow enc Tryz.prog Tryz.f15 Rows.waxRoundRow.domain false Rows.waxRoundRow.laid) (((OpenSpec.ofChange Rows.waxRoundSpec).at F).post enc Tryz.prog Tryz.f15 false true false false) := by
  obtain ⟨places, hx⟩ := ro_reads os enc
  refine returnsInHanded_of_row (C := Tryz.checked) (s := OpenSpec.ofChange Rows.waxRoundSpec) own started (by kernel_rfl) Tryz.func15
    (witness_row_atRef (enc := enc) (C := Tryz.checked) false (laidWorld os) #[.agg #[.slice none 0 0, .slice none 0 0, .int .i64 0], .string ⟨#[]⟩] rfl (by kernel_rfl) (by kernel_rfl) (by kernel_rfl)
      (OpenSpec.preRow_of_cond 8 hx (by kernel_rfl) (fun k hk => by cases hk) (by kernel_rfl) (laid_met os _))) ?_
  intro W base args ds gs before hval hW _ _ _ hL hS _
  exact ro_contract H enc W base args ds gs before hval hW hL hS

set_option maxRecDepth 100000 in
theorem ro_said : Rows.WaxRoundSaid :=
  OpenClaim.holds_of_cond 15 Tryz.f15 rfl rfl rfl rfl rfl rfl rfl ⟨rfl, rfl, rfl, rfl, rfl⟩ rfl rfl rfl rfl rfl (by kernel_rfl) Tryz.func15 (by kernel_rfl)
    (of_decide_eq_true (by kernel_rfl)) (by unfold Func.isWrapper; first | (rw [if_pos (by decide +kernel)]; kernel_rfl) | (rw [if_neg (by decide +kernel)]; exact ⟨rfl, rfl⟩))
    (fun os started H enc _ F => by rw [OpenClaim.pre_eq_preRow]; exact ro_lifted os started H enc F)

theorem ro_plain (f : FuncId) (fn : Func) (hf : Tryz.pinned.checked.prog.funcNamed "stearin/stearinlaw01.WaxRound" = some f) (hfn : Tryz.pinned.checked.prog.funcs[f]? = some fn) :
    true = Tryz.pinned.checked.prog.looks [] ∧ ∀ (j : Nat) t, fn.params[j]? = some t → Tryz.pinned.checked.prog.wantsStandIn t = false := by
  obtain rfl : f = 15 := Option.some.inj ((show Tryz.prog.funcNamed "stearin/stearinlaw01.WaxRound" = some 15 by kernel_rfl).symm.trans hf) |>.symm
  obtain rfl : fn = Tryz.f15 := (Option.some.inj (Tryz.func15.symm.trans hfn)).symm
  refine ⟨by kernel_rfl, fun j t ht => ?_⟩
  rw [Tryz.params15] at ht
  have hm : t ∈ [25, 9] := by simpa using Array.mem_of_getElem? ht
  have hall : ([25, 9].all fun u => !Tryz.prog.wantsStandIn u) = true := by kernel_rfl
  exact (show Tryz.prog.wantsStandIn t = false by simpa using List.all_eq_true.1 hall t hm)

theorem waxRound_holds : Rows.WaxRoundCardSaid :=
  Claim7.holds_tied_plain_at .later [] _ _ _ _ ro_said (fun _ h => by cases h) (by kernel_rfl) (fun _ h => by cases h) waxRound_row_tie rfl ⟨rfl, rfl⟩ (by kernel_rfl) rfl ro_plain (by kernel_rfl)
end Go.Proofs.YtnpajncolkafgaaGreatDoor
