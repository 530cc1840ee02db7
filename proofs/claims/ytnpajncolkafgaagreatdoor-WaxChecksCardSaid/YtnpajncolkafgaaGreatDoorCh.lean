/- WaxChecks: for every string and table, and every start that the row allows, the call returns true, and both read behind it as before. Conditions: none beside the row's own. -/
import Derived.Test.YtnpajncolkafgaaGreatDoorRk
import Derived.Test.YtnpajncolkafgaaGreatDoorAw
import Derived.Test.YtnpajncolkafgaaGreatDoorFr
namespace Go.Proofs.YtnpajncolkafgaaGreatDoor
open Go.ChangeShapes Go.WideShapes Go.ChangeAt Go.RowKit

set_option maxRecDepth 100000 in
set_option maxHeartbeats 2000000 in
theorem checks_any {w : World} (hB : Base w) {s : ByteArray} (hs : s.size ≤ 9223372036854775807) {pa ka : Option Addr} {pc kc : Nat} {t : Tab} (h : TabIn w pa ka pc kc t) :
    Calls Tryz.prog 3 #[.string s, .agg #[.slice pa t.ps.length pc, .slice ka t.ks.length kc, .int .i64 t.pu]] w fun e w' => e = .returned (.bool true) ∧ Below w.heap.size w w' := by
  have hA := (Below.refl _ w).alloc (Nat.le_refl _) (.cells #[.slice pa t.ps.length pc, .slice ka t.ks.length kc, .int .i64 t.pu] 25)
  have HB := Lib.hid hB
  have HT := Lib.hid (h.on hA)
  have HA := Lib.hid hA
  have H1 := Lib.hid (check_in (h.on hA))
  have X0 := Lib.hid (Blk.new w 25 #[.slice pa t.ps.length pc, .slice ka t.ks.length kc, .int .i64 t.pu])
  clear h hB hA
  go_enter Tryz.func3, Tryz.ntmps3
  go_wp2_with fail
  refine H1.out.mono ?_
  rintro e w1 ⟨rfl, hb⟩
  have X1 := Lib.hid (X0.out.on hb)
  have HT1 := Lib.hid (HT.out.on hb)
  have HW1 := Lib.hid (HA.out.trans (hb.mono (by simp)))
  obtain ⟨x0, x1, x2, _, _, _, _⟩ := X1.out.three
  clear hb
  have H2 := Lib.hid (rcheck_any HT1.out)
  generalize checkT t = R at *
  go_wp2_with fail
  refine H2.out.mono ?_
  rintro e w2 ⟨rfl, hb⟩
  have HW2 := Lib.hid (HW1.out.trans (hb.mono HW1.out.size))
  have H3 := Lib.hid (name_any s w2 hs)
  clear hb x0 x1 x2
  go_wp2_with fail
  refine H3.out.mono ?_
  rintro e w3 ⟨rfl, hb⟩
  have HW3 := Lib.hid (HW2.out.trans (hb.mono HW2.out.size))
  have H4 := Lib.hid (rname_any s w3 hs)
  clear hb
  go_wp2_with fail
  refine H4.out.mono ?_
  rintro e w4 ⟨rfl, rfl⟩
  have H5 := Lib.hid (awake_any (HB.out.on HW3.out))
  generalize nameB s = b at *
  go_wp2_with fail
  refine H5.out.mono ?_
  rintro e w5 ⟨rfl, hb⟩
  go_wp2_with fail
  go_ret
  exact ⟨rfl, HW3.out.trans (hb.mono HW3.out.size)⟩

set_option maxRecDepth 100000 in
theorem ch_contract (H : Type) (enc : TypeId × Value → H) (W : World) (base : Nat) (args : Array Value) (ds gs : List (DataW H)) (before : List MemPlace)
    (hval0 : ∀ (j : Nat) t v, Tryz.f3.params[j]? = some t → args[j]? = some v → Value.okWide Tryz.prog W .any base t v)
    (hW : DataW.Whole enc Tryz.prog Tryz.f3.params.toList Rows.waxChecksSpec.vars false W args.toList ds gs before) (hL : laidMetH Tryz.prog Rows.waxChecksRow.laid W) (hS : W.ShapedOpen Tryz.prog) :
    Calls Tryz.prog 3 args W fun e W' => ∃ v, e = .returned v ∧ Rows.waxChecksSpec.post enc Tryz.prog Tryz.f3 false true false false W args v W' := by
  have hval : ∀ (j : Nat) t v, Tryz.f3.params[j]? = some t → args[j]? = some v → Value.okWide Tryz.prog W .any base t v := hval0
  have hW' := hW
  have hlt := hW.lt
  obtain ⟨p, q, hA0, hV, rfl, hfz, hnd⟩ := hW
  have hA : DataW.TrodAll enc Tryz.prog W 0 (fun _ => true) true Tryz.f3.params.toList args.toList ds p := hA0
  rw [Tryz.params3] at hA hval
  have hA2 := hA
  obtain ⟨v0, v1, d0, d1, p0, p1, rfl, rfl, rfl, h0, h1⟩ := trodAll_two hA
  obtain ⟨rfl, rfl⟩ := trodVars_none hV
  obtain ⟨s, rfl, _, _, hs⟩ := Go.ChangeMaps.open_string Tryz.underlying9 (hval 0 9 v0 rfl rfl) h0
  obtain ⟨pa, pc, ka, kc, t, rfl, hT⟩ := open_table (hval 1 25 v1 rfl rfl) h1
  refine (checks_any (base_of hL hS) (by unfold maxLen at hs; omega) hT).mono fun e W' ⟨he, hb⟩ => ?_
  subst he
  exact ⟨_, rfl, [d0, d1], [], (p0 ++ p1) ++ [], [], p0 ++ p1, [], hW', trodAll_cons_mk (shut_bool Tryz.underlying4 _) trodAll_mk0, by rw [Tryz.params3]; exact trodAll_below laidOut hb _ _ _ _ (by kernel_rfl) hA2 (fun x hx => hlt x (by simpa using hx)), rfl, hb.frame _, fun h => by cases h⟩

theorem ch_reads (os : Os) {H : Type} (enc : TypeId × Value → H) : ∃ places, DataW.whole enc Tryz.prog ((laidWorld os).forCall (fun _ _ => 0) ⟨#[], #[.string ⟨#[]⟩, .agg #[.slice none 0 0, .slice none 0 0, .int .i64 0]], []⟩).memory Tryz.f3.params.toList Rows.waxChecksSpec.vars false (#[.string ⟨#[]⟩, .agg #[.slice none 0 0, .slice none 0 0, .int .i64 0]] : Array Value).toList 8 = some ([.lit (.string []), .agg [.nil, .nil, .lit (.int .i64 0)]], [], places) :=
  ⟨[], by kernel_rfl⟩

set_option maxRecDepth 100000 in
theorem ch_lifted (os : Os) (started : os.Started) (H : Type) (enc : TypeId × Value → H) (F : Stop.Interp) :
    ReturnsInHanded {} Tryz.checked os 3 .any ((OpenSpec.ofChange Rows.waxChecksSpec).preRow enc Tryz.prog Tryz.f3 Rows.waxChecksRow.domain false Rows.waxChecksRow.laid) (((OpenSpec.ofChange Rows.waxChecksSpec).at F).post enc Tryz.prog Tryz.f3 false true false false) := by
  obtain ⟨places, hx⟩ := ch_reads os enc
  refine returnsInHanded_of_row (C := Tryz.checked) (s := OpenSpec.ofChange Rows.waxChecksSpec) own started (by kernel_rfl) Tryz.func3
    (witness_row_atRef (enc := enc) (C := Tryz.checked) false (laidWorld os) #[.string ⟨#[]⟩, .agg #[.slice none 0 0, .slice none 0 0, .int .i64 0]] rfl (by kernel_rfl) (by kernel_rfl) (by kernel_rfl)
      (OpenSpec.preRow_of_cond 8 hx (by kernel_rfl) (fun k hk => by cases hk) (by kernel_rfl) (laid_met os _))) ?_
  intro W base args ds gs before hval hW _ _ _ hL hS _
  exact ch_contract H enc W base args ds gs before hval hW hL hS

set_option maxRecDepth 100000 in
theorem ch_said : Rows.WaxChecksSaid :=
  OpenClaim.holds_of_cond 3 Tryz.f3 rfl rfl rfl rfl rfl rfl rfl ⟨rfl, rfl, rfl, rfl, rfl⟩ rfl rfl rfl rfl rfl (by kernel_rfl) Tryz.func3 (by kernel_rfl)
    (of_decide_eq_true (by kernel_rfl)) (by unfold Func.isWrapper; first | (rw [if_pos (by decide +kernel)]; kernel_rfl) | (rw [if_neg (by decide +kernel)]; exact ⟨rfl, rfl⟩))
    (fun os started H enc _ F => by rw [OpenClaim.pre_eq_preRow]; exact ch_lifted os started H enc F)

theorem ch_plain (f : FuncId) (fn : Func) (hf : Tryz.pinned.checked.prog.funcNamed "stearin/stearinlaw01.WaxChecks" = some f) (hfn : Tryz.pinned.checked.prog.funcs[f]? = some fn) :
    true = Tryz.pinned.checked.prog.looks [] ∧ ∀ (j : Nat) t, fn.params[j]? = some t → Tryz.pinned.checked.prog.wantsStandIn t = false := by
  obtain rfl : f = 3 := Option.some.inj ((show Tryz.prog.funcNamed "stearin/stearinlaw01.WaxChecks" = some 3 by kernel_rfl).symm.trans hf) |>.symm
  obtain rfl : fn = Tryz.f3 := (Option.some.inj (Tryz.func3.symm.trans hfn)).symm
  refine ⟨by kernel_rfl, fun j t ht => ?_⟩
  rw [Tryz.params3] at ht
  have hm : t ∈ [9, 25] := by simpa using Array.mem_of_getElem? ht
  have hall : ([9, 25].all fun u => !Tryz.prog.wantsStandIn u) = true := by kernel_rfl
  exact (show Tryz.prog.wantsStandIn t = false by simpa using List.all_eq_true.1 hall t hm)

theorem waxChecks_holds : Rows.WaxChecksCardSaid :=
  Claim7.holds_tied_plain_at .later [] _ _ _ _ ch_said (fun _ h => by cases h) (by kernel_rfl) (fun _ h => by cases h) waxChecks_row_tie rfl ⟨rfl, rfl⟩ (by kernel_rfl) rfl ch_plain (by kernel_rfl)
end Go.Proofs.YtnpajncolkafgaaGreatDoor
