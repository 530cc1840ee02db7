/- WaxMixed: for every table, readings and two numbers, and every start that the row allows, the call returns true, and all read behind it as before. Conditions: none beside the row's own. -/
import Derived.Test.YtnpajncolkafgaaGreatDoorFb
import Derived.Test.YtnpajncolkafgaaGreatDoorAw
import Derived.BigQuiet
namespace Go.Proofs.YtnpajncolkafgaaGreatDoor
open Go.ChangeShapes Go.WideShapes Go.ChangeAt Go.RowKit

/-- What holds between the calls. -/
structure MxI (w : World) (tc xc : Array Value) (W : World) : Prop where
  tb : Blk W w.heap.size 25 tc
  xb : Blk W (w.heap.size + 1) 33 xc
  b : Below w.heap.size w W
theorem MxI.on {w W W' : World} {tc xc : Array Value} (h : MxI w tc xc W) (hb : Below W.heap.size W W') : MxI w tc xc W' := ⟨h.tb.on hb, h.xb.on hb, h.b.trans (hb.mono h.b.size)⟩
theorem span_not (a b : Int) (w : World) : (binOp .neq 35 (.agg #[.int .i64 a, .int .i64 b]) (.agg #[.int .i64 a, .int .i64 b])).run Tryz.prog w = .ok (.bool false) w := by
  have h := span_neq (a, b) (a, b) w
  simpa using h

set_option maxRecDepth 100000 in
set_option maxHeartbeats 4000000 in
theorem wmixed_any {w : World} (hB : Base w) {pa ka ra : Option Addr} {pc kc rc : Nat} {t : Tab} {l : List Int} (x0 x1 : Int) (h : RdIn w pa ka ra pc kc t l) :
    Calls Tryz.prog 4 #[.agg #[.slice pa t.ps.length pc, .slice ka t.ks.length kc, .int .i64 t.pu], .slice ra l.length rc, .agg #[.int .i64 x0, .int .i64 x1]] w fun e w' => e = .returned (.bool true) ∧ Below w.heap.size w w' := by
  have hA := ((Below.refl _ w).alloc (Nat.le_refl _) (.cells #[.slice pa t.ps.length pc, .slice ka t.ks.length kc, .int .i64 t.pu] 25)).alloc (by simp) (.cells #[.int .i64 x0, .int .i64 x1] 33)
  have I0 : MxI w #[.slice pa t.ps.length pc, .slice ka t.ks.length kc, .int .i64 t.pu] #[.int .i64 x0, .int .i64 x1] ((w.alloc (.cells #[.slice pa t.ps.length pc, .slice ka t.ks.length kc, .int .i64 t.pu] 25)).alloc (.cells #[.int .i64 x0, .int .i64 x1] 33)) := ⟨(Blk.new w _ _).alloc _, Blk.new1 w _ _ _, hA⟩
  have HB := Lib.hid hB
  have H1 := Lib.hid (mixed_any (rc := rc) (h.on hA) x0 x1)
  have H2 := Lib.hid (fun (W : World) (hW : Below w.heap.size w W) => rmixed_any (rc := rc) (h.on hW) x0 x1)
  have H3 := Lib.hid (fun (W : World) (hW : Below w.heap.size w W) => detect_any (h.tab.on hW) x0 x1)
  have H4 := Lib.hid (fun (W : World) (hW : Below w.heap.size w W) => rdetect_any (h.tab.on hW) x0 x1)
  have H5 := Lib.hid (fun (W : World) (hW : Below w.heap.size w W) => awake_any (hB.on hW))
  have HI := Lib.hid I0
  generalize mixedV t l x0 x1 = R at *
  generalize detectV t x0 x1 = D at *
  obtain ⟨⟨R1, R2⟩, R3⟩ := R
  obtain ⟨D1, D2⟩ := D
  dsimp only at *
  have hp := h.tab.tab.lp
  have hk := h.tab.tab.lk
  have hl := h.rds.len
  clear h hB hA I0
  have hne := fun (w : World) => span_not R1 R2 w
  have he1 : (R3 != R3) = false := by simp
  have he2 : (D1 == D1) = true := by simp
  have he3 : (D2 == D2) = true := by simp
  go_enter Tryz.func4, Tryz.ntmps4
  go_wp2_with fail
  refine H1.out.mono ?_
  rintro e w1 ⟨rfl, hb1⟩
  have HI := Lib.hid (HI.out.on hb1)
  obtain ⟨a0, a1, a2, _, _, _, _⟩ := HI.out.tb.three
  obtain ⟨c0, c1, _, _, _⟩ := HI.out.xb.two
  clear hb1 H1
  go_wp2_with fail
  refine (H2.out _ (by repeat (first | exact HI.out.b | refine Below.setCell ?_ (by first | omega | (simp; done) | (simp; omega)) _ | refine Below.alloc ?_ (by first | omega | (simp; done) | (simp; omega)) _))).mono ?_
  rintro e w2 ⟨rfl, hb2⟩
  have S1 := (Blk.new w1 35 #[.int .i64 R1, .int .i64 R2]).on hb2
  have HI := Lib.hid ((HI.out.on ((Below.refl _ w1).alloc (Nat.le_refl _) (.cells #[.int .i64 R1, .int .i64 R2] 35))).on hb2)
  obtain ⟨a0, a1, a2, _, _, _, _⟩ := HI.out.tb.three
  obtain ⟨c0, c1, _, _, _⟩ := HI.out.xb.two
  obtain ⟨s0, s1, _, _, _⟩ := S1.two
  clear hb2 H2 S1
  go_wp2_with fail
  refine (H3.out _ (by repeat (first | exact HI.out.b | apply below_drewN' | apply Below.drew | refine Below.setCell ?_ (by first | omega | (simp; done) | (simp; omega)) _ | refine Below.alloc ?_ (by first | omega | (simp; done) | (simp; omega)) _))).mono ?_
  rintro e w3 ⟨rfl, hb3⟩
  have HI := Lib.hid ((HI.out.on ((Below.refl _ w2).alloc (Nat.le_refl _) (.cells #[.int .i64 R1, .int .i64 R2] 35))).on hb3)
  obtain ⟨a0, a1, a2, _, _, _, _⟩ := HI.out.tb.three
  obtain ⟨c0, c1, _, _, _⟩ := HI.out.xb.two
  clear hb3 H3 hne he1 s0 s1
  go_wp2_with fail
  refine (H4.out _ HI.out.b).mono ?_
  rintro e w4 ⟨rfl, hb4⟩
  have HI := Lib.hid (HI.out.on hb4)
  have H6 := Lib.hid (H5.out _ HI.out.b)
  clear hb4 H4 H5
  go_wp2_with fail
  refine H6.out.mono ?_
  rintro e w5 ⟨rfl, hb5⟩
  go_wp2_with fail
  go_ret
  exact ⟨rfl, HI.out.b.trans (hb5.mono HI.out.b.size)⟩

set_option maxRecDepth 100000 in
theorem mx_contract (H : Type) (enc : TypeId × Value → H) (W : World) (base : Nat) (args : Array Value) (ds gs : List (DataW H)) (before : List MemPlace)
    (hval0 : ∀ (j : Nat) t v, Tryz.f4.params[j]? = some t → args[j]? = some v → Value.okWide Tryz.prog W .any base t v)
    (hW : DataW.Whole enc Tryz.prog Tryz.f4.params.toList Rows.waxMixedSpec.vars false W args.toList ds gs before) (hL : laidMetH Tryz.prog Rows.waxMixedRow.laid W) (hS : W.ShapedOpen Tryz.prog) :
    Calls Tryz.prog 4 args W fun e W' => ∃ v, e = .returned v ∧ Rows.waxMixedSpec.post enc Tryz.prog Tryz.f4 false true false false W args v W' := by
  have hval : ∀ (j : Nat) t v, Tryz.f4.params[j]? = some t → args[j]? = some v → Value.okWide Tryz.prog W .any base t v := hval0
  have hW' := hW
  have hlt := hW.lt
  obtain ⟨p, q, hA0, hV, rfl, hfz, hnd⟩ := hW
  have hA : DataW.TrodAll enc Tryz.prog W 0 (fun _ => true) true Tryz.f4.params.toList args.toList ds p := hA0
  rw [Tryz.params4] at hA hval
  have hA2 := hA
  obtain ⟨v0, v1, v2, d0, d1, d2, p0, p1, p2, rfl, rfl, rfl, h0, h1, h2⟩ := trodAll_three hA
  obtain ⟨rfl, rfl⟩ := trodVars_none hV
  obtain ⟨pa, pc, ka, kc, t, rfl, hT⟩ := open_table (hval 0 25 v0 rfl rfl) h0
  obtain ⟨ra, l, rc, rfl, hI, hlw⟩ := open_ints_in h1 (okWide_slice Tryz.underlying32 (hval 1 32 v1 rfl rfl))
  obtain ⟨x0, x1, rfl⟩ := open_two (hval 2 33 v2 rfl rfl) h2
  refine (wmixed_any (base_of hL hS) x0 x1 ⟨hT, hI⟩).mono fun e W' ⟨he, hb⟩ => ?_
  subst he
  exact ⟨_, rfl, [d0, d1, d2], [], (p0 ++ p1 ++ p2) ++ [], [], p0 ++ p1 ++ p2, [], hW', trodAll_cons_mk (shut_bool Tryz.underlying4 _) trodAll_mk0, by rw [Tryz.params4]; exact trodAll_below laidOut hb _ _ _ _ (by kernel_rfl) hA2 (fun x hx => hlt x (by simpa using hx)), rfl, hb.frame _, fun h => by cases h⟩

theorem mx_reads (os : Os) {H : Type} (enc : TypeId × Value → H) : ∃ places, DataW.whole enc Tryz.prog ((laidWorld os).forCall (fun _ _ => 0) ⟨#[], #[.agg #[.slice none 0 0, .slice none 0 0, .int .i64 0], .slice none 0 0, .agg #[.int .i64 0, .int .i64 0]], []⟩).memory Tryz.f4.params.toList Rows.waxMixedSpec.vars false (#[.agg #[.slice none 0 0, .slice none 0 0, .int .i64 0], .slice none 0 0, .agg #[.int .i64 0, .int .i64 0]] : Array Value).toList 8 = some ([.agg [.nil, .nil, .lit (.int .i64 0)], .nil, .agg [.lit (.int .i64 0), .lit (.int .i64 0)]], [], places) :=
  ⟨[], by kernel_rfl⟩

set_option maxRecDepth 100000 in
theorem mx_lifted (os : Os) (started : os.Started) (H : Type) (enc : TypeId × Value → H) (F : Stop.Interp) :
    ReturnsInHanded {} Tryz.checked os 4 .any ((OpenSpec.ofChange Rows.waxMixedSpec).preRow enc Tryz.prog Tryz.f4 Rows.waxMixedRow.domain false Rows.waxMixedRow.laid) (((OpenSpec.ofChange Rows.waxMixedSpec).at F).post enc Tryz.prog Tryz.f4 false true false false) := by
  obtain ⟨places, hx⟩ := mx_reads os enc
  refine returnsInHanded_of_row (C := Tryz.checked) (s := OpenSpec.ofChange Rows.waxMixedSpec) own started (by kernel_rfl) Tryz.func4
    (witness_row_atRef (enc := enc) (C := Tryz.checked) false (laidWorld os) #[.agg #[.slice none 0 0, .slice none 0 0, .int .i64 0], .slice none 0 0, .agg #[.int .i64 0, .int .i64 0]] rfl (by kernel_rfl) (by kernel_rfl) (by kernel_rfl)
      (OpenSpec.preRow_of_cond 8 hx (by kernel_rfl) (fun k hk => by cases hk) (by kernel_rfl) (laid_met os _))) ?_
  intro W base args ds gs before hval hW _ _ _ hL hS _
  exact mx_contract H enc W base args ds gs before hval hW hL hS

set_option maxRecDepth 100000 in
theorem mx_said : Rows.WaxMixedSaid :=
  OpenClaim.holds_of_cond 4 Tryz.f4 rfl rfl rfl rfl rfl rfl rfl ⟨rfl, rfl, rfl, rfl, rfl⟩ rfl rfl rfl rfl rfl (by kernel_rfl) Tryz.func4 (by kernel_rfl)
    (of_decide_eq_true (by kernel_rfl)) (by unfold Func.isWrapper; first | (rw [if_pos (by decide +kernel)]; kernel_rfl) | (rw [if_neg (by decide +kernel)]; exact ⟨rfl, rfl⟩))
    (fun os started H enc _ F => by rw [OpenClaim.pre_eq_preRow]; exact mx_lifted os started H enc F)

theorem mx_plain (f : FuncId) (fn : Func) (hf : Tryz.pinned.checked.prog.funcNamed "stearin/stearinlaw01.WaxMixed" = some f) (hfn : Tryz.pinned.checked.prog.funcs[f]? = some fn) :
    true = Tryz.pinned.checked.prog.looks [] ∧ ∀ (j : Nat) t, fn.params[j]? = some t → Tryz.pinned.checked.prog.wantsStandIn t = false := by
  obtain rfl : f = 4 := Option.some.inj ((show Tryz.prog.funcNamed "stearin/stearinlaw01.WaxMixed" = some 4 by kernel_rfl).symm.trans hf) |>.symm
  obtain rfl : fn = Tryz.f4 := (Option.some.inj (Tryz.func4.symm.trans hfn)).symm
  refine ⟨by kernel_rfl, fun j t ht => ?_⟩
  rw [Tryz.params4] at ht
  have hm : t ∈ [25, 32, 33] := by simpa using Array.mem_of_getElem? ht
  have hall : ([25, 32, 33].all fun u => !Tryz.prog.wantsStandIn u) = true := by kernel_rfl
  exact (show Tryz.prog.wantsStandIn t = false by simpa using List.all_eq_true.1 hall t hm)

theorem waxMixed_holds : Rows.WaxMixedCardSaid :=
  Claim7.holds_tied_plain_at .later [] _ _ _ _ mx_said (fun _ h => by cases h) (by kernel_rfl) (fun _ h => by cases h) waxMixed_row_tie rfl ⟨rfl, rfl⟩ (by kernel_rfl) rfl mx_plain (by kernel_rfl)
end Go.Proofs.YtnpajncolkafgaaGreatDoor
