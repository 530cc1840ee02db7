/- WaxAlone: for every table, readings and number, and every start that the row allows, the call returns true, and all read behind it as before. Conditions: none beside the row's own. -/
import Derived.Test.YtnpajncolkafgaaGreatDoorRa
import Derived.Test.YtnpajncolkafgaaGreatDoorAw
import Derived.Test.YtnpajncolkafgaaGreatDoorFr
import Derived.BigQuiet
namespace Go.Proofs.YtnpajncolkafgaaGreatDoor
open Go.ChangeShapes Go.WideShapes Go.ChangeAt Go.RowKit

/-- What holds through the rounds. -/
structure AlI (w : World) (cs : Array Value) (A : Option Addr) (sv : List Int) (W : World) : Prop where
  blk : Blk W w.heap.size 25 cs
  ints : IntsIn W A sv
  b : Below w.heap.size w W
theorem AlI.on {w W W' : World} {cs : Array Value} {A : Option Addr} {sv : List Int} (h : AlI w cs A sv W) (hb : Below W.heap.size W W') : AlI w cs A sv W' :=
  ⟨h.blk.on hb, h.ints.on hb, h.b.trans (hb.mono h.b.size)⟩

/-- The readings ahead of i, beside kind k. -/
def aloneV (t : Tab) (l : List Int) (xs : List (Int × Int)) (i : Nat) : Bool := (List.range i).all (explAt t.ps xs xs l 1000)
theorem aloneV_succ {t : Tab} {l : List Int} {xs : List (Int × Int)} {i : Nat} {r : Int} {x : Int × Int} {p : Pr} (hr : l[i]? = some r) (hx : xs[i]? = some x) (hp : t.ps[i]? = some p) :
    aloneV t l xs (i + 1) = (aloneV t l xs i && decide (r = -1 ∨ (x.1 - p.er ≤ r ∧ r ≤ x.2 + p.er))) := by
  unfold aloneV
  rw [List.range_succ, List.all_append, ← alone_at hr hx hp]
  simp

set_option maxRecDepth 100000 in
set_option maxHeartbeats 4000000 in
theorem alone_any {w : World} (hB : Base w) {pa ka ra : Option Addr} {pc kc rc : Nat} {t : Tab} {l : List Int} (kind : Int) (hk0 : 0 ≤ kind ∧ kind ≤ 255) (h : RdIn w pa ka ra pc kc t l) (hlw : ∀ z ∈ l, (Lit.int .i64 z).wf = true) :
    Calls Tryz.prog 14 #[.agg #[.slice pa t.ps.length pc, .slice ka t.ks.length kc, .int .i64 t.pu], .slice ra l.length rc, .int .u8 kind] w fun e w' => e = .returned (.bool true) ∧ Below w.heap.size w w' := by
  have hA := (Below.refl _ w).alloc (Nat.le_refl _) (.cells #[.slice pa t.ps.length pc, .slice ka t.ks.length kc, .int .i64 t.pu] 25)
  have hp := h.tab.tab.lp
  have hk := h.tab.tab.lk
  have hl := h.rds.len
  have HB := Lib.hid hB
  have HR := Lib.hid h
  have HA := Lib.hid hA
  have H1 := Lib.hid (setsT_any (rc := rc) (h.on hA))
  have X0 := Lib.hid (Blk.new w 25 #[.slice pa t.ps.length pc, .slice ka t.ks.length kc, .int .i64 t.pu])
  clear h hB hA
  go_enter Tryz.func14, Tryz.ntmps14
  go_wp2_with fail
  refine H1.out.mono ?_
  rintro e w1 ⟨v, rfl, hI, hb⟩
  obtain ⟨vA, vn, vc, rfl⟩ : ∃ A n c, v = .slice A n c := by
    rcases hI.2 with ⟨hv, _⟩ | ⟨g, cap, cur, hv, _⟩
    · exact ⟨_, _, _, hv⟩
    · exact ⟨_, _, _, hv⟩
  obtain ⟨rfl, hI1, hI2, hI3⟩ := hI.reads
  have I1 : AlI w #[.slice pa t.ps.length pc, .slice ka t.ks.length kc, .int .i64 t.pu] vA (setsT t l).1 w1 := ⟨X0.out.on hb, ⟨hI1, by unfold maxLen at hI3; omega⟩, HA.out.trans (hb.mono (by simp))⟩
  have HI := Lib.hid I1
  have H2 := Lib.hid (rreadings_any (rc := rc) (HR.out.on I1.b))
  obtain ⟨x0, x1, x2, _, _, _, _⟩ := I1.blk.three
  have hvl : (setsT t l).1.length ≤ 9223372036854775807 := by unfold maxLen at hI3; omega
  clear hI hI1 hI2 hI3 hb I1 X0 HA H1
  by_cases h0 : lookErr t l = 0
  · have hT : setsT t l = (setsV t l, 0) := by unfold setsT; rw [if_neg (by simpa using h0)]
    have HS := Lib.hid (HR.out.sam h0)
    rw [hT] at HI hvl ⊢
    rw [h0] at H2
    dsimp only at HI hvl ⊢
    have hp5 := HS.out.val.np
    have hk8 := HS.out.val.nk
    clear hT h0
    obtain ⟨k, hkl, hke⟩ : ∃ k : Nat, k < t.ks.length ∧ kind.tmod (t.ks.length : Int) = k := by
      refine ⟨(kind.tmod (t.ks.length : Int)).toNat, ?_, ?_⟩
      · have := Int.tmod_lt_of_pos kind (show (0 : Int) < t.ks.length by omega)
        have := Int.tmod_nonneg (t.ks.length : Int) hk0.1
        omega
      · have := Int.tmod_nonneg (t.ks.length : Int) hk0.1
        omega
    go_wp2_with fail
    refine H2.out.mono ?_
    rintro e w2 ⟨rfl, hb⟩
    have HI := Lib.hid (HI.out.on hb)
    obtain ⟨x0, x1, x2, _, _, _, _⟩ := HI.out.blk.three
    clear hb H2
    go_wp2_with fail
    obtain ⟨xk, hxk⟩ : ∃ x, t.ks[k]? = some x := ⟨t.ks[k], List.getElem?_eq_getElem hkl⟩
    have hln : l.length = t.ps.length := by
      have := reads_len HS.out.rok
      omega
    have hrl : xk.rs.length = t.ps.length := HS.out.val.rl xk (List.mem_of_getElem? hxk)
    have hrs := HS.out.val.rs xk (List.mem_of_getElem? hxk)
    have her := HS.out.val.er
    have HF := Lib.hid (show decide (((2 ^ k : Nat) : Int) ∈ setsV t l) = aloneV t l xk.rs l.length by
      rw [alone_set t l k hkl hk8.2]
      unfold explB aloneV
      rw [hxk]; rfl)
    have HXK := Lib.hid hxk
    clear hxk x0 x1 x2
    go_loopw [10, 11] (fun v i wr => ∃ p : Nat, p ≤ l.length ∧ i = .int .i64 p ∧ (∃ b : Bool, v = .bool b ∧ Hid (b = aloneV t l xk.rs p)) ∧ AlI w #[.slice pa t.ps.length pc, .slice ka t.ks.length kc, .int .i64 t.pu] vA (setsV t l) wr) (fun _ i _ => l.length - (intOf i).toNat)
    case atStart => exact ⟨0, by omega, rfl, ⟨true, rfl, by show _ = _; rfl⟩, HI.out⟩
    case round =>
      obtain ⟨p, hpl, rfl, ⟨b, rfl, HV⟩, hI⟩ := hrel
      obtain ⟨x0, x1, x2, _, _, _, hbl⟩ := hI.blk.three
      by_cases hlt : p < l.length
      · obtain ⟨r, hr⟩ : ∃ x, l[p]? = some x := ⟨l[p], List.getElem?_eq_getElem hlt⟩
        obtain ⟨y, hy⟩ : ∃ x, xk.rs[p]? = some x := ⟨xk.rs[p]'(by omega), List.getElem?_eq_getElem _⟩
        obtain ⟨q, hq⟩ : ∃ x, t.ps[p]? = some x := ⟨t.ps[p]'(by omega), List.getElem?_eq_getElem _⟩
        have HT := HR.out.on hI.b
        obtain ⟨b1, o1, rfl, hb1, c1⟩ := ints_at HT.rds.at_ hr
        obtain ⟨b2, o2, rfl, hb2, c2, c3, hsp, _⟩ := kinds_at HT.tab.tab.ks HXK.out
        obtain ⟨b3, o3, ea, hb3, c4, c5⟩ := spans_at hsp hy
        obtain ⟨b4, o4, rfl, hb4, c6, c7⟩ := props_at HT.tab.tab.ps hq
        have hstep := aloneV_succ hr hy hq
        have hyr := hrs y (List.mem_of_getElem? hy)
        have hqr := her q (List.mem_of_getElem? hq)
        have hrw := hlw r (List.mem_of_getElem? hr)
        rw [← HV.out] at hstep
        have HST := Lib.hid hstep
        clear HV hr hy hq HT hsp hstep
        have hpt : p < t.ps.length := by omega
        have hpx : p < xk.rs.length := by omega
        have HLN := Lib.hid (And.intro hln hrl)
        clear hln hrl
        by_cases hr1 : r = -1
        · subst hr1
          have HST' := Lib.hid (show b = aloneV t l xk.rs (p + 1) by rw [HST.out]; simp)
          clear HST
          go_wp2_with fail
          go_roundw
          case rel => exact ⟨p + 1, by omega, by go_num, ⟨b, rfl, HST'⟩, hI.on (by repeat (first | exact Below.refl _ _ | refine Below.setCell ?_ (by simp) _ | refine Below.alloc ?_ (by first | omega | (simp; omega)) _))⟩
          case measure => simp [intOf]; omega
        · have hne : (r != -1) = true := by simpa using hr1
          have HST' := Lib.hid (show (b && (decide (y.1 - q.er ≤ r) && decide (r ≤ y.2 + q.er))) = aloneV t l xk.rs (p + 1) by
            rw [HST.out, ← Bool.decide_and]; simp [hr1])
          clear HST hr1
          cases b with
          | false =>
            go_wp2_with fail
            go_quiet (fail)
            go_wp2_with fail
            go_roundw
            case rel => exact ⟨p + 1, by omega, by go_num, ⟨false, rfl, HST'⟩, hI.on (by repeat (first | exact Below.refl _ _ | apply below_drewN' | refine Below.setCell ?_ (by simp) _ | refine Below.alloc ?_ (by first | omega | (simp; omega)) _))⟩
            case measure => simp [intOf]; omega
          | true =>
            cases h5 : decide (y.1 - q.er ≤ r) with
            | false =>
              rw [h5] at HST'
              go_wp2_with fail
              go_quiet (fail)
              go_wp2_with fail
              go_roundw
              case rel => exact ⟨p + 1, by omega, by go_num, ⟨false, rfl, HST'⟩, hI.on (by repeat (first | exact Below.refl _ _ | apply below_drewN' | refine Below.setCell ?_ (by simp) _ | refine Below.alloc ?_ (by first | omega | (simp; omega)) _))⟩
              case measure => simp [intOf]; omega
            | true =>
              rw [h5] at HST'
              go_wp2_with fail
              go_quiet (fail)
              go_wp2_with fail
              go_roundw
              case rel => exact ⟨p + 1, by omega, by go_num, ⟨_, rfl, HST'⟩, hI.on (by repeat (first | exact Below.refl _ _ | apply below_drewN' | refine Below.setCell ?_ (by simp) _ | refine Below.alloc ?_ (by first | omega | (simp; omega)) _))⟩
              case measure => simp [intOf]; omega
      · have hpe : p = l.length := by omega
        have H4 := Lib.hid (show (decide (((2 ^ k : Nat) : Int) ∈ setsV t l) == b) = true by
          rw [HF.out, HV.out, hpe]; simp)
        have H3 := Lib.hid (awake_any (HB.out.on hI.b))
        have hbit := bit_any k (by omega) wr
        have hlin := lin_any (c := vc) ((2 ^ k : Nat) : Int) hI.ints
        generalize decide (((2 ^ k : Nat) : Int) ∈ setsV t l) = b2 at *
        generalize ((2 ^ k : Nat) : Int) = n at *
        have HBIT := Lib.hid hbit
        have HLIN := Lib.hid hlin
        have h4 := H4.out
        have h4' : b2 = b := by simpa using h4
        subst h4'
        clear HV hpe hbit hlin h4
        go_wp2_with fail
        refine HBIT.out.mono ?_
        rintro e w3 ⟨rfl, rfl⟩
        go_wp2_with fail
        refine HLIN.out.mono ?_
        rintro e w4 ⟨rfl, rfl⟩
        go_wp2_with fail
        refine H3.out.mono ?_
        rintro e w5 ⟨rfl, hb⟩
        go_wp2_with fail
        go_ret
        exact ⟨rfl, hI.b.trans (hb.mono hI.b.size)⟩
  · have hT : setsT t l = ([], lookErr t l) := by unfold setsT; rw [if_pos h0]
    rw [hT] at HI hvl ⊢
    dsimp only at HI hvl ⊢
    generalize lookErr t l = z at *
    have hz : (z != 0) = true := by simpa using h0
    clear hT h0 hvl
    go_wp2_with fail
    refine H2.out.mono ?_
    rintro e w2 ⟨rfl, hb⟩
    have HI := Lib.hid (HI.out.on hb)
    have H3 := Lib.hid (awake_any (HB.out.on HI.out.b))
    clear hb H2
    go_wp2_with fail
    refine H3.out.mono ?_
    rintro e w5 ⟨rfl, hb⟩
    go_wp2_with fail
    go_ret
    exact ⟨rfl, HI.out.b.trans (hb.mono HI.out.b.size)⟩

set_option maxRecDepth 100000 in
theorem al_contract (H : Type) (enc : TypeId × Value → H) (W : World) (base : Nat) (args : Array Value) (ds gs : List (DataW H)) (before : List MemPlace)
    (hval0 : ∀ (j : Nat) t v, Tryz.f14.params[j]? = some t → args[j]? = some v → Value.okWide Tryz.prog W .any base t v)
    (hW : DataW.Whole enc Tryz.prog Tryz.f14.params.toList Rows.waxAloneSpec.vars false W args.toList ds gs before) (hL : laidMetH Tryz.prog Rows.waxAloneRow.laid W) (hS : W.ShapedOpen Tryz.prog) :
    Calls Tryz.prog 14 args W fun e W' => ∃ v, e = .returned v ∧ Rows.waxAloneSpec.post enc Tryz.prog Tryz.f14 false true false false W args v W' := by
  have hval : ∀ (j : Nat) t v, Tryz.f14.params[j]? = some t → args[j]? = some v → Value.okWide Tryz.prog W .any base t v := hval0
  have hW' := hW
  have hlt := hW.lt
  obtain ⟨p, q, hA0, hV, rfl, hfz, hnd⟩ := hW
  have hA : DataW.TrodAll enc Tryz.prog W 0 (fun _ => true) true Tryz.f14.params.toList args.toList ds p := hA0
  rw [Tryz.params14] at hA hval
  have hA2 := hA
  obtain ⟨v0, v1, v2, d0, d1, d2, p0, p1, p2, rfl, rfl, rfl, h0, h1, h2⟩ := trodAll_three hA
  obtain ⟨rfl, rfl⟩ := trodVars_none hV
  obtain ⟨pa, pc, ka, kc, t, rfl, hT⟩ := open_table (hval 0 25 v0 rfl rfl) h0
  obtain ⟨ra, l, rc, rfl, hI, hlw⟩ := open_ints_in h1 (okWide_slice Tryz.underlying32 (hval 1 32 v1 rfl rfl))
  obtain ⟨kind, rfl, _, _, hk⟩ := open_int Tryz.underlying5 (hval 2 5 v2 rfl rfl) h2
  refine (alone_any (base_of hL hS) kind (bounds_u8 hk) ⟨hT, hI⟩ hlw).mono fun e W' ⟨he, hb⟩ => ?_
  subst he
  exact ⟨_, rfl, [d0, d1, d2], [], (p0 ++ p1 ++ p2) ++ [], [], p0 ++ p1 ++ p2, [], hW', trodAll_cons_mk (shut_bool Tryz.underlying4 _) trodAll_mk0, by rw [Tryz.params14]; exact trodAll_below laidOut hb _ _ _ _ (by kernel_rfl) hA2 (fun x hx => hlt x (by simpa using hx)), rfl, hb.frame _, fun h => by cases h⟩

theorem al_reads (os : Os) {H : Type} (enc : TypeId × Value → H) : ∃ places, DataW.whole enc Tryz.prog ((laidWorld os).forCall (fun _ _ => 0) ⟨#[], #[.agg #[.slice none 0 0, .slice none 0 0, .int .i64 0], .slice none 0 0, .int .u8 0], []⟩).memory Tryz.f14.params.toList Rows.waxAloneSpec.vars false (#[.agg #[.slice none 0 0, .slice none 0 0, .int .i64 0], .slice none 0 0, .int .u8 0] : Array Value).toList 8 = some ([.agg [.nil, .nil, .lit (.int .i64 0)], .nil, .lit (.int .u8 0)], [], places) :=
  ⟨[], by kernel_rfl⟩

set_option maxRecDepth 100000 in
theorem al_lifted (os : Os) (started : os.Started) (H : Type) (enc : TypeId × Value → H) (F : Stop.Interp) :
    ReturnsInHanded {} Tryz.checked os 14 .any ((OpenSpec.ofChange Rows.waxAloneSpec).preRow enc Tryz.prog Tryz.f14 Rows.waxAloneRow.domain false Rows.waxAloneRow.laid) (((OpenSpec.ofChange Rows.waxAloneSpec).at F).post enc Tryz.prog Tryz.f14 false true false false) := by
  obtain ⟨places, hx⟩ := al_reads os enc
  refine returnsInHanded_of_row (C := Tryz.checked) (s := OpenSpec.ofChange Rows.waxAloneSpec) own started (by kernel_rfl) Tryz.func14
    (witness_row_atRef (enc := enc) (C := Tryz.checked) false (laidWorld os) #[.agg #[.slice none 0 0, .slice none 0 0, .int .i64 0], .slice none 0 0, .int .u8 0] rfl (by kernel_rfl) (by kernel_rfl) (by kernel_rfl)
      (OpenSpec.preRow_of_cond 8 hx (by kernel_rfl) (fun k hk => by cases hk) (by kernel_rfl) (laid_met os _))) ?_
  intro W base args ds gs before hval hW _ _ _ hL hS _
  exact al_contract H enc W base args ds gs before hval hW hL hS

set_option maxRecDepth 100000 in
theorem al_said : Rows.WaxAloneSaid :=
  OpenClaim.holds_of_cond 14 Tryz.f14 rfl rfl rfl rfl rfl rfl rfl ⟨rfl, rfl, rfl, rfl, rfl⟩ rfl rfl rfl rfl rfl (by kernel_rfl) Tryz.func14 (by kernel_rfl)
    (of_decide_eq_true (by kernel_rfl)) (by unfold Func.isWrapper; first | (rw [if_pos (by decide +kernel)]; kernel_rfl) | (rw [if_neg (by decide +kernel)]; exact ⟨rfl, rfl⟩))
    (fun os started H enc _ F => by rw [OpenClaim.pre_eq_preRow]; exact al_lifted os started H enc F)

theorem al_plain (f : FuncId) (fn : Func) (hf : Tryz.pinned.checked.prog.funcNamed "stearin/stearinlaw01.WaxAlone" = some f) (hfn : Tryz.pinned.checked.prog.funcs[f]? = some fn) :
    true = Tryz.pinned.checked.prog.looks [] ∧ ∀ (j : Nat) t, fn.params[j]? = some t → Tryz.pinned.checked.prog.wantsStandIn t = false := by
  obtain rfl : f = 14 := Option.some.inj ((show Tryz.prog.funcNamed "stearin/stearinlaw01.WaxAlone" = some 14 by kernel_rfl).symm.trans hf) |>.symm
  obtain rfl : fn = Tryz.f14 := (Option.some.inj (Tryz.func14.symm.trans hfn)).symm
  refine ⟨by kernel_rfl, fun j t ht => ?_⟩
  rw [Tryz.params14] at ht
  have hm : t ∈ [25, 32, 5] := by simpa using Array.mem_of_getElem? ht
  have hall : ([25, 32, 5].all fun u => !Tryz.prog.wantsStandIn u) = true := by kernel_rfl
  exact (show Tryz.prog.wantsStandIn t = false by simpa using List.all_eq_true.1 hall t hm)

theorem waxAlone_holds : Rows.WaxAloneCardSaid :=
  Claim7.holds_tied_plain_at .later [] _ _ _ _ al_said (fun _ h => by cases h) (by kernel_rfl) (fun _ h => by cases h) waxAlone_row_tie rfl ⟨rfl, rfl⟩ (by kernel_rfl) rfl al_plain (by kernel_rfl)
end Go.Proofs.YtnpajncolkafgaaGreatDoor
