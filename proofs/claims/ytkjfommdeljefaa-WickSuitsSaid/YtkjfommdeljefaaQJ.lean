/- slices.AppendSeq, Collect at the wicks that suit. -/
import Derived.Test.YtkjfommdeljefaaQI
import Derived.RangeFuncNested
import Derived.RangeFuncBound
import Derived.RangeFuncCalls
import Derived.RangeFuncLeaves
import Derived.RangeFuncWrites
import Derived.Shelf.RegionOpen
import Derived.OwnWalkIn
import Derived.TacticsInMore
import Derived.LoopNIn
import Derived.LoopIn
import Derived.Maps.OwnIn
namespace Go.Proofs.Ytkjfommdeljefaa
open Go.RowKit Go.Shelf Go.Maps
attribute [local go_sem] Oper.semAt_some


theorem own_blk_ne {B e sz n : Nat} {v : Value} {xs : List Value} {W : World} {g T : Nat} {cs : Array Value} (h : W.ownsRow B e sz v n xs) (hb : Blk W g T cs) (hT : e ≠ T) : v.ownBlock ≠ some g := by
  rcases h.2 with ⟨rfl, _⟩ | ⟨g', cap, cur, rfl, _, hg, _⟩
  · intro e; cases e
  · intro e
    have e2 : g' = g := by simpa [Value.ownBlock] using e
    subst e2
    unfold Blk at hb
    rw [hg] at hb
    cases hb
    exact hT rfl
theorem own_cells {B e sz n : Nat} {v : Value} {xs : List Value} {W : World} (h : W.ownsRow B e sz v n xs) : ∀ r o, v.ownBlock = some r → W.heap[r]? = some o → o.isCells = true := by
  intro r o hr ho
  rcases h.2 with ⟨rfl, _⟩ | ⟨g', cap, cur, rfl, _, hg, _⟩
  · cases hr
  · have e2 : g' = r := by simpa [Value.ownBlock] using hr
    subst e2
    rw [hg] at ho
    cases ho
    rfl
theorem blk_cells {W : World} {g : Nat} {T : TypeId} {cs : Array Value} (h : Blk W g T cs) : ∀ r o, some g = some r → W.heap[r]? = some o → o.isCells = true := by
  intro r o hr ho
  cases hr
  unfold Blk at h
  rw [h] at ho
  cases ho
  rfl
theorem keeps_cells {B : Nat} {W W' : World} {row : Option Nat} (hg : W.grownBy W' row) (h : ∀ r o, row = some r → W.heap[r]? = some o → o.isCells = true) : KeepsFrom B W W' :=
  ⟨hg.size, fun k o _ hk ho => (hg.block k (Array.getElem?_eq_some_iff.1 hk).1 (fun e => by have := h k o e.symm hk; rw [ho] at this; cases this)).trans hk⟩
theorem own_not {B e sz n : Nat} {v : Value} {xs : List Value} {W : World} {row : Option Nat} (h : W.ownsRow B e sz v n xs) (hr : ∀ r, row = some r → ∃ o : Obj, W.heap[r]? = some o ∧ o.isCells = false) : v.ownBlock = none ∨ v.ownBlock ≠ row := by
  cases hv : v.ownBlock with
  | none => exact .inl rfl
  | some g =>
    refine .inr fun e => ?_
    obtain ⟨o, ho, hc⟩ := hr g e.symm
    have := own_cells h g o hv ho
    rw [hc] at this; cases this
theorem blk_not {W W' : World} {g : Nat} {T : TypeId} {cs : Array Value} {row : Option Nat} (h : Blk W g T cs) (hg : W.grownBy W' row) (hr : ∀ r, row = some r → ∃ o : Obj, W.heap[r]? = some o ∧ o.isCells = false) : Blk W' g T cs := by
  refine (hg.block g h.lt (fun e => ?_)).trans h
  obtain ⟨o, ho, hc⟩ := hr g e.symm
  have := blk_cells h g o rfl ho
  rw [hc] at this; cases this
/-- Between two rounds of AppendSeq. -/
def ColI {m : Nat} (w : World) (Bs : Nat) (V : Array Value) (pre : List (Fin m)) (W : World) : Prop :=
  ∃ v, Blk W w.heap.size 48 #[v] ∧ IntsOut w.heap.size W v (pre.map fun i => (i.1 : Int)) ∧ Below w.heap.size w W ∧ Blk W Bs 93 V
theorem colI_own {m : Nat} {w : World} {Bs : Nat} {V : Array Value} (B : Nat) (hB : w.heap.size ≤ B) : OwnFrom B (ColI (m := m) w Bs V) := by
  rintro s W W' row ⟨v, h1, h2, h3, h4⟩ hg hr
  have hr' : ∀ r, row = some r → ∃ o : Obj, W.heap[r]? = some o ∧ o.isCells = false := fun r e => (hr r e).2
  exact ⟨v, blk_not h1 hg hr', World.ownsRow.kept h2 hg (own_not h2 hr'), h3.grown hg h3.size (fun k e => by have := (hr k e).1; omega), blk_not h4 hg hr'⟩
set_option maxRecDepth 100000 in
set_option maxHeartbeats 4000000 in
theorem appSeq_any {w : World} {p : Sp} {c : Cd} {x : Wx} (h : ShIn w p) (ha : AskC p.s c x) (Bs : Nat) (hbox : Blk w Bs 93 #[.slice p.ka p.s.ks.length p.kc, .slice p.xa p.s.xs.length p.xc, .int .i64 p.s.flo, .int .i64 p.s.fhi, .int .i64 p.s.plo, .int .i64 p.s.phi, .int .i64 c.wax, .int .i64 c.dia, .int .i64 c.dra, .int .i64 c.clo, .int .i64 c.chi]) :
    CallsIn Fence.wide 10 Try.prog 89 #[.slice none 0 0, .func (.func 90) #[] #[.pointer (some ⟨Bs, 0, none⟩)]] w fun e w' => ∃ v, e = .returned v ∧ IntsOut w.heap.size w' v ((suitN p.s x c p.s.ks.length).map Int.ofNat) ∧ Below w.heap.size w w' := by
  have hro : Fence.wide.round = none := rfl
  have hn1 : 1 ≤ 10 := by decide
  obtain ⟨i0, hi0, hz0, hz1, hz2⟩ := info_parts infoInt
  have hnk := ha.sh.nk
  have HS := Lib.hid h
  have HA := Lib.hid ha
  have HX := Lib.hid hbox
  have hbl := hbox.lt
  have hb0 : Below w.heap.size w (w.alloc (.cells #[.slice none 0 0] 48)) := (Below.refl _ w).alloc (Nat.le_refl _) _
  have HB0 := Lib.hid hb0
  have HI0 : Hid (ColI (m := p.s.ks.length) w Bs #[.slice p.ka p.s.ks.length p.kc, .slice p.xa p.s.xs.length p.xc, .int .i64 p.s.flo, .int .i64 p.s.fhi, .int .i64 p.s.plo, .int .i64 p.s.phi, .int .i64 c.wax, .int .i64 c.dia, .int .i64 c.dra, .int .i64 c.clo, .int .i64 c.chi] [] (w.alloc (.cells #[.slice none 0 0] 48))) := ⟨_, Blk.new w _ _, IntsOut.nil _ _, hb0, hbox.alloc _⟩
  clear h hbox ha hb0
  refine callsIn_of_wp_marks Try.func89 rfl trivial ?_ hro
  simp only [Try.ntmps89, List.size_toArray, List.length_cons, List.length_nil, Nat.reduceAdd, Nat.reduceSub, Array.replicate_succ, Array.replicate_zero, List.push_toArray, List.append_toArray, List.nil_append, List.cons_append]
  gi_wp2_with fail
  refine wpIn_rangeFunc_ownG hro hn1 (gf := 90) (lb := #[.pointer (some ⟨Bs, 0, none⟩)]) rfl trivial (enters_of Try.func90 (by kernel_rfl) rfl)
    (suit_stops (wB := w) (w0 := w) HS.out HA.out Bs HX.out (Below.refl _ _) 9 (by decide)) keepB_t (keepB_b HB0.out.size) HB0.out (fun _ => rfl)
    (ColI w Bs #[.slice p.ka p.s.ks.length p.kc, .slice p.xa p.s.xs.length p.xc, .int .i64 p.s.flo, .int .i64 p.s.fhi, .int .i64 p.s.plo, .int .i64 p.s.phi, .int .i64 c.wax, .int .i64 c.dia, .int .i64 c.dra, .int .i64 c.clo, .int .i64 c.chi]) (fun _ _ _ => False) (colI_own _ HB0.out.size) (fun _ _ _ _ _ hs _ _ => hs) HI0.out
    (fun i => { tmps := #[.slice none 0 0, .func (.func 90) #[] #[.pointer (some ⟨Bs, 0, none⟩)], .pointer (some ⟨w.heap.size, 0, none⟩), undef, .slice none 0 0, .int .i64 (i.1 : Int), .func (.func 90) #[] #[.pointer (some ⟨Bs, 0, none⟩)], .int .i64 (i.1 : Int), undef, undef, undef, undef, undef], defers := [] }) ?assign ?body ?done ?stop
  case assign =>
    intro lo i W K hK
    gi_wp2_with fail
    exact hK
  case body =>
    rintro lo pre i W ⟨v, I1, I2, I3, I4⟩ hlt
    have m0 := I1.cell 0
    have m1 := I1.frozen 0
    have m2 := I1.lt
    have HI1 := Lib.hid I1
    have HI2 := Lib.hid I2
    have HI3 := Lib.hid I3
    have HI4 := Lib.hid I4
    have hln : (pre.map fun i => (i.1 : Int)).length < 12 := by rw [List.length_map]; omega
    clear I1 I2 I3 I4
    gi_wp2_with (first
      | (gi_at_builtin; refine wpListIn_append_own _ rfl _ _ 48 rfl w.heap.size 3 i0 (.int .i64 0) 1 8 und_ints hi0 hz0 hz1 hz2 rfl (by decide) _ _ _ rfl (World.ownsRow.alloc HI2.out _) ⟨W.heap.size, 0, none⟩ 1 1 [.int .i64 (i.1 : Int)] rfl rfl (cell_one_new _ _ _) (by simp [Value.oneCell']) (by unfold maxLen; omega) (by omega) (by have := HI3.out.size; simp; omega) ?_; intro v' w3 hown' hg3 hnil3; rw [List.length_map] at hown'; obtain ⟨A', c', hv'⟩ := own_slice hown'; subst hv'
         have hd3 : W.grownBy w3 v.ownBlock := grown_then (World.grownBy_alloc W _ _) hg3
         have hb3 : Blk w3 w.heap.size 48 #[v] := (hd3.block _ HI1.out.lt (fun e => own_blk_ne HI2.out HI1.out (by decide) e.symm)).trans HI1.out
         have n0 := hb3.cell 0
         have n1 := hb3.frozen 0
         have n2 := hb3.lt
         have HF : Hid (KeepsFrom (w.alloc (.cells #[.slice none 0 0] 48)).heap.size W (w3.setCell ⟨w.heap.size, 0, none⟩ (.slice A' (pre.length + 1) c')) ∧ KeepB w.heap.size Bs W (w3.setCell ⟨w.heap.size, 0, none⟩ (.slice A' (pre.length + 1) c')) ∧ ColI w Bs #[.slice p.ka p.s.ks.length p.kc, .slice p.xa p.s.xs.length p.xc, .int .i64 p.s.flo, .int .i64 p.s.fhi, .int .i64 p.s.plo, .int .i64 p.s.phi, .int .i64 c.wax, .int .i64 c.dia, .int .i64 c.dra, .int .i64 c.clo, .int .i64 c.chi] (pre ++ [i]) (w3.setCell ⟨w.heap.size, 0, none⟩ (.slice A' (pre.length + 1) c'))) := by
           have hg4 := grown_one w3 w.heap.size 0 (.slice A' (pre.length + 1) c')
           have hbs3 : ∀ cs, Blk W Bs 93 cs → Blk w3 Bs 93 cs := fun cs hc => (hd3.block _ hc.lt (fun e => own_blk_ne HI2.out hc (by decide) e.symm)).trans hc
           have hbs4 : ∀ cs, Blk w3 Bs 93 cs → Blk (w3.setCell ⟨w.heap.size, 0, none⟩ (.slice A' (pre.length + 1) c')) Bs 93 cs := fun cs hc => hc.far (by show Bs ≠ w.heap.size; omega) _
           have hbe3 : Below w.heap.size W w3 := (Below.refl _ W).grown hd3 HI3.out.size (fun k e => (World.ownsRow.lt HI2.out k e).1)
           have hbe4 : Below w.heap.size W (w3.setCell ⟨w.heap.size, 0, none⟩ (.slice A' (pre.length + 1) c')) := hbe3.setCell (Nat.le_refl _) _
           refine ⟨(keeps_cells hd3 (own_cells HI2.out)).trans (keeps_cells hg4 (blk_cells hb3)), ⟨hbe4, fun cs hc => hbs4 cs (hbs3 cs hc)⟩, (.slice A' (pre.length + 1) c'), ?_, ?_, HI3.out.trans hbe4, hbs4 _ (hbs3 _ HI4.out)⟩
           · have := hb3.set_ 0 (.slice A' (pre.length + 1) c'); simpa using this
           · have h9 : IntsOut w.heap.size w3 (.slice A' (pre.length + 1) c') ((pre ++ [i]).map fun i => (i.1 : Int)) := by unfold IntsOut; simpa using hown'
             exact World.ownsRow.kept h9 hg4 (.inr (own_blk_ne h9 hb3 (by decide)))
         clear hown' hg3 hnil3 hd3 hb3)
      | fail)
    exact HF.out
  case done =>
    rintro D ys W hD rfl ⟨v, I1, I2, I3, I4⟩ hK
    have m0 := I1.cell 0
    have m2 := I1.lt
    have HI2 := Lib.hid I2
    have HI3 := Lib.hid I3
    have HK := Lib.hid hK
    clear I1 I2 I3 I4 hK
    gi_wp2_with fail
    refine ⟨by simp, .inl ⟨_, _, rfl, run_takeDeferred HK.out, ?_⟩⟩
    have HM := suitF_map p.s x c p.s.ks.length (Nat.le_refl _)
    refine ⟨_, results_tmp rfl _ _ _, v, rfl, ?_, ?_⟩
    · rw [← HM]; exact World.ownsRow.kept HI2.out (grownBy_putObj' _ D _) (own_not HI2.out (fun r e => by cases e; exact ⟨_, HK.out, rfl⟩))
    · exact HI3.out.trans (belowK_b (w := w) (Nat.le_refl _) W D _ _ (by have := HB0.out.size; omega) HK.out rfl rfl)
  case stop =>
    rintro D c pre W _ _ h _
    exact h.elim
theorem collect_any {w : World} {p : Sp} {c : Cd} {x : Wx} (h : ShIn w p) (ha : AskC p.s c x) (Bs : Nat) (hbox : Blk w Bs 93 #[.slice p.ka p.s.ks.length p.kc, .slice p.xa p.s.xs.length p.xc, .int .i64 p.s.flo, .int .i64 p.s.fhi, .int .i64 p.s.plo, .int .i64 p.s.phi, .int .i64 c.wax, .int .i64 c.dia, .int .i64 c.dra, .int .i64 c.clo, .int .i64 c.chi]) :
    Calls Try.prog 62 #[.func (.func 90) #[] #[.pointer (some ⟨Bs, 0, none⟩)]] w fun e w' => ∃ v, e = .returned v ∧ IntsOut w.heap.size w' v ((suitN p.s x c p.s.ks.length).map Int.ofNat) ∧ Below w.heap.size w w' := by
  have HC := Lib.hid (callsIn_wide.1 (appSeq_any h ha Bs hbox))
  clear h ha hbox
  go_enter Try.func62, Try.ntmps62
  go_wp2_with (refine HC.out.mono ?_; rintro e w1 ⟨v, rfl, ho, hb⟩; have HO := Lib.hid ho; have HB := Lib.hid hb; clear ho hb)
  go_ret
  exact ⟨v, rfl, HO.out, HB.out⟩
end Go.Proofs.Ytkjfommdeljefaa
