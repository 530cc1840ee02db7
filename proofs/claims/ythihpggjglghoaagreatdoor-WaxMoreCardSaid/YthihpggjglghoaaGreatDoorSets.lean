/- wax.sets: contract. -/
import Derived.Test.YthihpggjglghoaaGreatDoorPof
import Derived.Maps.OwnIn
namespace Go.Proofs.YthihpggjglghoaaGreatDoor
open Go.RowKit Go.Shelf
attribute [local go_sem] Oper.semAt_some

/-- The set of two kinds. -/
def pairSet {n : Nat} (x : Fin n × Fin n) : Nat := 2 ^ x.1.1 ||| 2 ^ x.2.1
/-- The map of the sets: a datum. -/
def setsD {H : Type} {n : Nat} (xs : List (Fin n × Fin n)) : DataW H := xs.foldl (fun D x => D.put (.int .i64 (pairSet x)) (.lit (.bool true))) (.map [])
theorem setsD_snoc {H : Type} {n : Nat} (pre : List (Fin n × Fin n)) (x : Fin n × Fin n) : setsD (H := H) (pre ++ [x]) = (setsD pre).put (.int .i64 (pairSet x)) (.lit (.bool true)) := by simp [setsD]

theorem or_fin : ∀ a b : Fin 8, bits BinOp.or IntKind.i64 (IntKind.i64.wrap (2 ^ a.1)) (IntKind.i64.wrap (2 ^ b.1)) = ((2 ^ a.1 ||| 2 ^ b.1 : Nat) : Int) := by decide +kernel
theorem or_pair {n : Nat} (h : n ≤ 8) (a b : Fin n) : ((pairSet (a, b) : Nat) : Int) = bits BinOp.or IntKind.i64 (IntKind.i64.wrap (2 ^ a.1)) (IntKind.i64.wrap (2 ^ b.1)) := (or_fin ⟨a.1, by omega⟩ ⟨b.1, by omega⟩).symm
theorem pairSet_wf {n : Nat} (x : Fin n × Fin n) (h : n ≤ 8) : (Lit.int .i64 (pairSet x)).wf = true := by
  have h1 : pairSet x < 2 ^ 8 := Nat.or_lt_two_pow (Nat.pow_lt_pow_right (by decide) (by have := x.1.2; omega)) (Nat.pow_lt_pow_right (by decide) (by have := x.2.2; omega))
  have h2 : (2 : Nat) ^ 8 = 256 := by decide
  exact WalkArith.wf_i64 (by omega)
/-- Between two rounds of sets. -/
def SetI {H : Type} (w : World) (t : Tab) (_l : List Int) (sam : Array Value) (pre : List (Fin t.ks.length × Fin t.ks.length)) (W : World) : Prop :=
  Blk W w.heap.size 57 sam ∧ Blk W (w.heap.size + 1 + 1) 87 #[.map (some (w.heap.size + 1))] ∧ Blk W (w.heap.size + 1 + 1 + 1) 57 sam ∧ W.ownsMap Tryz.prog 3 (plainElem (H := H) Tryz.prog 4) (w.heap.size + 1) pre.length (setsD pre) ∧ Below w.heap.size w W
theorem setI_own {H : Type} {w w1 : World} {t : Tab} {l : List Int} {sam : Array Value} (hs : w1.heap.size = w.heap.size + 4) : OwnFrom w1.heap.size (SetI (H := H) w t l sam) := by
  rintro s W W' row ⟨I0, I2, I4, hm, hb⟩ hg hr
  have hr' : ∀ r, row = some r → w1.heap.size ≤ r := fun r e => (hr r e).1
  exact ⟨I0.grown hg hr' (by omega), I2.grown hg hr' (by omega), I4.grown hg hr' (by omega), hm.kept hg (fun e => by have := hr' _ e.symm; omega), hb.grown hg hb.size (fun k e => by have := hr' k e; omega)⟩

set_option maxRecDepth 100000 in
set_option maxHeartbeats 4000000 in
theorem sets_in {H : Type} {w : World} {pa ka ra : Option Addr} {pc kc rc : Nat} {t : Tab} {l : List Int} (h : SamIn w pa ka ra pc kc t l) :
    CallsIn Fence.wide 10 Tryz.prog 38 #[.agg #[.slice pa t.ps.length pc, .slice ka t.ks.length kc, .int .i64 t.pu, .slice ra l.length rc]] w fun e w' => e = .returned (.map (some (w.heap.size + 1))) ∧ w'.ownsMap Tryz.prog 3 (plainElem (H := H) Tryz.prog 4) (w.heap.size + 1) (outerF t.ks.length (pairOk t l) t.ks.length).length (setsD (outerF t.ks.length (pairOk t l) t.ks.length)) ∧ Below w.heap.size w w' := by
  have hro : Fence.wide.round = none := rfl
  have hn1 : 1 ≤ 10 := by decide
  have h1 := h.tab.tab.lp
  have h2 := h.tab.tab.lk
  have h3 := h.rds.len
  have HS := Lib.hid h
  clear h
  have hmm := @run_makeMap Tryz.prog
  refine callsIn_of_wp_marks Tryz.func38 rfl trivial ?_ hro
  simp only [Tryz.ntmps38, List.size_toArray, List.length_cons, List.length_nil, Nat.reduceAdd, Nat.reduceSub, Array.replicate_succ, Array.replicate_zero, List.push_toArray, List.append_toArray, List.nil_append, List.cons_append]
  gi_wp2_with fail
  refine ⟨trivial, ?_⟩
  refine (callsIn_wide.2 (pairs_any _ _ _ _ _)).mono ?_
  rintro e w1 ⟨rfl, hw1⟩
  have hsz : w1.heap.size = w.heap.size + 4 := by rw [hw1]; simp
  have B0 : Blk w1 w.heap.size 57 #[.slice pa t.ps.length pc, .slice ka t.ks.length kc, .int .i64 t.pu, .slice ra l.length rc] := by rw [hw1]; exact (((Blk.new w _ _).alloc _).alloc _).alloc _
  have B2 : Blk w1 (w.heap.size + 1 + 1) 87 #[.map (some (w.heap.size + 1))] := by rw [hw1]; exact (Blk.new2 w _ _ _ _).alloc _
  have B4 : Blk w1 (w.heap.size + 1 + 1 + 1) 57 #[.slice pa t.ps.length pc, .slice ka t.ks.length kc, .int .i64 t.pu, .slice ra l.length rc] := by rw [hw1]; exact Blk.new3 w _ _ _ _ _
  have hm0 := World.ownsMap_made (w.alloc (.cells #[.slice pa t.ps.length pc, .slice ka t.ks.length kc, .int .i64 t.pu, .slice ra l.length rc] 57)) Tryz.prog 3 (plainElem (H := H) Tryz.prog 4)
  simp only [World.size_alloc] at hm0
  have hbw : Below w.heap.size w w1 := by rw [hw1]; exact ((((Below.refl _ w).alloc (Nat.le_refl _) _).alloc (by simp) _).alloc (by simp; omega) _).alloc (by simp; omega) _
  have hm1 : w1.ownsMap Tryz.prog 3 (plainElem (H := H) Tryz.prog 4) (w.heap.size + 1) 0 (.map []) := by rw [hw1]; exact (hm0.alloc _).alloc _
  have HSZ := Lib.hid hsz
  clear hw1 hsz hm0
  simp only [World.size_alloc]
  have hlenP : t.ks.length * t.ks.length ≤ 64 := by
    have h6 := HS.out.val.nk.2
    have h7 : t.ks.length * t.ks.length ≤ 8 * 8 := Nat.mul_le_mul h6 h6
    omega
  gi_wp2_with fail
  refine wpIn_rangeFunc_ownG hro hn1 (gf := 91) (lb := #[.pointer (some ⟨w.heap.size + 1 + 1 + 1, 0, none⟩)]) rfl trivial (enters_of Tryz.func91 (by kernel_rfl) rfl)
    (pairs_stops (wB := w) (w0 := w1) HS.out (w.heap.size + 1 + 1 + 1) B4 hbw 9 (by decide)) keepB_t (keepB_b hbw.size) (Below.refl _ _) (fun _ => rfl)
    (SetI (H := H) w t l #[.slice pa t.ps.length pc, .slice ka t.ks.length kc, .int .i64 t.pu, .slice ra l.length rc]) (fun _ _ _ => False) (setI_own HSZ.out) (fun _ _ _ _ _ hs _ _ => hs)
    ⟨B0, B2, B4, hm1, hbw⟩
    (fun x => { tmps := #[.agg #[.slice pa t.ps.length pc, .slice ka t.ks.length kc, .int .i64 t.pu, .slice ra l.length rc], .pointer (some ⟨w.heap.size, 0, none⟩), .map none, .pointer (some ⟨w.heap.size + 1 + 1, 0, none⟩), .int .i64 x.1.1, .int .i64 x.2.1, .map (some (w.heap.size + 1)), .agg #[.slice pa t.ps.length pc, .slice ka t.ks.length kc, .int .i64 t.pu, .slice ra l.length rc], .func (.func 91) #[] #[.pointer (some ⟨w.heap.size + 1 + 1 + 1, 0, none⟩)], .int .i64 x.1.1, .int .i64 x.2.1, undef, undef, undef, undef, undef, undef, undef], defers := [] }) ?assign ?body ?done ?stop
  case assign =>
    intro lo x W K hK
    gi_wp2_with fail
    exact hK
  case body =>
    rintro lo pre x W ⟨I0, I2, I4, hown, hIb⟩ hlt
    obtain ⟨a, b⟩ := x
    have ha := a.2
    have hb := b.2
    have h8 := HS.out.val.nk.2
    obtain ⟨m0, m1, m2⟩ := I2.one
    obtain ⟨W1, hrun, hown1, hgrow1⟩ := World.ownsMap.update (hown.drew) (Maps.int_keyed Tryz.underlying3) Tryz.underlying87 (by have := hlenP; unfold maxLen; omega) (Maps.keyOf_int_mk Tryz.underlying3 (pairSet_wf (a, b) h8)) (plainElem_bool Tryz.underlying4 true)
    clear B0 B2 B4 hm1
    have hrun2 := hrun
    rw [or_pair h8] at hrun2
    have hgW : W.grownBy W1 (some (w.heap.size + 1)) := ⟨hgrow1.os, hgrow1.tape, hgrow1.output, hgrow1.size, hgrow1.block⟩
    have hfin : KeepsFrom w1.heap.size W W1 ∧ KeepB w.heap.size (w.heap.size + 1 + 1 + 1) W W1 ∧ SetI (H := H) w t l #[.slice pa t.ps.length pc, .slice ka t.ks.length kc, .int .i64 t.pu, .slice ra l.length rc] (pre ++ [(a, b)]) W1 := by
      have hro : ∀ r, some (w.heap.size + 1) = some r → w.heap.size ≤ r := fun r e => by cases e; omega
      have hbW : Below w.heap.size W W1 := (Below.refl _ W).grown hgW hIb.size hro
      have hkeep : ∀ {g T cs}, Blk W g T cs → g ≠ w.heap.size + 1 → Blk W1 g T cs := fun hB hne => (hgW.block _ hB.lt (fun e => by cases e; exact hne rfl)).trans hB
      refine ⟨KeepsFrom.of_grownBy hgW (fun j e => by cases e; have := HSZ.out; omega), ⟨hbW, fun cs hc => hkeep hc (by omega)⟩, hkeep I0 (by omega), hkeep I2 (by omega), hkeep I4 (by omega), ?_, hIb.trans hbW⟩
      rw [setsD_snoc, List.length_append]
      exact hown1
    have HF := Lib.hid hfin
    clear hrun hown hown1 hgrow1 hgW hfin
    gi_wp2_with fail
    gi_region
    all_goals exact HF.out
  case done =>
    rintro D ys W hD rfl ⟨I0, I2, I4, hown, hIb⟩ hK
    obtain ⟨m0, m1, m2⟩ := I2.one
    clear B0 B2 B4 hm1
    have HO := Lib.hid hown
    have HK := Lib.hid hK
    clear hown hK
    gi_wp2_with fail
    refine ⟨by simp, .inl ⟨_, _, rfl, run_takeDeferred HK.out, ?_⟩⟩
    exact ⟨_, results_tmp rfl _ _ _, rfl, HO.out.kept (grownBy_putObj' _ D _) (fun e => by cases e; have := HSZ.out; omega), hIb.trans (belowK_b (w := w) (Nat.le_refl _) W D _ _ (by have := hbw.size; omega) HK.out rfl rfl)⟩
  case stop =>
    rintro D c pre W _ _ h _
    exact h.elim
end Go.Proofs.YthihpggjglghoaaGreatDoor
