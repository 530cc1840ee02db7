/- wax.pairs, partsOf: contracts. -/
import Derived.Test.YthihpggjglghoaaGreatDoorPair
namespace Go.Proofs.YthihpggjglghoaaGreatDoor
open Go.RowKit Go.Shelf
attribute [local go_sem] Oper.semAt_some

set_option maxHeartbeats 400000 in
theorem pairs_any (c0 c1 c2 c3 : Value) (w : World) :
    Calls Tryz.prog 67 #[.agg #[c0, c1, c2, c3]] w fun e w' => e = .returned (.func (.func 91) #[] #[.pointer (some ⟨w.heap.size, 0, none⟩)]) ∧ w' = w.alloc (.cells #[c0, c1, c2, c3] 57) := by
  go_enter Tryz.func67, Tryz.ntmps67
  go_wp2
  go_ret
  exact ⟨rfl, rfl⟩

/-- One pair more. -/
def ofStep (t : Tab) (l : List Int) (kind : Nat) (all : Int × Int) (x : Fin t.ks.length × Fin t.ks.length) : Int × Int :=
  let p := if kind = x.1.1 then partsV t l x.1.1 x.2.1 else if kind = x.2.1 then partsV t l x.2.1 x.1.1 else (0, 0)
  (min all.1 p.1, max all.2 p.2)
def partsOfV (t : Tab) (l : List Int) (kind : Nat) : Int × Int := (outerF t.ks.length (pairOk t l) t.ks.length).foldl (ofStep t l kind) (1000, -1)
theorem fold_snoc {α β : Type} (f : α → β → α) (a : α) (l : List β) (x : β) : (l ++ [x]).foldl f a = f (l.foldl f a) x := by simp

/-- A block behind a step that turns at most one block beyond it. -/
theorem Blk.grown {W W' : World} {g : Nat} {T : TypeId} {cs : Array Value} {row : Option Nat} {B : Nat} (h : Blk W g T cs) (hg : W.grownBy W' row) (hr : ∀ r, row = some r → B ≤ r) (hB : g < B) : Blk W' g T cs :=
  (hg.block g h.lt (fun e => by have := hr g e.symm; omega)).trans h
/-- Between two rounds of partsOf. -/
def PofI (w _w1 : World) (t : Tab) (l : List Int) (kind : Nat) (sam : Array Value) (pre : List (Fin t.ks.length × Fin t.ks.length)) (W : World) : Prop :=
  ∃ q : Int × Int, Blk W (w.heap.size + 1 + 1 + 1) 43 #[.int .i64 q.1, .int .i64 q.2] ∧ q = pre.foldl (ofStep t l kind) (1000, -1) ∧ Blk W w.heap.size 57 sam ∧ Blk W (w.heap.size + 1) 3 #[.int .i64 kind] ∧ Blk W (w.heap.size + 1 + 1) 43 #[.int .i64 0, .int .i64 0] ∧ Blk W (w.heap.size + 1 + 1 + 1 + 1) 57 sam ∧ Below w.heap.size w W
theorem pofI_own {w w1 : World} {t : Tab} {l : List Int} {kind : Nat} {sam : Array Value} (hs : w1.heap.size = w.heap.size + 5) : OwnFrom w1.heap.size (PofI w w1 t l kind sam) := by
  rintro s W W' row ⟨q, I3, hq, I0, I1, I2, I4, hb⟩ hg hr
  have hr' : ∀ r, row = some r → w1.heap.size ≤ r := fun r e => (hr r e).1
  exact ⟨q, I3.grown hg hr' (by omega), hq, I0.grown hg hr' (by omega), I1.grown hg hr' (by omega), I2.grown hg hr' (by omega), I4.grown hg hr' (by omega), hb.grown hg hb.size (fun k e => by have := hr' k e; omega)⟩

theorem keepsOthers_below {W W' : World} (h : Below W.heap.size W W') : KeepsOthers W W' := ⟨h.size, fun k o hk _ => (h.block k (by
  rcases Nat.lt_or_ge k W.heap.size with hlt | hge
  · exact hlt
  · rw [Array.getElem?_eq_none hge] at hk; cases hk)).trans hk⟩
/-- A round of partsOf. -/
theorem pof_step {w w1 W W2 : World} {t : Tab} {l : List Int} {kind : Nat} {sam : Array Value} {pre : List (Fin t.ks.length × Fin t.ks.length)} {x : Fin t.ks.length × Fin t.ks.length} {q q' : Int × Int} (B : Nat)
    (I3 : Blk W (w.heap.size + 1 + 1 + 1) 43 #[.int .i64 q.1, .int .i64 q.2]) (hq : q = pre.foldl (ofStep t l kind) (1000, -1)) (I0 : Blk W w.heap.size 57 sam) (I1 : Blk W (w.heap.size + 1) 3 #[.int .i64 kind]) (I2 : Blk W (w.heap.size + 1 + 1) 43 #[.int .i64 0, .int .i64 0]) (I4 : Blk W (w.heap.size + 1 + 1 + 1 + 1) 57 sam) (hIb : Below w.heap.size w W)
    (hb2 : Below W.heap.size W W2) (hst : ofStep t l kind q x = q') :
    KeepsFrom B W ((W2.setCell ⟨w.heap.size + 1 + 1 + 1, 0, none⟩ (.int .i64 q'.1)).setCell ⟨w.heap.size + 1 + 1 + 1, 1, none⟩ (.int .i64 q'.2)) ∧
    KeepB w.heap.size (w.heap.size + 1 + 1 + 1 + 1) W ((W2.setCell ⟨w.heap.size + 1 + 1 + 1, 0, none⟩ (.int .i64 q'.1)).setCell ⟨w.heap.size + 1 + 1 + 1, 1, none⟩ (.int .i64 q'.2)) ∧
    PofI w w1 t l kind sam (pre ++ [x]) ((W2.setCell ⟨w.heap.size + 1 + 1 + 1, 0, none⟩ (.int .i64 q'.1)).setCell ⟨w.heap.size + 1 + 1 + 1, 1, none⟩ (.int .i64 q'.2)) := by
  have hkeep : ∀ {g T cs}, Blk W g T cs → g ≠ w.heap.size + 1 + 1 + 1 → Blk ((W2.setCell ⟨w.heap.size + 1 + 1 + 1, 0, none⟩ (.int .i64 q'.1)).setCell ⟨w.heap.size + 1 + 1 + 1, 1, none⟩ (.int .i64 q'.2)) g T cs :=
    fun h hne => ((h.on hb2).far (p := ⟨w.heap.size + 1 + 1 + 1, 0, none⟩) hne _).far (p := ⟨w.heap.size + 1 + 1 + 1, 1, none⟩) hne _
  have hbW : Below w.heap.size W ((W2.setCell ⟨w.heap.size + 1 + 1 + 1, 0, none⟩ (.int .i64 q'.1)).setCell ⟨w.heap.size + 1 + 1 + 1, 1, none⟩ (.int .i64 q'.2)) :=
    ((hb2.mono hIb.size).setCell (by simp; omega) _).setCell (by simp; omega) _
  refine ⟨(((keepsOthers_below hb2).trans (KeepsOthers.setCell _ _ _)).trans (KeepsOthers.setCell _ _ _)).from _, ⟨hbW, fun cs hc => hkeep hc (by omega)⟩, q', ?_, ?_, hkeep I0 (by omega), hkeep I1 (by omega), hkeep I2 (by omega), hkeep I4 (by omega), hIb.trans hbW⟩
  · have h3 := ((I3.on hb2).set_ 0 (.int .i64 q'.1)).set_ 1 (.int .i64 q'.2)
    simpa using h3
  · rw [fold_snoc, ← hq, hst]

set_option maxRecDepth 100000 in
set_option maxHeartbeats 4000000 in
theorem partsOf_in {w : World} {pa ka ra : Option Addr} {pc kc rc : Nat} {t : Tab} {l : List Int} (h : SamIn w pa ka ra pc kc t l) (kind : Nat) (_hki : kind < t.ks.length) :
    CallsIn Fence.wide 10 Tryz.prog 40 #[.agg #[.slice pa t.ps.length pc, .slice ka t.ks.length kc, .int .i64 t.pu, .slice ra l.length rc], .int .i64 kind] w fun e w' => e = .returned (.agg #[.int .i64 (partsOfV t l kind).1, .int .i64 (partsOfV t l kind).2]) ∧ Below w.heap.size w w' := by
  have hro : Fence.wide.round = none := rfl
  have hn1 : 1 ≤ 10 := by decide
  have h1 := h.tab.tab.lp
  have h2 := h.tab.tab.lk
  have h3 := h.rds.len
  have HS := Lib.hid h
  clear h
  refine callsIn_of_wp_marks Tryz.func40 rfl trivial ?_ hro
  simp only [Tryz.ntmps40, List.size_toArray, List.length_cons, List.length_nil, Nat.reduceAdd, Nat.reduceSub, Array.replicate_succ, Array.replicate_zero, List.push_toArray, List.append_toArray, List.nil_append, List.cons_append]
  gi_wp2_with fail
  refine ⟨trivial, ?_⟩
  refine (callsIn_wide.2 (pairs_any _ _ _ _ _)).mono ?_
  rintro e w1 ⟨rfl, hw1⟩
  have hsz : w1.heap.size = w.heap.size + 5 := by rw [hw1]; simp
  have B0 : Blk w1 w.heap.size 57 #[.slice pa t.ps.length pc, .slice ka t.ks.length kc, .int .i64 t.pu, .slice ra l.length rc] := by rw [hw1]; exact ((((Blk.new w _ _).alloc _).alloc _).alloc _).alloc _
  have B1 : Blk w1 (w.heap.size + 1) 3 #[.int .i64 kind] := by rw [hw1]; exact (((Blk.new1 w _ _ _).alloc _).alloc _).alloc _
  have B2 : Blk w1 (w.heap.size + 1 + 1) 43 #[.int .i64 0, .int .i64 0] := by rw [hw1]; exact ((Blk.new2 w _ _ _ _).alloc _).alloc _
  have B3 : Blk w1 (w.heap.size + 1 + 1 + 1) 43 #[.int .i64 1000, .int .i64 (-1)] := by rw [hw1]; exact (Blk.new3 w _ _ _ _ _).alloc _
  have B4 : Blk w1 (w.heap.size + 1 + 1 + 1 + 1) 57 #[.slice pa t.ps.length pc, .slice ka t.ks.length kc, .int .i64 t.pu, .slice ra l.length rc] := by rw [hw1]; exact Blk.new4 w _ _ _ _ _ _
  have hbw : Below w.heap.size w w1 := by rw [hw1]; exact (((((Below.refl _ w).alloc (Nat.le_refl _) _).alloc (by simp) _).alloc (by simp; omega) _).alloc (by simp; omega) _).alloc (by simp; omega) _
  have HSZ := Lib.hid hsz
  clear hw1 hsz
  simp only [World.size_alloc]
  gi_wp2_with fail
  refine wpIn_rangeFunc_ownG hro hn1 (gf := 91) (lb := #[.pointer (some ⟨w.heap.size + 1 + 1 + 1 + 1, 0, none⟩)]) rfl trivial (enters_of Tryz.func91 (by kernel_rfl) rfl)
    (pairs_stops (wB := w) (w0 := w1) HS.out (w.heap.size + 1 + 1 + 1 + 1) B4 hbw 9 (by decide)) keepB_t (keepB_b hbw.size) (Below.refl _ _) (fun _ => rfl)
    (PofI w w1 t l kind #[.slice pa t.ps.length pc, .slice ka t.ks.length kc, .int .i64 t.pu, .slice ra l.length rc]) (fun _ _ _ => False) (pofI_own HSZ.out) (fun _ _ _ _ _ hs _ _ => hs)
    ⟨(1000, -1), B3, rfl, B0, B1, B2, B4, hbw⟩
    (fun x => { tmps := #[.agg #[.slice pa t.ps.length pc, .slice ka t.ks.length kc, .int .i64 t.pu, .slice ra l.length rc], .int .i64 kind, .pointer (some ⟨w.heap.size, 0, none⟩), .pointer (some ⟨w.heap.size + 1, 0, none⟩), .pointer (some ⟨w.heap.size + 1 + 1, 0, none⟩), .pointer (some ⟨w.heap.size + 1 + 1 + 1, 0, none⟩), .int .i64 x.1.1, .int .i64 x.2.1, undef, .agg #[.int .i64 1000, .int .i64 (-1)], .agg #[.slice pa t.ps.length pc, .slice ka t.ks.length kc, .int .i64 t.pu, .slice ra l.length rc], .func (.func 91) #[] #[.pointer (some ⟨w.heap.size + 1 + 1 + 1 + 1, 0, none⟩)], .int .i64 x.1.1, .int .i64 x.2.1, undef, undef, undef, undef, undef, undef, undef, undef, undef, undef, undef, undef, undef, undef, undef, undef, undef, undef, undef, undef, undef, undef, undef, undef, undef, undef, undef, undef], defers := [] }) ?assign ?body ?done ?stop
  case assign =>
    intro lo x W K hK
    gi_wp2_with fail
    exact hK
  case body =>
    rintro lo pre x W ⟨q, I3, hq, I0, I1, I2, I4, hIb⟩ _
    have HQ := Lib.hid hq
    clear hq B0 B1 B2 B3 B4
    obtain ⟨a, b⟩ := x
    have ha := a.2
    have hb := b.2
    obtain ⟨s0, s1, s2, s3, _, _, _, _, _⟩ := I0.four
    obtain ⟨k0, _, kl⟩ := I1.one
    obtain ⟨q0, q1, _, _, ql⟩ := I3.two
    have hsW := hIb.size
    by_cases hka : kind = a.1
    · have HP := Lib.hid (fun (W' : World) (hB : Below w.heap.size w W') => parts_any (rc := rc) (HS.out.on hB) a.1 b.1 ha hb)
      have HST := Lib.hid (show ofStep t l kind q (a, b) = (min q.1 (partsV t l a.1 b.1).1, max q.2 (partsV t l a.1 b.1).2) by simp [ofStep, hka])
      have hkb : ((kind : Int) == (a.1 : Int)) = true := by simp [hka]
      generalize partsV t l a.1 b.1 = p at *
      clear hka
      by_cases m1 : p.1 < q.1
      · by_cases m2 : q.2 < p.2
        · have HST2 := Lib.hid (HST.out.trans (by rw [Int.min_eq_right (by omega), Int.max_eq_right (by omega)] : _ = (p.1, p.2)))
          clear HST
          gi_wp2_with fail
          refine ⟨trivial, ?_⟩
          refine (CallsIn.inRound lo (callsIn_wide.2 (HP.out _ (hIb.alloc hsW _)))).mono ?_
          rintro e w2 ⟨rfl, hb2⟩
          have BP := Lib.hid (Blk.on (Blk.new W 43 #[.int .i64 0, .int .i64 0]) hb2)
          obtain ⟨p0, p1, y0, y1, yl⟩ := BP.out.two
          have hW2 := ((Below.refl _ W).alloc (Nat.le_refl _) _).trans (hb2.mono (by simp))
          obtain ⟨q0', q1', z0, z1, zl⟩ := (I3.on hW2).two
          have HB2 := Lib.hid ((hW2.setCell (p := ⟨W.heap.size, 0, none⟩) (Nat.le_refl _) (.int .i64 p.1)).setCell (p := ⟨W.heap.size, 1, none⟩) (Nat.le_refl _) (.int .i64 p.2))
          have hne : ¬ w.heap.size + 1 + 1 + 1 = W.heap.size := by omega
          have hne' : ¬ W.heap.size = w.heap.size + 1 + 1 + 1 := by omega
          clear hb2 hW2 q0 q1 HP
          have hfin := pof_step (w1 := w1) (q' := (p.1, p.2)) w1.heap.size I3 HQ.out I0 I1 I2 I4 hIb HB2.out HST2.out
          gi_wp2_with fail
          exact hfin
        · have HST2 := Lib.hid (HST.out.trans (by rw [Int.min_eq_right (by omega), Int.max_eq_left (by omega)] : _ = (p.1, q.2)))
          clear HST
          gi_wp2_with fail
          refine ⟨trivial, ?_⟩
          refine (CallsIn.inRound lo (callsIn_wide.2 (HP.out _ (hIb.alloc hsW _)))).mono ?_
          rintro e w2 ⟨rfl, hb2⟩
          have BP := Lib.hid (Blk.on (Blk.new W 43 #[.int .i64 0, .int .i64 0]) hb2)
          obtain ⟨p0, p1, y0, y1, yl⟩ := BP.out.two
          have hW2 := ((Below.refl _ W).alloc (Nat.le_refl _) _).trans (hb2.mono (by simp))
          obtain ⟨q0', q1', z0, z1, zl⟩ := (I3.on hW2).two
          have HB2 := Lib.hid ((hW2.setCell (p := ⟨W.heap.size, 0, none⟩) (Nat.le_refl _) (.int .i64 p.1)).setCell (p := ⟨W.heap.size, 1, none⟩) (Nat.le_refl _) (.int .i64 p.2))
          have hne : ¬ w.heap.size + 1 + 1 + 1 = W.heap.size := by omega
          have hne' : ¬ W.heap.size = w.heap.size + 1 + 1 + 1 := by omega
          clear hb2 hW2 q0 q1 HP
          have hfin := pof_step (w1 := w1) (q' := (p.1, q.2)) w1.heap.size I3 HQ.out I0 I1 I2 I4 hIb HB2.out HST2.out
          gi_wp2_with fail
          exact hfin
      · by_cases m2 : q.2 < p.2
        · have HST2 := Lib.hid (HST.out.trans (by rw [Int.min_eq_left (by omega), Int.max_eq_right (by omega)] : _ = (q.1, p.2)))
          clear HST
          gi_wp2_with fail
          refine ⟨trivial, ?_⟩
          refine (CallsIn.inRound lo (callsIn_wide.2 (HP.out _ (hIb.alloc hsW _)))).mono ?_
          rintro e w2 ⟨rfl, hb2⟩
          have BP := Lib.hid (Blk.on (Blk.new W 43 #[.int .i64 0, .int .i64 0]) hb2)
          obtain ⟨p0, p1, y0, y1, yl⟩ := BP.out.two
          have hW2 := ((Below.refl _ W).alloc (Nat.le_refl _) _).trans (hb2.mono (by simp))
          obtain ⟨q0', q1', z0, z1, zl⟩ := (I3.on hW2).two
          have HB2 := Lib.hid ((hW2.setCell (p := ⟨W.heap.size, 0, none⟩) (Nat.le_refl _) (.int .i64 p.1)).setCell (p := ⟨W.heap.size, 1, none⟩) (Nat.le_refl _) (.int .i64 p.2))
          have hne : ¬ w.heap.size + 1 + 1 + 1 = W.heap.size := by omega
          have hne' : ¬ W.heap.size = w.heap.size + 1 + 1 + 1 := by omega
          clear hb2 hW2 q0 q1 HP
          have hfin := pof_step (w1 := w1) (q' := (q.1, p.2)) w1.heap.size I3 HQ.out I0 I1 I2 I4 hIb HB2.out HST2.out
          gi_wp2_with fail
          exact hfin
        · have HST2 := Lib.hid (HST.out.trans (by rw [Int.min_eq_left (by omega), Int.max_eq_left (by omega)] : _ = (q.1, q.2)))
          clear HST
          gi_wp2_with fail
          refine ⟨trivial, ?_⟩
          refine (CallsIn.inRound lo (callsIn_wide.2 (HP.out _ (hIb.alloc hsW _)))).mono ?_
          rintro e w2 ⟨rfl, hb2⟩
          have BP := Lib.hid (Blk.on (Blk.new W 43 #[.int .i64 0, .int .i64 0]) hb2)
          obtain ⟨p0, p1, y0, y1, yl⟩ := BP.out.two
          have hW2 := ((Below.refl _ W).alloc (Nat.le_refl _) _).trans (hb2.mono (by simp))
          obtain ⟨q0', q1', z0, z1, zl⟩ := (I3.on hW2).two
          have HB2 := Lib.hid ((hW2.setCell (p := ⟨W.heap.size, 0, none⟩) (Nat.le_refl _) (.int .i64 p.1)).setCell (p := ⟨W.heap.size, 1, none⟩) (Nat.le_refl _) (.int .i64 p.2))
          have hne : ¬ w.heap.size + 1 + 1 + 1 = W.heap.size := by omega
          have hne' : ¬ W.heap.size = w.heap.size + 1 + 1 + 1 := by omega
          clear hb2 hW2 q0 q1 HP
          have hfin := pof_step (w1 := w1) (q' := (q.1, q.2)) w1.heap.size I3 HQ.out I0 I1 I2 I4 hIb HB2.out HST2.out
          gi_wp2_with fail
          exact hfin
    · by_cases hkb0 : kind = b.1
      · have HP := Lib.hid (fun (W' : World) (hB : Below w.heap.size w W') => parts_any (rc := rc) (HS.out.on hB) b.1 a.1 hb ha)
        have HST := Lib.hid (show ofStep t l kind q (a, b) = (min q.1 (partsV t l b.1 a.1).1, max q.2 (partsV t l b.1 a.1).2) by simp only [ofStep]; rw [if_neg hka, if_pos hkb0])
        have hk1 : ((kind : Int) == (a.1 : Int)) = false := by simp; omega
        have hk2 : ((kind : Int) == (b.1 : Int)) = true := by simp [hkb0]
        generalize partsV t l b.1 a.1 = p at *
        clear hka hkb0
        by_cases m1 : p.1 < q.1
        · by_cases m2 : q.2 < p.2
          · have HST2 := Lib.hid (HST.out.trans (by rw [Int.min_eq_right (by omega), Int.max_eq_right (by omega)] : _ = (p.1, p.2)))
            clear HST
            gi_wp2_with fail
            refine ⟨trivial, ?_⟩
            refine (CallsIn.inRound lo (callsIn_wide.2 (HP.out _ (hIb.alloc hsW _)))).mono ?_
            rintro e w2 ⟨rfl, hb2⟩
            have BP := Lib.hid (Blk.on (Blk.new W 43 #[.int .i64 0, .int .i64 0]) hb2)
            obtain ⟨p0, p1, y0, y1, yl⟩ := BP.out.two
            have hW2 := ((Below.refl _ W).alloc (Nat.le_refl _) _).trans (hb2.mono (by simp))
            obtain ⟨q0', q1', z0, z1, zl⟩ := (I3.on hW2).two
            have HB2 := Lib.hid ((hW2.setCell (p := ⟨W.heap.size, 0, none⟩) (Nat.le_refl _) (.int .i64 p.1)).setCell (p := ⟨W.heap.size, 1, none⟩) (Nat.le_refl _) (.int .i64 p.2))
            have hne : ¬ w.heap.size + 1 + 1 + 1 = W.heap.size := by omega
            have hne' : ¬ W.heap.size = w.heap.size + 1 + 1 + 1 := by omega
            clear hb2 hW2 q0 q1 HP
            have hfin := pof_step (w1 := w1) (q' := (p.1, p.2)) w1.heap.size I3 HQ.out I0 I1 I2 I4 hIb HB2.out HST2.out
            gi_wp2_with fail
            exact hfin
          · have HST2 := Lib.hid (HST.out.trans (by rw [Int.min_eq_right (by omega), Int.max_eq_left (by omega)] : _ = (p.1, q.2)))
            clear HST
            gi_wp2_with fail
            refine ⟨trivial, ?_⟩
            refine (CallsIn.inRound lo (callsIn_wide.2 (HP.out _ (hIb.alloc hsW _)))).mono ?_
            rintro e w2 ⟨rfl, hb2⟩
            have BP := Lib.hid (Blk.on (Blk.new W 43 #[.int .i64 0, .int .i64 0]) hb2)
            obtain ⟨p0, p1, y0, y1, yl⟩ := BP.out.two
            have hW2 := ((Below.refl _ W).alloc (Nat.le_refl _) _).trans (hb2.mono (by simp))
            obtain ⟨q0', q1', z0, z1, zl⟩ := (I3.on hW2).two
            have HB2 := Lib.hid ((hW2.setCell (p := ⟨W.heap.size, 0, none⟩) (Nat.le_refl _) (.int .i64 p.1)).setCell (p := ⟨W.heap.size, 1, none⟩) (Nat.le_refl _) (.int .i64 p.2))
            have hne : ¬ w.heap.size + 1 + 1 + 1 = W.heap.size := by omega
            have hne' : ¬ W.heap.size = w.heap.size + 1 + 1 + 1 := by omega
            clear hb2 hW2 q0 q1 HP
            have hfin := pof_step (w1 := w1) (q' := (p.1, q.2)) w1.heap.size I3 HQ.out I0 I1 I2 I4 hIb HB2.out HST2.out
            gi_wp2_with fail
            exact hfin
        · by_cases m2 : q.2 < p.2
          · have HST2 := Lib.hid (HST.out.trans (by rw [Int.min_eq_left (by omega), Int.max_eq_right (by omega)] : _ = (q.1, p.2)))
            clear HST
            gi_wp2_with fail
            refine ⟨trivial, ?_⟩
            refine (CallsIn.inRound lo (callsIn_wide.2 (HP.out _ (hIb.alloc hsW _)))).mono ?_
            rintro e w2 ⟨rfl, hb2⟩
            have BP := Lib.hid (Blk.on (Blk.new W 43 #[.int .i64 0, .int .i64 0]) hb2)
            obtain ⟨p0, p1, y0, y1, yl⟩ := BP.out.two
            have hW2 := ((Below.refl _ W).alloc (Nat.le_refl _) _).trans (hb2.mono (by simp))
            obtain ⟨q0', q1', z0, z1, zl⟩ := (I3.on hW2).two
            have HB2 := Lib.hid ((hW2.setCell (p := ⟨W.heap.size, 0, none⟩) (Nat.le_refl _) (.int .i64 p.1)).setCell (p := ⟨W.heap.size, 1, none⟩) (Nat.le_refl _) (.int .i64 p.2))
            have hne : ¬ w.heap.size + 1 + 1 + 1 = W.heap.size := by omega
            have hne' : ¬ W.heap.size = w.heap.size + 1 + 1 + 1 := by omega
            clear hb2 hW2 q0 q1 HP
            have hfin := pof_step (w1 := w1) (q' := (q.1, p.2)) w1.heap.size I3 HQ.out I0 I1 I2 I4 hIb HB2.out HST2.out
            gi_wp2_with fail
            exact hfin
          · have HST2 := Lib.hid (HST.out.trans (by rw [Int.min_eq_left (by omega), Int.max_eq_left (by omega)] : _ = (q.1, q.2)))
            clear HST
            gi_wp2_with fail
            refine ⟨trivial, ?_⟩
            refine (CallsIn.inRound lo (callsIn_wide.2 (HP.out _ (hIb.alloc hsW _)))).mono ?_
            rintro e w2 ⟨rfl, hb2⟩
            have BP := Lib.hid (Blk.on (Blk.new W 43 #[.int .i64 0, .int .i64 0]) hb2)
            obtain ⟨p0, p1, y0, y1, yl⟩ := BP.out.two
            have hW2 := ((Below.refl _ W).alloc (Nat.le_refl _) _).trans (hb2.mono (by simp))
            obtain ⟨q0', q1', z0, z1, zl⟩ := (I3.on hW2).two
            have HB2 := Lib.hid ((hW2.setCell (p := ⟨W.heap.size, 0, none⟩) (Nat.le_refl _) (.int .i64 p.1)).setCell (p := ⟨W.heap.size, 1, none⟩) (Nat.le_refl _) (.int .i64 p.2))
            have hne : ¬ w.heap.size + 1 + 1 + 1 = W.heap.size := by omega
            have hne' : ¬ W.heap.size = w.heap.size + 1 + 1 + 1 := by omega
            clear hb2 hW2 q0 q1 HP
            have hfin := pof_step (w1 := w1) (q' := (q.1, q.2)) w1.heap.size I3 HQ.out I0 I1 I2 I4 hIb HB2.out HST2.out
            gi_wp2_with fail
            exact hfin
      · obtain ⟨p, hp⟩ : ∃ p : Int × Int, p = (0, 0) := ⟨_, rfl⟩
        have HST := Lib.hid (show ofStep t l kind q (a, b) = (min q.1 p.1, max q.2 p.2) by simp only [ofStep]; rw [if_neg hka, if_neg hkb0, hp])
        have hk1 : ((kind : Int) == (a.1 : Int)) = false := by simp; omega
        have hk2 : ((kind : Int) == (b.1 : Int)) = false := by simp; omega
        have HB2 := Lib.hid ((Below.refl _ W).alloc (Nat.le_refl _) (.cells #[.int .i64 0, .int .i64 0] 43))
        have hne : ¬ w.heap.size + 1 + 1 + 1 = W.heap.size := by omega
        have hne' : ¬ W.heap.size = w.heap.size + 1 + 1 + 1 := by omega
        obtain ⟨q0', q1', z0, z1, zl⟩ := I3.two
        clear hka hkb0
        by_cases m1 : (0 : Int) < q.1
        · by_cases m2 : q.2 < (0 : Int)
          · have HST2 := Lib.hid (HST.out.trans (by rw [hp, Int.min_eq_right (by simpa using Int.le_of_lt m1), Int.max_eq_right (by simpa using Int.le_of_lt m2)] : _ = ((0 : Int), (0 : Int))))
            clear HST hp
            have hfin := pof_step (w1 := w1) (q' := ((0 : Int), (0 : Int))) w1.heap.size I3 HQ.out I0 I1 I2 I4 hIb HB2.out HST2.out
            rw [World.setCell_alloc_past (hn := ql), World.setCell_alloc_past (hn := by simpa using ql)] at hfin
            gi_wp2_with fail
            exact hfin
          · have HST2 := Lib.hid (HST.out.trans (by rw [hp, Int.min_eq_right (by simpa using Int.le_of_lt m1), Int.max_eq_left (by simpa using m2)] : _ = ((0 : Int), q.2)))
            clear HST hp
            have hfin := pof_step (w1 := w1) (q' := ((0 : Int), q.2)) w1.heap.size I3 HQ.out I0 I1 I2 I4 hIb HB2.out HST2.out
            rw [World.setCell_alloc_past (hn := ql), World.setCell_alloc_past (hn := by simpa using ql)] at hfin
            gi_wp2_with fail
            exact hfin
        · by_cases m2 : q.2 < (0 : Int)
          · have HST2 := Lib.hid (HST.out.trans (by rw [hp, Int.min_eq_left (by simpa using m1), Int.max_eq_right (by simpa using Int.le_of_lt m2)] : _ = (q.1, (0 : Int))))
            clear HST hp
            have hfin := pof_step (w1 := w1) (q' := (q.1, (0 : Int))) w1.heap.size I3 HQ.out I0 I1 I2 I4 hIb HB2.out HST2.out
            rw [World.setCell_alloc_past (hn := ql), World.setCell_alloc_past (hn := by simpa using ql)] at hfin
            gi_wp2_with fail
            exact hfin
          · have HST2 := Lib.hid (HST.out.trans (by rw [hp, Int.min_eq_left (by simpa using m1), Int.max_eq_left (by simpa using m2)] : _ = (q.1, q.2)))
            clear HST hp
            have hfin := pof_step (w1 := w1) (q' := (q.1, q.2)) w1.heap.size I3 HQ.out I0 I1 I2 I4 hIb HB2.out HST2.out
            rw [World.setCell_alloc_past (hn := ql), World.setCell_alloc_past (hn := by simpa using ql)] at hfin
            gi_wp2_with fail
            exact hfin
  case done =>
    rintro D ys W hD rfl ⟨q, I3, hq, I0, I1, I2, I4, hIb⟩ hK
    have HQ := Lib.hid (show q = partsOfV t l kind from hq)
    clear hq B0 B1 B2 B3 B4
    obtain ⟨q0, q1, _, _, ql⟩ := I3.two
    obtain ⟨r0, r1, y0, y1, yl⟩ := I2.two
    have hK2 := ((KeepsOthers.setCell W ⟨w.heap.size + 1 + 1, 0, none⟩ (.int .i64 q.1)).trans (KeepsOthers.setCell _ ⟨w.heap.size + 1 + 1, 1, none⟩ (.int .i64 q.2))).same D _ hK rfl
    have hres2 := I2.set2 (.int .i64 q.1) (.int .i64 q.2)
    obtain ⟨u0, u1, _, _, _⟩ := ((hres2.grown (grownBy_putObj' _ D (.deferred none)) (fun r e => by cases e; exact hD) (by rw [HSZ.out]; omega)) : Blk (World.putObj _ D (.deferred none)) _ _ _).two
    have hHK := Lib.hid hK2
    have hU0 := Lib.hid u0
    have hU1 := Lib.hid u1
    clear hK hK2 hres2 u0 u1
    gi_wp2_with fail
    refine ⟨by simp, .inl ⟨_, _, rfl, run_takeDeferred hHK.out, ?_⟩⟩
    refine ⟨.agg #[.int .i64 q.1, .int .i64 q.2], ?_, ?_⟩
    · have u0 := hU0.out
      have u1 := hU1.out
      simp [results, Tryz.f40, go_sem, u0, u1]
    · refine ⟨by rw [HQ.out], ?_⟩
      exact ((hIb.setCell (p := ⟨w.heap.size + 1 + 1, 0, none⟩) (by simp; omega) _).setCell (p := ⟨w.heap.size + 1 + 1, 1, none⟩) (by simp; omega) _).trans (belowK_b (w := w) (Nat.le_refl _) _ D _ _ (by have := hbw.size; omega) hHK.out rfl rfl)
  case stop =>
    rintro D c pre W _ _ h _
    exact h.elim

theorem partsOf_any {w : World} {pa ka ra : Option Addr} {pc kc rc : Nat} {t : Tab} {l : List Int} (h : SamIn w pa ka ra pc kc t l) (kind : Nat) (hki : kind < t.ks.length) :
    Calls Tryz.prog 40 #[.agg #[.slice pa t.ps.length pc, .slice ka t.ks.length kc, .int .i64 t.pu, .slice ra l.length rc], .int .i64 kind] w fun e w' => e = .returned (.agg #[.int .i64 (partsOfV t l kind).1, .int .i64 (partsOfV t l kind).2]) ∧ Below w.heap.size w w' :=
  callsIn_wide.1 (partsOf_in h kind hki)
end Go.Proofs.YthihpggjglghoaaGreatDoor
