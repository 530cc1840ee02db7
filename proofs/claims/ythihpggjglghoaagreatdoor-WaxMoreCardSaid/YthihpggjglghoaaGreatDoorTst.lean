/- wax's reader: tests: contract. -/
import Derived.Test.YthihpggjglghoaaGreatDoorPur
namespace Go.Proofs.YthihpggjglghoaaGreatDoor
open Go.RowKit Go.Shelf

def propsW : List ByteArray → Option (List Pr)
  | [] => some []
  | [_] => none
  | a :: b :: r => match numV b with
    | none => none
    | some v => (propsW r).map fun l => ⟨a, v⟩ :: l

def tstW (cr : ByteArray) : List ByteArray → Option (List Pr × ByteArray × List ByteArray)
  | [] => none
  | a :: r => if a.toList == testsW.toList then (propsW r).map fun l => (l, cr, []) else none
/-- The line of the properties. -/
def tstV (rest : ByteArray) : Option (List Pr × ByteArray × List ByteArray) := if cutB rest then tstW (cutR rest) (wordsV (cutF rest)) else none
def propCells (l : List Pr) : List Value := l.flatMap fun p => [.string p.nm, .int .i64 p.er]
/-- A slice of properties that a call made. -/
def PropsOut (B : Nat) (w' : World) (v : Value) (l : List Pr) : Prop := w'.ownsRow B 47 2 v l.length (propCells l)
theorem infoPr : (Tryz.prog.info? 47).map (fun i => (i.zero, i.size, i.bytes)) = some (some (.agg #[.string ⟨#[]⟩, .int .i64 0]), 2, 24) := by kernel_rfl
/-- How many words a reader has left. -/
def wordsLeft (w : World) (RB : Nat) : Nat := match w.cell? ⟨RB, 1, none⟩ with
  | some (.slice _ n _) => n
  | _ => 0
theorem Rdr.left {w0 w : World} {RB UB : Nat} {rest : ByteArray} {ws : List ByteArray} (h : Rdr w0 w RB UB rest ws) : wordsLeft w RB = ws.length := by
  obtain ⟨A, c, hB, _, _⟩ := h.at_
  have h1 := hB.two.2.1
  unfold wordsLeft
  rw [h1]
theorem PropsOut.kept {B RB : Nat} {w w' : World} {v : Value} {l : List Pr} (h : PropsOut B w v l) (hg : w.grownBy w' (some RB)) (hB : RB < B) : PropsOut B w' v l :=
  World.ownsRow.kept h hg (by
    cases hv : v.ownBlock with
    | none => exact .inl rfl
    | some g => right; intro e; have := (World.ownsRow.lt h g hv).1; cases e; omega)

theorem PropsOut.base {B B' : Nat} {w : World} {v : Value} {l : List Pr} (h : PropsOut B w v l) (hB : B' ≤ B) : PropsOut B' w v l := by
  refine ⟨h.1, ?_⟩
  rcases h.2 with h2 | ⟨g, cap, cur, hv, hg, r⟩
  · exact .inl h2
  · exact .inr ⟨g, cap, cur, hv, by omega, r⟩
/-- The reader's state where other blocks have turned. -/
theorem Rdr.far {w0 w w' : World} {RB UB : Nat} {rest : ByteArray} {ws : List ByteArray} {row : Option Nat} (h : Rdr w0 w RB UB rest ws) (hg : w.grownBy w' row) (hr : ∀ j, row = some j → UB ≤ j ∧ RB < j) : Rdr w0 w' RB UB rest ws := by
  obtain ⟨A, c, hB, hA, hc⟩ := h.at_
  refine ⟨h.bs, h.lo, h.be.grown hg h.be.size (fun k e => by have := (hr k e).2; have := h.lo; omega), ⟨A, c, (hg.block RB hB.lt (fun e => by have := (hr _ e.symm).2; omega)).trans hB, fun hp => ?_, hc⟩, h.len, Nat.le_trans h.ub hg.size, h.siz⟩
  obtain ⟨b, o, hAe, hne, hlt, hcl⟩ := hA hp
  exact ⟨b, o, hAe, hne, hlt, fun i x hx => (hg.cell_far ⟨b, o + i, none⟩ (Nat.lt_of_lt_of_le hlt h.ub) (fun e => by have h9 : UB ≤ b := (hr _ e.symm).1; omega)).trans (hcl i x hx)⟩

set_option maxRecDepth 100000 in
set_option maxHeartbeats 4000000 in
theorem tests_loop {w0 w : World} {RB : Nat} {cr a : ByteArray} {wv : List ByteArray} (HN : Hid (Calls Tryz.prog 76 #[.pointer (some ⟨RB, 0, none⟩)] w fun e w' => e = .returned (.tuple #[]) ∧ w.grownBy w' (some RB) ∧ Rdr w0 w' RB w'.heap.size cr (a :: wv))) (hs : (a.toList == testsW.toList) = true) (hRB : RB < w.heap.size) (R : Option (List Pr × ByteArray × List ByteArray)) (hR : R = (propsW wv).map fun l => (l, cr, [])) :
    Calls Tryz.prog 49 #[.pointer (some ⟨RB, 0, none⟩)] w (RdOut w0 w RB (fun l w' v => PropsOut w.heap.size w' v l) R) := by
  obtain ⟨i0, hi0, hz0, hz1, hz2⟩ := info_parts infoPr
  go_enter Tryz.func49, Tryz.ntmps49
  go_wp2_with fail
  refine HN.out.mono ?_
  rintro e w1 ⟨rfl, hg, hr⟩
  go_wp2_with fail
  refine (expect_yes hr hs).mono ?_
  rintro e w2 ⟨rfl, hg2, hr2⟩
  have hlw := hr2.len
  have HG := Lib.hid (hg.trans hg2)
  have h12 := hg2.size
  have h01 := hg.size
  have HR2 := Lib.hid hr2
  have HRR := Lib.hid hR
  clear hg hg2 hr hr2 HN hR hs
  go_wp2_with fail
  go_loopw [3] (fun v wr => ∃ done rem, Hid (propsW wv = (propsW rem).map (done ++ ·)) ∧ 2 * done.length + rem.length ≤ wv.length ∧ Hid (PropsOut w2.heap.size wr v done) ∧ Hid (w.grownBy wr (some RB)) ∧ w2.heap.size ≤ wr.heap.size ∧ Hid (Rdr w0 wr RB w1.heap.size cr rem)) (fun _ wr => wordsLeft wr RB)
  case atStart => exact ⟨[], wv, by show _ = _; simp, by simp, World.ownsRow_nil _ _ _ _, HG.out, Nat.le_refl _, HR2.out⟩
  case round =>
    obtain ⟨done, rem, HP, hlen, HO, HGr, h2r, HRr⟩ := hrel
    obtain ⟨A, c, hB, _, hcc⟩ := HRr.out.at_
    obtain ⟨r0, r1, r2, r3, r4⟩ := hB.two
    have hml := HRr.out.left
    have hsz := HGr.out.size
    clear hB
    rcases rem with _ | ⟨x, _ | ⟨y, r⟩⟩
    · rw [List.length_nil] at r1
      go_wp2_with fail
      go_ret
      rw [HRR.out, HP.out]
      exact ⟨_, _, rfl, by simpa using HO.out.base (show w.heap.size ≤ w2.heap.size by omega), HGr.out, HRr.out⟩
    · rw [List.length_singleton] at r1
      have HX := Lib.hid (word_some HRr.out)
      go_wp2_with fail
      refine HX.out.mono ?_
      rintro e w3 ⟨rfl, hg3, hr3⟩
      go_wp2_with fail
      refine (number_none hr3).mono ?_
      rintro e w4 ⟨rfl, hg4⟩
      go_wp2_with fail
      rw [HRR.out, HP.out]
      exact ⟨rfl, rfl, (HGr.out.trans hg3).trans hg4⟩
    · rw [List.length_cons, List.length_cons] at r1 hlen hml
      have HX := Lib.hid (word_some HRr.out)
      have hpos : (0 : Int) < (r.length : Int) + 1 + 1 := by omega
      cases hn : numV y with
      | none =>
        go_wp2_with fail
        refine HX.out.mono ?_
        rintro e w3 ⟨rfl, hg3, hr3⟩
        go_wp2_with fail
        refine (number_stop hr3 hn).mono ?_
        rintro e w4 ⟨rfl, hg4⟩
        go_wp2_with fail
        rw [HRR.out, HP.out, show propsW (x :: y :: r) = none from by simp only [propsW]; rw [hn]]
        exact ⟨rfl, rfl, (HGr.out.trans hg3).trans hg4⟩
      | some v =>
        have HP2 := Lib.hid (show propsW wv = (propsW r).map ((done ++ [⟨x, v⟩]) ++ ·) by
          rw [HP.out]
          simp only [propsW]
          rw [hn]
          cases propsW r <;> simp)
        go_wp2_with fail
        refine HX.out.mono ?_
        rintro e w3 ⟨rfl, hg3, hr3⟩
        go_wp2_with fail
        refine (number_some hr3 hn).mono ?_
        rintro e w4 ⟨rfl, hg4, hr4⟩
        have HR4 := Lib.hid hr4
        have HG4 := Lib.hid ((HGr.out.trans hg3).trans hg4)
        have HO4 := Lib.hid ((HO.out.kept hg3 (by omega)).kept hg4 (by omega))
        have hml4 := hr4.left
        have hsz4 : w2.heap.size ≤ w4.heap.size := by have := hg3.size; have := hg4.size; omega
        clear hg3 hg4 hr3 hr4 HX
        go_wp2_with (first
          | (at_builtin; refine wpList_append_lies _ rfl _ _ 22 rfl w2.heap.size 47 i0 (.agg #[.string ⟨#[]⟩, .int .i64 0]) 2 24 Tryz.underlying22 hi0 hz0 hz1 hz2 rfl (by decide) _ _ _ rfl (World.ownsRow.alloc HO4.out _) ⟨w4.heap.size, 0, none⟩ 1 1 [.string x, .int .i64 v] rfl rfl (World.news_of_block (cs := #[.string x, .int .i64 v]) (t := 47) (fr := (0, 0)) (heap_alloc_new w4 _)) ?c2 (by decide) ?c3 ?c4 ?c5 _ rfl ?_)
          | fail)
        case c2 => intro u hu; simp at hu; rcases hu with rfl | rfl <;> rfl
        case c3 => unfold maxLen; omega
        case c4 => omega
        case c5 => simp; omega
        · intro g cap w5 hown hgrow hat hglt
          go_wp2_with fail
          have hrow := World.ownsRow.lt HO4.out
          go_roundw
          case rel =>
            refine ⟨done ++ [Pr.mk x v], r, HP2, by simp; omega, ?_, ?_, by have := hgrow.size; simp at this; omega, ?_⟩
            · show PropsOut _ _ _ _
              unfold PropsOut propCells
              simpa [propCells] using hown
            · exact (HG4.out.trans (World.grownBy_alloc _ _ _)).andThen hgrow (fun j e => .inl (by have := (hrow j e).1; omega))
            · exact (HR4.out.on ((Below.refl _ w4).alloc (Nat.le_refl _) _)).far hgrow (fun j e => by have := (hrow j e).1; omega)
          case measure =>
            have h5 : wordsLeft w5 RB = r.length := ((HR4.out.on ((Below.refl _ w4).alloc (Nat.le_refl _) _)).far hgrow (fun j e => by have := (hrow j e).1; omega)).left
            rw [h5, hml]; omega
end Go.Proofs.YthihpggjglghoaaGreatDoor
