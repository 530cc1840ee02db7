/- wax's reader: purity: contract. -/
import Derived.Test.YthihpggjglghoaaGreatDoorNext
namespace Go.Proofs.YthihpggjglghoaaGreatDoor
open Go.RowKit Go.Shelf

/-- How a step of the reader ends: it stops, or hands something back and goes on. -/
def RdOut {α : Type} (w0 w : World) (RB : Nat) (enc : α → World → Value → Prop) (R : Option (α × ByteArray × List ByteArray)) (e : Ending) (w' : World) : Prop :=
  match R with
  | none => e = stopE ∧ w.grownBy w' (some RB)
  | some (x, rest, ws) => ∃ v UB, e = .returned v ∧ enc x w' v ∧ w.grownBy w' (some RB) ∧ Rdr w0 w' RB UB rest ws
def pureW : ByteArray := ⟨#[112, 117, 114, 101]⟩
def testsW : ByteArray := ⟨#[116, 101, 115, 116, 115]⟩
def purW (cr : ByteArray) : List ByteArray → Option (Int × ByteArray × List ByteArray)
  | [a, b] => if a.toList == pureW.toList then (numV b).map fun v => (v, cr, []) else none
  | _ => none
/-- The line of the purity. -/
def purV (rest : ByteArray) : Option (Int × ByteArray × List ByteArray) := if cutB rest then purW (cutR rest) (wordsV (cutF rest)) else none

set_option maxRecDepth 100000 in
set_option maxHeartbeats 4000000 in
theorem purity_any {w0 w : World} {RB UB : Nat} {rest : ByteArray} {ws : List ByteArray} (h : Rdr w0 w RB UB rest ws) :
    Calls Tryz.prog 50 #[.pointer (some ⟨RB, 0, none⟩)] w (RdOut w0 w RB (fun x _ v => v = .int .i64 x) (purV rest)) := by
  cases hc : cutB rest with
  | false =>
    have HN := Lib.hid (nextLine_stop h hc)
    have hP : purV rest = none := by simp [purV, hc]
    rw [hP]
    clear h hc hP
    go_enter Tryz.func50, Tryz.ntmps50
    go_wp2_with fail
    refine HN.out.mono ?_
    rintro e w1 ⟨rfl, hg⟩
    go_wp2_with fail
    exact ⟨rfl, rfl, hg⟩
  | true =>
    have HN := Lib.hid (nextLine_some h hc)
    have hP : purV rest = purW (cutR rest) (wordsV (cutF rest)) := by simp [purV, hc]
    rw [hP]
    clear h hc hP
    generalize cutR rest = cr at *
    generalize wordsV (cutF rest) = wv at *
    match wv, HN with
    | [], HN =>
      rw [show purW cr [] = none from rfl]
      go_enter Tryz.func50, Tryz.ntmps50
      go_wp2_with fail
      refine HN.out.mono ?_
      rintro e w1 ⟨rfl, hg, hr⟩
      go_wp2_with fail
      refine (expect_none hr).mono ?_
      rintro e w2 ⟨rfl, hg2⟩
      go_wp2_with fail
      exact ⟨rfl, rfl, hg.trans hg2⟩
    | s :: t, HN =>
      cases hs : (s.toList == pureW.toList) with
      | false =>
        have hP : purW cr (s :: t) = none := by
          match t with
          | [] => rfl
          | [b] => simp only [purW]; rw [if_neg (by simp [hs])]
          | _ :: _ :: _ => rfl
        rw [hP]
        go_enter Tryz.func50, Tryz.ntmps50
        go_wp2_with fail
        refine HN.out.mono ?_
        rintro e w1 ⟨rfl, hg, hr⟩
        go_wp2_with fail
        refine (expect_no hr hs).mono ?_
        rintro e w2 ⟨rfl, hg2⟩
        go_wp2_with fail
        exact ⟨rfl, rfl, hg.trans hg2⟩
      | true =>
        match t, HN with
        | [], HN =>
          rw [show purW cr [s] = none from rfl]
          go_enter Tryz.func50, Tryz.ntmps50
          go_wp2_with fail
          refine HN.out.mono ?_
          rintro e w1 ⟨rfl, hg, hr⟩
          go_wp2_with fail
          refine (expect_yes hr hs).mono ?_
          rintro e w2 ⟨rfl, hg2, hr2⟩
          go_wp2_with fail
          refine (number_none hr2).mono ?_
          rintro e w3 ⟨rfl, hg3⟩
          go_wp2_with fail
          exact ⟨rfl, rfl, (hg.trans hg2).trans hg3⟩
        | b :: t2, HN =>
          cases hb : numV b with
          | none =>
            have hP : purW cr (s :: b :: t2) = none := by
              match t2 with
              | [] => simp only [purW]; rw [if_pos hs, hb]; rfl
              | _ :: _ => rfl
            rw [hP]
            go_enter Tryz.func50, Tryz.ntmps50
            go_wp2_with fail
            refine HN.out.mono ?_
            rintro e w1 ⟨rfl, hg, hr⟩
            go_wp2_with fail
            refine (expect_yes hr hs).mono ?_
            rintro e w2 ⟨rfl, hg2, hr2⟩
            go_wp2_with fail
            refine (number_stop hr2 hb).mono ?_
            rintro e w3 ⟨rfl, hg3⟩
            go_wp2_with fail
            exact ⟨rfl, rfl, (hg.trans hg2).trans hg3⟩
          | some v =>
            match t2, HN with
            | [], HN =>
              have hP : purW cr [s, b] = some (v, cr, []) := by simp only [purW]; rw [if_pos hs, hb]; rfl
              rw [hP]
              go_enter Tryz.func50, Tryz.ntmps50
              go_wp2_with fail
              refine HN.out.mono ?_
              rintro e w1 ⟨rfl, hg, hr⟩
              go_wp2_with fail
              refine (expect_yes hr hs).mono ?_
              rintro e w2 ⟨rfl, hg2, hr2⟩
              go_wp2_with fail
              refine (number_some hr2 hb).mono ?_
              rintro e w3 ⟨rfl, hg3, hr3⟩
              obtain ⟨A, c, hB, _, hcc⟩ := hr3.at_
              obtain ⟨r0, r1, r2, r3, r4⟩ := hB.two
              go_wp2_with fail
              refine (need_t _).mono ?_
              rintro e w4 ⟨rfl, rfl⟩
              go_wp2_with fail
              go_ret
              exact ⟨_, _, rfl, rfl, (hg.trans hg2).trans hg3, hr3⟩
            | b2 :: t3, HN =>
              rw [show purW cr (s :: b :: b2 :: t3) = none from rfl]
              go_enter Tryz.func50, Tryz.ntmps50
              go_wp2_with fail
              refine HN.out.mono ?_
              rintro e w1 ⟨rfl, hg, hr⟩
              go_wp2_with fail
              refine (expect_yes hr hs).mono ?_
              rintro e w2 ⟨rfl, hg2, hr2⟩
              go_wp2_with fail
              refine (number_some hr2 hb).mono ?_
              rintro e w3 ⟨rfl, hg3, hr3⟩
              obtain ⟨A, c, hB, _, hcc⟩ := hr3.at_
              have hlen := hr3.len
              obtain ⟨r0, r1, r2, r3, r4⟩ := hB.two
              rw [List.length_cons] at r1 hlen hcc
              have hne : ((t3.length : Int) + 1 == 0) = false := by simp; omega
              have hgg := (hg.trans hg2).trans hg3
              clear hg hg2 hg3 hr hr2 hr3 hB
              go_wp2_with fail
              refine (need_f _).mono ?_
              rintro e w4 ⟨rfl, rfl⟩
              go_wp2_with fail
              exact ⟨rfl, rfl, hgg⟩
end Go.Proofs.YthihpggjglghoaaGreatDoor
