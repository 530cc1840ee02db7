/- wax's reader: tests: contract, whole. -/
import Derived.Test.YthihpggjglghoaaGreatDoorTst
namespace Go.Proofs.YthihpggjglghoaaGreatDoor
open Go.RowKit Go.Shelf

set_option maxRecDepth 100000 in
set_option maxHeartbeats 4000000 in
theorem tests_any {w0 w : World} {RB UB : Nat} {rest : ByteArray} {ws : List ByteArray} (h : Rdr w0 w RB UB rest ws) :
    Calls Tryz.prog 49 #[.pointer (some ⟨RB, 0, none⟩)] w (RdOut w0 w RB (fun l w' v => PropsOut w.heap.size w' v l) (tstV rest)) := by
  have hRB : RB < w.heap.size := by
    obtain ⟨A, c, hB, _, _⟩ := h.at_
    exact hB.lt
  cases hc : cutB rest with
  | false =>
    have HN := Lib.hid (nextLine_stop h hc)
    have hP : tstV rest = none := by simp [tstV, hc]
    rw [hP]
    clear h hc hP
    go_enter Tryz.func49, Tryz.ntmps49
    go_wp2_with fail
    refine HN.out.mono ?_
    rintro e w1 ⟨rfl, hg⟩
    go_wp2_with fail
    exact ⟨rfl, rfl, hg⟩
  | true =>
    have HN := Lib.hid (nextLine_some h hc)
    have hP : tstV rest = tstW (cutR rest) (wordsV (cutF rest)) := by simp [tstV, hc]
    rw [hP]
    clear h hc hP
    generalize cutR rest = cr at *
    generalize wordsV (cutF rest) = wv at *
    rcases wv with _ | ⟨s, t⟩
    · rw [show tstW cr [] = none from rfl]
      go_enter Tryz.func49, Tryz.ntmps49
      go_wp2_with fail
      refine HN.out.mono ?_
      rintro e w1 ⟨rfl, hg, hr⟩
      go_wp2_with fail
      refine (expect_none hr).mono ?_
      rintro e w2 ⟨rfl, hg2⟩
      go_wp2_with fail
      exact ⟨rfl, rfl, hg.trans hg2⟩
    · cases hs : (s.toList == testsW.toList) with
      | false =>
        have hP : tstW cr (s :: t) = none := by simp only [tstW]; rw [if_neg (by simp [hs])]
        rw [hP]
        go_enter Tryz.func49, Tryz.ntmps49
        go_wp2_with fail
        refine HN.out.mono ?_
        rintro e w1 ⟨rfl, hg, hr⟩
        go_wp2_with fail
        refine (expect_no hr hs).mono ?_
        rintro e w2 ⟨rfl, hg2⟩
        go_wp2_with fail
        exact ⟨rfl, rfl, hg.trans hg2⟩
      | true => exact tests_loop HN hs hRB _ (by simp only [tstW]; rw [if_pos hs])
end Go.Proofs.YthihpggjglghoaaGreatDoor
