/- wax's reader: kind: contract, whole. -/
import Derived.Test.YthihpggjglghoaaGreatDoorKnd
namespace Go.Proofs.YthihpggjglghoaaGreatDoor
open Go.RowKit Go.Shelf

set_option maxRecDepth 100000 in
set_option maxHeartbeats 4000000 in
theorem kind_any {w0 w : World} {RB UB : Nat} {rest : ByteArray} {ws : List ByteArray} (h : Rdr w0 w RB UB rest ws) :
    Calls Tryz.prog 51 #[.pointer (some ⟨RB, 0, none⟩)] w (RdOut w0 w RB (fun x w' v => ∃ s, v = .agg #[.string x.1, s] ∧ SpansOut w.heap.size w' s x.2) (kndV rest)) := by
  cases hc : cutB rest with
  | false =>
    have HN := Lib.hid (nextLine_stop (h.on ((Below.refl _ w).alloc (Nat.le_refl _) (.cells #[.string ⟨#[]⟩, .slice none 0 0] 51))) hc)
    have hP : kndV rest = none := by simp [kndV, hc]
    rw [hP]
    clear h hc hP
    go_enter Tryz.func51, Tryz.ntmps51
    go_wp2_with fail
    refine HN.out.mono ?_
    rintro e w1 ⟨rfl, hg⟩
    have hgg := (World.grownBy_alloc w (.cells #[.string ⟨#[]⟩, .slice none 0 0] 51) (some RB)).trans hg
    go_wp2_with fail
    exact ⟨rfl, rfl, hgg⟩
  | true =>
    have hP : kndV rest = kndW (cutR rest) (wordsV (cutF rest)) := by simp [kndV, hc]
    rw [hP]
    cases hwv : wordsV (cutF rest) with
    | nil =>
      have HN := nextLine_some (h.on ((Below.refl _ w).alloc (Nat.le_refl _) (.cells #[.string ⟨#[]⟩, .slice none 0 0] 51))) hc
      rw [hwv] at HN
      have HN2 := Lib.hid HN
      clear HN h hc hP hwv
      show Calls _ _ _ _ (RdOut w0 w RB _ none)
      go_enter Tryz.func51, Tryz.ntmps51
      go_wp2_with fail
      refine HN2.out.mono ?_
      rintro e w1 ⟨rfl, hg, hr⟩
      have hgg := (World.grownBy_alloc w (.cells #[.string ⟨#[]⟩, .slice none 0 0] 51) (some RB)).trans hg
      go_wp2_with fail
      refine (word_none hr).mono ?_
      rintro e w2 ⟨rfl, hg2⟩
      have hgg2 := hgg.trans hg2
      go_wp2_with fail
      exact ⟨rfl, rfl, hgg2⟩
    | cons a wv => exact kind_loop h hc rfl hwv _ rfl
end Go.Proofs.YthihpggjglghoaaGreatDoor
