/- wax.need, the reader's steps: contracts. -/
import Derived.Test.YthihpggjglghoaaGreatDoorWriteA
namespace Go.Proofs.YthihpggjglghoaaGreatDoor
open Go.RowKit Go.Shelf

/-- The one panic of a reader. -/
abbrev stopE : Ending := .panicked [{ v := .iface 26 (.int .i64 6), recovered := false }]
theorem need_t (w : World) : Calls Tryz.prog 80 #[.bool true] w fun e w' => e = .returned (.tuple #[]) ∧ w' = w := by
  go_enter Tryz.func80, Tryz.ntmps80
  go_wp2_with fail
  go_end0
  exact ⟨rfl, rfl⟩
theorem need_f (w : World) : Calls Tryz.prog 80 #[.bool false] w fun e w' => e = stopE ∧ w' = w := by
  go_enter Tryz.func80, Tryz.ntmps80
  go_wp2_with fail
  exact ⟨rfl, rfl, rfl⟩

/-- A reader's state: what is left of the text, the words of the line that are left. w0: the world ahead. -/
structure Rdr (w0 w : World) (RB UB : Nat) (rest : ByteArray) (ws : List ByteArray) : Prop where
  bs : Base w0
  lo : w0.heap.size ≤ RB
  be : Below w0.heap.size w0 w
  at_ : ∃ A c, Blk w RB 98 #[.string rest, .slice A ws.length c] ∧ (0 < ws.length → ∃ b o, A = some ⟨b, o, none⟩ ∧ b ≠ RB ∧ b < UB ∧ ∀ i x, ws[i]? = some x → w.cell? ⟨b, o + i, none⟩ = some (.string x)) ∧ ws.length ≤ c
  len : ws.length ≤ 1000000000
  ub : UB ≤ w.heap.size
  siz : rest.size ≤ 100000000 ∧ ∀ s ∈ ws, s.size ≤ 1000000000

theorem grown_set (W : World) (b i : Nat) (v : Value) : W.grownBy (W.setCell ⟨b, i, none⟩ v) (some b) :=
  ⟨rfl, rfl, rfl, by simp, fun k _ hk => by
    have hne : k ≠ b := fun e => hk (by rw [e])
    exact Below.heap_setCell W ⟨b, i, none⟩ v k (fun e => hne e)⟩
/-- A new state behind a step that turns the reader's block alone. -/
theorem Rdr.next {w0 w w' : World} {RB UB UB' : Nat} {rest rest' : ByteArray} {ws ws' : List ByteArray} (h : Rdr w0 w RB UB rest ws) (hg : w.grownBy w' (some RB)) (hat : ∃ A c, Blk w' RB 98 #[.string rest', .slice A ws'.length c] ∧ (0 < ws'.length → ∃ b o, A = some ⟨b, o, none⟩ ∧ b ≠ RB ∧ b < UB' ∧ ∀ i x, ws'[i]? = some x → w'.cell? ⟨b, o + i, none⟩ = some (.string x)) ∧ ws'.length ≤ c)
    (hl : ws'.length ≤ 1000000000) (hs : rest'.size ≤ 100000000 ∧ ∀ s ∈ ws', s.size ≤ 1000000000) (hu : UB' ≤ w'.heap.size) : Rdr w0 w' RB UB' rest' ws' :=
  ⟨h.bs, h.lo, h.be.grown hg h.be.size (fun k e => by cases e; exact h.lo), hat, hl, hu, hs⟩

set_option maxRecDepth 100000 in
set_option maxHeartbeats 2000000 in
theorem word_none {w0 w : World} {RB UB : Nat} {rest : ByteArray} (h : Rdr w0 w RB UB rest []) :
    Calls Tryz.prog 78 #[.pointer (some ⟨RB, 0, none⟩)] w fun e w' => e = stopE ∧ w.grownBy w' (some RB) := by
  obtain ⟨A, c, hB, _, hc⟩ := h.at_
  obtain ⟨r0, r1, r2, r3, r4⟩ := hB.two
  clear h
  go_enter Tryz.func78, Tryz.ntmps78
  go_wp2_with fail
  refine (need_f _).mono ?_
  rintro e w1 ⟨rfl, rfl⟩
  go_wp2_with fail
  exact ⟨rfl, rfl, World.grownBy.refl _ _⟩

set_option maxRecDepth 100000 in
set_option maxHeartbeats 2000000 in
theorem word_some {w0 w : World} {RB UB : Nat} {rest s : ByteArray} {ws : List ByteArray} (h : Rdr w0 w RB UB rest (s :: ws)) :
    Calls Tryz.prog 78 #[.pointer (some ⟨RB, 0, none⟩)] w fun e w' => e = .returned (.string s) ∧ w.grownBy w' (some RB) ∧ Rdr w0 w' RB UB rest ws := by
  obtain ⟨A, c, hB, hA, hc⟩ := h.at_
  obtain ⟨b, o, rfl, hb, hbl, hcells⟩ := hA (by simp)
  have hc0 := hcells 0 s rfl
  rw [Nat.add_zero] at hc0
  obtain ⟨r0, r1, r2, r3, r4⟩ := hB.two
  have hlen := h.len
  rw [List.length_cons] at hlen hc r1
  have HB := Lib.hid hB
  have HH := Lib.hid h
  have HC := Lib.hid hcells
  have hN := hlen
  clear h hB hcells hA
  go_enter Tryz.func78, Tryz.ntmps78
  go_wp2_with fail
  refine (need_t _).mono ?_
  rintro e w1 ⟨rfl, rfl⟩
  have hfin : w1.grownBy (w1.setCell ⟨RB, 1, none⟩ (.slice (some ⟨b, o + 1, none⟩) ws.length (c - 1))) (some RB) ∧ Rdr w0 (w1.setCell ⟨RB, 1, none⟩ (.slice (some ⟨b, o + 1, none⟩) ws.length (c - 1))) RB UB rest ws := by
    refine ⟨grown_set _ _ _ _, HH.out.next (grown_set _ _ _ _) ⟨some ⟨b, o + 1, none⟩, c - 1, ?_, fun _ => ⟨b, o + 1, rfl, hb, hbl, fun i x hx => ?_⟩, by omega⟩ (by omega) ⟨HH.out.siz.1, fun x hx => HH.out.siz.2 x (by simp [hx])⟩ (by simpa using HH.out.ub)⟩
    · have h3 := HB.out.set_ 1 (.slice (some ⟨b, o + 1, none⟩) ws.length (c - 1))
      simpa using h3
    · have h4 := HC.out (i + 1) x (by simpa using hx)
      rw [show o + 1 + i = o + (i + 1) from by omega]
      rw [(grown_set w1 RB 1 (.slice (some ⟨b, o + 1, none⟩) ws.length (c - 1))).cell_far ⟨b, o + (i + 1), none⟩ (Nat.lt_of_lt_of_le hbl HH.out.ub) (fun e => hb (by simpa using e))]
      exact h4
  have HF := Lib.hid hfin
  clear hfin
  by_cases hc1 : c = 1
  · obtain rfl : ws = [] := List.eq_nil_of_length_eq_zero (by omega)
    have hfin2 : w1.grownBy (w1.setCell ⟨RB, 1, none⟩ (.slice (some ⟨b, o, none⟩) 0 0)) (some RB) ∧ Rdr w0 (w1.setCell ⟨RB, 1, none⟩ (.slice (some ⟨b, o, none⟩) 0 0)) RB UB rest [] := by
      refine ⟨grown_set _ _ _ _, HH.out.next (grown_set _ _ _ _) ⟨some ⟨b, o, none⟩, 0, ?_, fun hp => by simp at hp, by simp⟩ (by simp) ⟨HH.out.siz.1, fun x hx => by simp at hx⟩ (by simpa using HH.out.ub)⟩
      have h3 := HB.out.set_ 1 (.slice (some ⟨b, o, none⟩) 0 0)
      simpa using h3
    have HF2 := Lib.hid hfin2
    clear hfin2 HF
    subst hc1
    go_wp2_with fail
    go_ret
    exact ⟨rfl, HF2.out⟩
  · go_wp2_with fail
    go_ret
    exact ⟨rfl, HF.out⟩
end Go.Proofs.YthihpggjglghoaaGreatDoor
