/- wax's reader: nextLine: contract. -/
import Derived.Test.YthihpggjglghoaaGreatDoorNum
import Derived.Lib.SplitLaws
namespace Go.Proofs.YthihpggjglghoaaGreatDoor
open Go.RowKit Go.Shelf

theorem splitB_size (sep : ByteArray) (n : Nat) : ∀ (k : Nat) (s : ByteArray), s.size ≤ n → ∀ x ∈ Lib.splitB sep 0 k s, x.size ≤ n
  | 0, s, h, x, hx => by rw [Lib.splitB_zero, List.mem_singleton] at hx; rw [hx]; exact h
  | k + 1, s, h, x, hx => by
    unfold Lib.splitB at hx
    split at hx
    · rw [List.mem_singleton] at hx; rw [hx]; exact h
    · rcases List.mem_cons.1 hx with rfl | hx
      · rw [ByteArray.size_extract]; omega
      · exact splitB_size sep n k _ (by rw [ByteArray.size_extract]; omega) x hx
def cutF (s : ByteArray) : ByteArray := ⟨(Lib.cut s.data.toList [10]).1.toArray⟩
def cutR (s : ByteArray) : ByteArray := ⟨(Lib.cut s.data.toList [10]).2.1.toArray⟩
def cutB (s : ByteArray) : Bool := (Lib.cut s.data.toList [10]).2.2
/-- The words of a line. -/
def wordsV (s : ByteArray) : List ByteArray := Lib.splitB ⟨#[32]⟩ 0 (Lib.countB s ⟨#[32]⟩) s
theorem wordsV_len (s : ByteArray) : (wordsV s).length = Lib.countB s ⟨#[32]⟩ + 1 := Lib.splitB_all _ (by decide) 0 _ s rfl
theorem wordsV_le (s : ByteArray) : (wordsV s).length ≤ s.size + 1 := by
  have := Lib.countB_le ⟨#[32]⟩ (by decide) s.size s (Nat.le_refl _)
  rw [wordsV_len]; omega
theorem cut_sizes (s : ByteArray) : (cutF s).size ≤ s.size ∧ (cutR s).size ≤ s.size := by
  have hs : s.data.toList.length = s.size := by rw [Array.length_toList]; rfl
  constructor
  · show (Lib.cut s.data.toList [10]).1.toArray.size ≤ _
    rw [List.size_toArray]
    unfold Lib.cut
    split
    · simp only [List.length_take]; omega
    · simp only; omega
  · show (Lib.cut s.data.toList [10]).2.1.toArray.size ≤ _
    rw [List.size_toArray]
    unfold Lib.cut
    split
    · simp only [List.length_drop]; omega
    · simp
theorem cut_any {w : World} (hB : Base w) (s : ByteArray) (hs : s.size ≤ 100000000) : Calls Tryz.prog 98 #[.string s, .string ⟨#[10]⟩] w fun e w' => e = .returned (.tuple #[.string (cutF s), .string (cutR s), .bool (cutB s)]) ∧ Below w.heap.size w w' := by
  obtain ⟨m, hm⟩ := hB.cut
  refine (Tryz.strings_Cut s ⟨#[10]⟩ m w (by omega) hm).mono ?_
  rintro e w' ⟨rfl, n, rfl⟩
  exact ⟨rfl, below_drewN' (Below.refl _ w) n⟩
theorem split_any {w : World} (hB : Base w) (s : ByteArray) (hs : s.size ≤ 100000000) : Calls Tryz.prog 99 #[.string s, .string ⟨#[32]⟩] w fun e w' => e = .returned (.slice (some ⟨w.heap.size, 0, none⟩) (wordsV s).length (wordsV s).length) ∧ w' = w.alloc (.cells ((wordsV s).map Value.string).toArray 9) := by
  obtain ⟨m, hm⟩ := hB.cut
  rw [wordsV_len]
  exact Tryz.strings_Split s ⟨#[32]⟩ m w (by omega) hm (by decide)

set_option maxRecDepth 100000 in
set_option maxHeartbeats 2000000 in
theorem nextLine_stop {w0 w : World} {RB UB : Nat} {rest : ByteArray} {ws : List ByteArray} (h : Rdr w0 w RB UB rest ws) (hc : cutB rest = false) :
    Calls Tryz.prog 76 #[.pointer (some ⟨RB, 0, none⟩)] w fun e w' => e = stopE ∧ w.grownBy w' (some RB) := by
  have HC := Lib.hid (cut_any h.base rest h.siz.1)
  obtain ⟨A, c, hB, _, hcc⟩ := h.at_
  obtain ⟨r0, r1, r2, r3, r4⟩ := hB.two
  have hl := h.len
  clear h hB
  generalize cutF rest = cf at *
  generalize cutR rest = cr at *
  go_enter Tryz.func76, Tryz.ntmps76
  go_wp2_with fail
  refine HC.out.mono ?_
  rintro e w1 ⟨rfl, hb⟩
  have hg : w.grownBy w1 (some RB) := grown_below hb
  clear hb
  rw [hc]
  go_wp2_with fail
  refine (need_f _).mono ?_
  rintro e w4 ⟨rfl, rfl⟩
  go_wp2_with fail
  exact ⟨rfl, rfl, hg⟩

set_option maxRecDepth 100000 in
set_option maxHeartbeats 2000000 in
theorem nextLine_some {w0 w : World} {RB UB : Nat} {rest : ByteArray} {ws : List ByteArray} (h : Rdr w0 w RB UB rest ws) (hc : cutB rest = true) :
    Calls Tryz.prog 76 #[.pointer (some ⟨RB, 0, none⟩)] w fun e w' => e = .returned (.tuple #[]) ∧ w.grownBy w' (some RB) ∧ Rdr w0 w' RB w'.heap.size (cutR rest) (wordsV (cutF rest)) := by
  have HC := Lib.hid (cut_any h.base rest h.siz.1)
  obtain ⟨hz1, hz2⟩ := cut_sizes rest
  have hz := h.siz.1
  have HH := Lib.hid h
  obtain ⟨A, c, hB, _, hcc⟩ := h.at_
  obtain ⟨r0, r1, r2, r3, r4⟩ := hB.two
  have hl := h.len
  have HB := Lib.hid hB
  clear h hB
  generalize cutF rest = cf at *
  generalize cutR rest = cr at *
  have hwl := wordsV_le cf
  have HWS := Lib.hid (fun x hx => splitB_size ⟨#[32]⟩ cf.size _ cf (Nat.le_refl _) x hx : ∀ x ∈ wordsV cf, x.size ≤ cf.size)
  have HSP := Lib.hid (fun (W : World) (hW : Base W) => split_any hW cf (by omega))
  generalize wordsV cf = wv at *
  go_enter Tryz.func76, Tryz.ntmps76
  go_wp2_with fail
  refine HC.out.mono ?_
  rintro e w1 ⟨rfl, hb⟩
  have hr1 := HH.out.on hb
  have hg : w.grownBy w1 (some RB) := grown_below hb
  have HB1 := Lib.hid (HB.out.on hb)
  clear hb HC HH HB r0 r1 r2 r3 r4
  rw [hc]
  go_wp2_with fail
  refine (need_t _).mono ?_
  rintro e w4 ⟨rfl, rfl⟩
  go_wp2_with fail
  refine (HSP.out _ hr1.base).mono ?_
  rintro e w5 ⟨rfl, rfl⟩
  obtain ⟨r0, r1, r2, r3, r4⟩ := HB1.out.two
  go_wp2_with fail
  go_end0
  have hgB : w4.grownBy (((w4.setCell ⟨RB, 1, none⟩ (.slice (some ⟨w4.heap.size, 0, none⟩) wv.length wv.length)).setCell ⟨RB, 0, none⟩ (.string cr)).alloc (.cells (wv.map Value.string).toArray 9)) (some RB) := ((grown_set _ _ _ _).trans (grown_set _ _ _ _)).trans (World.grownBy_alloc _ _ _)
  refine ⟨rfl, hg.trans hgB, hr1.next hgB ⟨some ⟨w4.heap.size, 0, none⟩, wv.length, ?_, fun _ => ⟨w4.heap.size, 0, rfl, by omega, by simp, fun i x hx => ?_⟩, Nat.le_refl _⟩ (by omega) ⟨by omega, fun x hx => by have := HWS.out x hx; omega⟩ (Nat.le_refl _)⟩
  · have h3 := ((HB1.out.set_ 1 (.slice (some ⟨w4.heap.size, 0, none⟩) wv.length wv.length)).set_ 0 (.string cr)).alloc (.cells (wv.map Value.string).toArray 9)
    simpa using h3
  · have h4 := (Blk.new ((w4.setCell ⟨RB, 1, none⟩ (.slice (some ⟨w4.heap.size, 0, none⟩) wv.length wv.length)).setCell ⟨RB, 0, none⟩ (.string cr)) 9 (wv.map Value.string).toArray).cell i
    rw [Nat.zero_add]
    have h5 : (((w4.setCell ⟨RB, 1, none⟩ (.slice (some ⟨w4.heap.size, 0, none⟩) wv.length wv.length)).setCell ⟨RB, 0, none⟩ (.string cr))).heap.size = w4.heap.size := by simp
    rw [h5] at h4
    rw [h4]
    simp [hx]
end Go.Proofs.YthihpggjglghoaaGreatDoor
