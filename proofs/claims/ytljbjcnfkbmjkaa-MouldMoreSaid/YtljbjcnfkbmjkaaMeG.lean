/- The law's mould, and what is said of it: contracts. -/
import Derived.Test.YtljbjcnfkbmjkaaMdF
import Derived.Test.YtljbjcnfkbmjkaaGd
import Derived.Test.YtljbjcnfkbmjkaaGa
namespace Go.Proofs.Ytljbjcnfkbmjkaa
open Go.RowKit Go.Shelf Go.Maps

theorem end12 {W : World} {g : Nat} {T : TypeId} {cs : Array Value} (hs : cs.size = 12) (h : Blk W g T cs) (v0 v1 v2 v3 v4 v5 v6 v7 v8 v9 v10 v11 : Int) :
    (W.setCell ⟨g, 0, none⟩ (.int .i64 v0)).cell? ⟨g, 0, none⟩ = some (.int .i64 v0) ∧ ((W.setCell ⟨g, 0, none⟩ (.int .i64 v0)).setCell ⟨g, 1, none⟩ (.int .i64 v1)).cell? ⟨g, 1, none⟩ = some (.int .i64 v1) ∧ (((W.setCell ⟨g, 0, none⟩ (.int .i64 v0)).setCell ⟨g, 1, none⟩ (.int .i64 v1)).setCell ⟨g, 2, none⟩ (.int .i64 v2)).cell? ⟨g, 2, none⟩ = some (.int .i64 v2) ∧ ((((W.setCell ⟨g, 0, none⟩ (.int .i64 v0)).setCell ⟨g, 1, none⟩ (.int .i64 v1)).setCell ⟨g, 2, none⟩ (.int .i64 v2)).setCell ⟨g, 3, none⟩ (.int .i64 v3)).cell? ⟨g, 3, none⟩ = some (.int .i64 v3) ∧ (((((W.setCell ⟨g, 0, none⟩ (.int .i64 v0)).setCell ⟨g, 1, none⟩ (.int .i64 v1)).setCell ⟨g, 2, none⟩ (.int .i64 v2)).setCell ⟨g, 3, none⟩ (.int .i64 v3)).setCell ⟨g, 4, none⟩ (.int .i64 v4)).cell? ⟨g, 4, none⟩ = some (.int .i64 v4) ∧ ((((((W.setCell ⟨g, 0, none⟩ (.int .i64 v0)).setCell ⟨g, 1, none⟩ (.int .i64 v1)).setCell ⟨g, 2, none⟩ (.int .i64 v2)).setCell ⟨g, 3, none⟩ (.int .i64 v3)).setCell ⟨g, 4, none⟩ (.int .i64 v4)).setCell ⟨g, 5, none⟩ (.int .i64 v5)).cell? ⟨g, 5, none⟩ = some (.int .i64 v5) ∧ (((((((W.setCell ⟨g, 0, none⟩ (.int .i64 v0)).setCell ⟨g, 1, none⟩ (.int .i64 v1)).setCell ⟨g, 2, none⟩ (.int .i64 v2)).setCell ⟨g, 3, none⟩ (.int .i64 v3)).setCell ⟨g, 4, none⟩ (.int .i64 v4)).setCell ⟨g, 5, none⟩ (.int .i64 v5)).setCell ⟨g, 6, none⟩ (.int .i64 v6)).cell? ⟨g, 6, none⟩ = some (.int .i64 v6) ∧ ((((((((W.setCell ⟨g, 0, none⟩ (.int .i64 v0)).setCell ⟨g, 1, none⟩ (.int .i64 v1)).setCell ⟨g, 2, none⟩ (.int .i64 v2)).setCell ⟨g, 3, none⟩ (.int .i64 v3)).setCell ⟨g, 4, none⟩ (.int .i64 v4)).setCell ⟨g, 5, none⟩ (.int .i64 v5)).setCell ⟨g, 6, none⟩ (.int .i64 v6)).setCell ⟨g, 7, none⟩ (.int .i64 v7)).cell? ⟨g, 7, none⟩ = some (.int .i64 v7) ∧ (((((((((W.setCell ⟨g, 0, none⟩ (.int .i64 v0)).setCell ⟨g, 1, none⟩ (.int .i64 v1)).setCell ⟨g, 2, none⟩ (.int .i64 v2)).setCell ⟨g, 3, none⟩ (.int .i64 v3)).setCell ⟨g, 4, none⟩ (.int .i64 v4)).setCell ⟨g, 5, none⟩ (.int .i64 v5)).setCell ⟨g, 6, none⟩ (.int .i64 v6)).setCell ⟨g, 7, none⟩ (.int .i64 v7)).setCell ⟨g, 8, none⟩ (.int .i64 v8)).cell? ⟨g, 8, none⟩ = some (.int .i64 v8) ∧ ((((((((((W.setCell ⟨g, 0, none⟩ (.int .i64 v0)).setCell ⟨g, 1, none⟩ (.int .i64 v1)).setCell ⟨g, 2, none⟩ (.int .i64 v2)).setCell ⟨g, 3, none⟩ (.int .i64 v3)).setCell ⟨g, 4, none⟩ (.int .i64 v4)).setCell ⟨g, 5, none⟩ (.int .i64 v5)).setCell ⟨g, 6, none⟩ (.int .i64 v6)).setCell ⟨g, 7, none⟩ (.int .i64 v7)).setCell ⟨g, 8, none⟩ (.int .i64 v8)).setCell ⟨g, 9, none⟩ (.int .i64 v9)).cell? ⟨g, 9, none⟩ = some (.int .i64 v9) ∧ (((((((((((W.setCell ⟨g, 0, none⟩ (.int .i64 v0)).setCell ⟨g, 1, none⟩ (.int .i64 v1)).setCell ⟨g, 2, none⟩ (.int .i64 v2)).setCell ⟨g, 3, none⟩ (.int .i64 v3)).setCell ⟨g, 4, none⟩ (.int .i64 v4)).setCell ⟨g, 5, none⟩ (.int .i64 v5)).setCell ⟨g, 6, none⟩ (.int .i64 v6)).setCell ⟨g, 7, none⟩ (.int .i64 v7)).setCell ⟨g, 8, none⟩ (.int .i64 v8)).setCell ⟨g, 9, none⟩ (.int .i64 v9)).setCell ⟨g, 10, none⟩ (.int .i64 v10)).cell? ⟨g, 10, none⟩ = some (.int .i64 v10) ∧ ((((((((((((W.setCell ⟨g, 0, none⟩ (.int .i64 v0)).setCell ⟨g, 1, none⟩ (.int .i64 v1)).setCell ⟨g, 2, none⟩ (.int .i64 v2)).setCell ⟨g, 3, none⟩ (.int .i64 v3)).setCell ⟨g, 4, none⟩ (.int .i64 v4)).setCell ⟨g, 5, none⟩ (.int .i64 v5)).setCell ⟨g, 6, none⟩ (.int .i64 v6)).setCell ⟨g, 7, none⟩ (.int .i64 v7)).setCell ⟨g, 8, none⟩ (.int .i64 v8)).setCell ⟨g, 9, none⟩ (.int .i64 v9)).setCell ⟨g, 10, none⟩ (.int .i64 v10)).setCell ⟨g, 11, none⟩ (.int .i64 v11)).cell? ⟨g, 11, none⟩ = some (.int .i64 v11) := by
  have h1 := h.set_ 0 (.int .i64 v0)
  have h2 := h1.set_ 1 (.int .i64 v1)
  have h3 := h2.set_ 2 (.int .i64 v2)
  have h4 := h3.set_ 3 (.int .i64 v3)
  have h5 := h4.set_ 4 (.int .i64 v4)
  have h6 := h5.set_ 5 (.int .i64 v5)
  have h7 := h6.set_ 6 (.int .i64 v6)
  have h8 := h7.set_ 7 (.int .i64 v7)
  have h9 := h8.set_ 8 (.int .i64 v8)
  have h10 := h9.set_ 9 (.int .i64 v9)
  have h11 := h10.set_ 10 (.int .i64 v10)
  have h12 := h11.set_ 11 (.int .i64 v11)
  refine ⟨?_, ?_, ?_, ?_, ?_, ?_, ?_, ?_, ?_, ?_, ?_, ?_⟩
  · rw [h1.cell]; simp [hs]
  · rw [h2.cell]; simp [hs]
  · rw [h3.cell]; simp [hs]
  · rw [h4.cell]; simp [hs]
  · rw [h5.cell]; simp [hs]
  · rw [h6.cell]; simp [hs]
  · rw [h7.cell]; simp [hs]
  · rw [h8.cell]; simp [hs]
  · rw [h9.cell]; simp [hs]
  · rw [h10.cell]; simp [hs]
  · rw [h11.cell]; simp [hs]
  · rw [h12.cell]; simp [hs]
/-- The mould of the examples. -/
def mo (d : Int) : Md := ⟨2, 500, 800, 800, 200, 300, 540, 100, 1, 250, 1, d⟩
set_option maxRecDepth 100000 in
set_option maxHeartbeats 2000000 in
theorem lmould_any (d : Int) (w : World) :
    Calls Try.prog 35 #[.int .i64 d] w fun e w' => e = .returned (.agg #[.int .i64 2, .int .i64 500, .int .i64 800, .int .i64 800, .int .i64 200, .int .i64 300, .int .i64 540, .int .i64 100, .int .i64 1, .int .i64 250, .int .i64 1, .int .i64 d]) ∧ Below w.heap.size w w' := by
  have HB0 := Lib.hid (Blk.new w 25 (Array.replicate 12 (.int .i64 0)))
  have HB : Hid (Below w.heap.size w (w.alloc (.cells #[.int .i64 0, .int .i64 0, .int .i64 0, .int .i64 0, .int .i64 0, .int .i64 0, .int .i64 0, .int .i64 0, .int .i64 0, .int .i64 0, .int .i64 0, .int .i64 0] 25))) := (Below.refl _ w).alloc (Nat.le_refl _) _
  have HK : Hid (Blk (w.alloc (.cells #[.int .i64 0, .int .i64 0, .int .i64 0, .int .i64 0, .int .i64 0, .int .i64 0, .int .i64 0, .int .i64 0, .int .i64 0, .int .i64 0, .int .i64 0, .int .i64 0] 25)) w.heap.size 25 #[.int .i64 0, .int .i64 0, .int .i64 0, .int .i64 0, .int .i64 0, .int .i64 0, .int .i64 0, .int .i64 0, .int .i64 0, .int .i64 0, .int .i64 0, .int .i64 0]) := Blk.new _ _ _
  clear HB0
  go_enter Try.func35, Try.ntmps35
  go_wp2_with (first
    | (go_at_call 36; (with_reducible refine (span_any 800 800 _).mono ?_); rintro e w1 ⟨rfl, hb1⟩; have HK1 := Lib.hid (HK.out.on hb1); have HB1 := Lib.hid (HB.out.trans (hb1.mono HB.out.size)); clear hb1)
    | (go_at_call 36; (with_reducible refine (span_any 200 300 _).mono ?_); rintro e w2 ⟨rfl, hb2⟩; have HK2 := Lib.hid (HK1.out.on hb2); have HB2 := Lib.hid (HB1.out.trans (hb2.mono HB1.out.size)); have hl := HK2.out.lt; have g0 := HK2.out.frozen 0; have r0 := HK2.out.cell 0; have g1 := HK2.out.frozen 1; have r1 := HK2.out.cell 1; have g2 := HK2.out.frozen 2; have r2 := HK2.out.cell 2; have g3 := HK2.out.frozen 3; have r3 := HK2.out.cell 3; have g4 := HK2.out.frozen 4; have r4 := HK2.out.cell 4; have g5 := HK2.out.frozen 5; have r5 := HK2.out.cell 5; have g6 := HK2.out.frozen 6; have r6 := HK2.out.cell 6; have g7 := HK2.out.frozen 7; have r7 := HK2.out.cell 7; have g8 := HK2.out.frozen 8; have r8 := HK2.out.cell 8; have g9 := HK2.out.frozen 9; have r9 := HK2.out.cell 9; have g10 := HK2.out.frozen 10; have r10 := HK2.out.cell 10; have g11 := HK2.out.frozen 11; have r11 := HK2.out.cell 11; clear hb2)
    | fail)
  obtain ⟨s0, s1, s2, s3, s4, s5, s6, s7, s8, s9, s10, s11⟩ := end12 rfl HK2.out 2 500 800 800 200 300 540 100 1 250 1 d
  refine bodyPost_ret (v := (.agg #[.int .i64 2, .int .i64 500, .int .i64 800, .int .i64 800, .int .i64 200, .int .i64 300, .int .i64 540, .int .i64 100, .int .i64 1, .int .i64 250, .int .i64 1, .int .i64 d])) ?_ rfl ⟨rfl, ?_⟩
  · simp [results, Try.results35, go_sem, s0, s1, s2, s3, s4, s5, s6, s7, s8, s9, s10, s11]
  · exact (below_set (below_set (below_set (below_set (below_set (below_set (below_set (below_set (below_set (below_set (below_set (below_set HB2.out (Nat.le_refl _)) (Nat.le_refl _)) (Nat.le_refl _)) (Nat.le_refl _)) (Nat.le_refl _)) (Nat.le_refl _)) (Nat.le_refl _)) (Nat.le_refl _)) (Nat.le_refl _)) (Nat.le_refl _)) (Nat.le_refl _)) (Nat.le_refl _))
theorem end4' {W : World} {g : Nat} {T : TypeId} {cs : Array Value} (hs : cs.size = 4) (h : Blk W g T cs) (v0 v1 v2 v3 : Int) :
    (W.setCell ⟨g, 0, none⟩ (.int .i64 v0)).cell? ⟨g, 0, none⟩ = some (.int .i64 v0) ∧ ((W.setCell ⟨g, 0, none⟩ (.int .i64 v0)).setCell ⟨g, 1, none⟩ (.int .i64 v1)).cell? ⟨g, 1, none⟩ = some (.int .i64 v1) ∧ (((W.setCell ⟨g, 0, none⟩ (.int .i64 v0)).setCell ⟨g, 1, none⟩ (.int .i64 v1)).setCell ⟨g, 2, none⟩ (.int .i64 v2)).cell? ⟨g, 2, none⟩ = some (.int .i64 v2) ∧ ((((W.setCell ⟨g, 0, none⟩ (.int .i64 v0)).setCell ⟨g, 1, none⟩ (.int .i64 v1)).setCell ⟨g, 2, none⟩ (.int .i64 v2)).setCell ⟨g, 3, none⟩ (.int .i64 v3)).cell? ⟨g, 3, none⟩ = some (.int .i64 v3) := by
  have h1 := h.set_ 0 (.int .i64 v0)
  have h2 := h1.set_ 1 (.int .i64 v1)
  have h3 := h2.set_ 2 (.int .i64 v2)
  have h4 := h3.set_ 3 (.int .i64 v3)
  refine ⟨?_, ?_, ?_, ?_⟩
  · rw [h1.cell]; simp [hs]
  · rw [h2.cell]; simp [hs]
  · rw [h3.cell]; simp [hs]
  · rw [h4.cell]; simp [hs]
set_option maxRecDepth 100000 in
set_option maxHeartbeats 2000000 in
theorem lend_any (a b c d : Int) (w : World) :
    Calls Try.prog 37 #[.int .i64 a, .int .i64 b, .int .i64 c, .int .i64 d] w fun e w' => e = .returned (.agg #[.int .i64 a, .int .i64 b, .int .i64 c, .int .i64 d]) ∧ Below w.heap.size w w' := by
  have HB : Hid (Below w.heap.size w (w.alloc (.cells #[.int .i64 0, .int .i64 0, .int .i64 0, .int .i64 0] 45))) := (Below.refl _ w).alloc (Nat.le_refl _) _
  have HK : Hid (Blk (w.alloc (.cells #[.int .i64 0, .int .i64 0, .int .i64 0, .int .i64 0] 45)) w.heap.size 45 #[.int .i64 0, .int .i64 0, .int .i64 0, .int .i64 0]) := Blk.new _ _ _
  go_enter Try.func37, Try.ntmps37
  go_wp2_with (first
    | (go_at_call 36; (with_reducible refine (span_any c d _).mono ?_); rintro e w2 ⟨rfl, hb2⟩; have HK2 := Lib.hid (HK1.out.on hb2); have HB2 := Lib.hid (HB1.out.trans (hb2.mono HB1.out.size)); have hl := HK2.out.lt; have g0 := HK2.out.frozen 0; have r0 := HK2.out.cell 0; have g1 := HK2.out.frozen 1; have r1 := HK2.out.cell 1; have g2 := HK2.out.frozen 2; have r2 := HK2.out.cell 2; have g3 := HK2.out.frozen 3; have r3 := HK2.out.cell 3; clear hb2)
    | (go_at_call 36; (with_reducible refine (span_any a b _).mono ?_); rintro e w1 ⟨rfl, hb1⟩; have HK1 := Lib.hid (HK.out.on hb1); have HB1 := Lib.hid (HB.out.trans (hb1.mono HB.out.size)); clear hb1)
    | fail)
  obtain ⟨s0, s1, s2, s3⟩ := end4' rfl HK2.out a b c d
  refine bodyPost_ret (v := .agg #[.int .i64 a, .int .i64 b, .int .i64 c, .int .i64 d]) ?_ rfl ⟨rfl, ?_⟩
  · simp [results, Try.results37, go_sem, s0, s1, s2, s3]
  · exact (below_set (below_set (below_set (below_set HB2.out (Nat.le_refl _)) (Nat.le_refl _)) (Nat.le_refl _)) (Nat.le_refl _))
theorem ev_cool : coolR (mo 150) [800, 800] [300, 300, 300, 300, 300] = ([424, 502], 0) := by decide +kernel
theorem ev_warm : warmR (mo 150) 3 = ([(425, 487), (575, 612)], 0) := by decide +kernel
theorem ev_sets : setsR (mo 150) = ([(1, 3), (4, 5)], 0) := by decide +kernel
theorem ev_skin : skinR (mo 150) 4 = ((1, 2), 0) := by decide +kernel
theorem ev_holl : hollR (mo 150) [2, 3] = (((100, 150), (250, 300)), 0) := by decide +kernel
theorem ev_few : fewR (mo 150) = ([3], 0) := by decide +kernel
theorem ev_down : fewR (mo 149) = ([], 9) := by decide +kernel
theorem ev_check : checkM (mo (-1)) = 7 := by decide +kernel
end Go.Proofs.Ytljbjcnfkbmjkaa
