/- mould.span at fates: contracts. -/
import Derived.Test.YtljbjcnfkbmjkaaMdF
namespace Go.Proofs.Ytljbjcnfkbmjkaa
open Go.RowKit Go.Shelf Go.Maps
attribute [local go_sem] Oper.semAt_some

set_option maxRecDepth 100000 in
theorem fate1_any (h p : Int) (w : World) :
    Calls Try.prog 78 #[.agg #[.int .i64 h, .int .i64 p]] w fun e w' => e = .returned (.int .i64 h) ∧ Below w.heap.size w w' := by
  have HB := Lib.hid ((Below.refl _ w).alloc (Nat.le_refl _) (.cells #[.int .i64 h, .int .i64 p] 120))
  go_enter Try.func78, Try.ntmps78
  go_wp2_with fail
  go_ret
  exact ⟨rfl, HB.out⟩
set_option maxRecDepth 100000 in
set_option maxHeartbeats 1000000 in
theorem spanF1_any {h1 p1 h2 p2 r1 r2 : Int} (w : World) (hr : (h1 ≤ h2 ∧ r1 = h1 ∧ r2 = h2) ∨ (h2 ≤ h1 ∧ r1 = h2 ∧ r2 = h1)) :
    Calls Try.prog 77 #[.agg #[.int .i64 h1, .int .i64 p1, .int .i64 h2, .int .i64 p2], .func (.func 78) #[] #[]] w fun e w' => e = .returned (.agg #[.int .i64 r1, .int .i64 r2]) ∧ Below w.heap.size w w' := by
  have eg : ∀ args w, (callFunc 78 args).run Try.prog w = .ok (.enter 78 args) w := enters_of Try.func78 (by kernel_rfl) rfl
  have HC1 := Lib.hid (fun W => fate1_any h1 p1 W)
  have HC2 := Lib.hid (fun W => fate1_any h2 p2 W)
  have HRR := Lib.hid hr
  clear hr
  go_enter Try.func77, Try.ntmps77
  go_wp2_with fail
  have HL := Lib.hid (show ∀ W, Below (w.heap.size + 1 + 1) ((w.alloc (.cells #[.int .i64 h1, .int .i64 p1, .int .i64 h2, .int .i64 p2] 121)).alloc (.cells #[.int .i64 0, .int .i64 0] 23)) W → W.cell? ⟨w.heap.size, 0, none⟩ = some (.int .i64 h1) ∧ W.cell? ⟨w.heap.size, 1, none⟩ = some (.int .i64 p1) ∧ W.cell? ⟨w.heap.size, 2, none⟩ = some (.int .i64 h2) ∧ W.cell? ⟨w.heap.size, 3, none⟩ = some (.int .i64 p2) ∧ Blk W (w.heap.size + 1) 23 #[.int .i64 0, .int .i64 0] ∧ Below w.heap.size w W from
    fun W hb => ⟨(((Blk.new w _ _).alloc _).below hb (by omega)).cell 0, (((Blk.new w _ _).alloc _).below hb (by omega)).cell 1, (((Blk.new w _ _).alloc _).below hb (by omega)).cell 2, (((Blk.new w _ _).alloc _).below hb (by omega)).cell 3, (Blk.new1 w _ _ _).below hb (by omega), (((Below.refl _ w).alloc (Nat.le_refl _) _).alloc (by simp) _).trans (hb.mono (by omega))⟩)
  have HS := Lib.hid (show ∀ W W', (W.cell? ⟨w.heap.size, 0, none⟩ = some (.int .i64 h1) ∧ W.cell? ⟨w.heap.size, 1, none⟩ = some (.int .i64 p1) ∧ W.cell? ⟨w.heap.size, 2, none⟩ = some (.int .i64 h2) ∧ W.cell? ⟨w.heap.size, 3, none⟩ = some (.int .i64 p2) ∧ Blk W (w.heap.size + 1) 23 #[.int .i64 0, .int .i64 0] ∧ Below w.heap.size w W) → Below W.heap.size W W' → (W'.cell? ⟨w.heap.size, 0, none⟩ = some (.int .i64 h1) ∧ W'.cell? ⟨w.heap.size, 1, none⟩ = some (.int .i64 p1) ∧ W'.cell? ⟨w.heap.size, 2, none⟩ = some (.int .i64 h2) ∧ W'.cell? ⟨w.heap.size, 3, none⟩ = some (.int .i64 p2) ∧ Blk W' (w.heap.size + 1) 23 #[.int .i64 0, .int .i64 0] ∧ Below w.heap.size w W') from
    fun W W' h hb => ⟨kept_of hb _ _ h.1, kept_of hb _ _ h.2.1, kept_of hb _ _ h.2.2.1, kept_of hb _ _ h.2.2.2.1, h.2.2.2.2.1.on hb, h.2.2.2.2.2.trans (hb.mono h.2.2.2.2.2.size)⟩)
  go_region_held3 (fun W => W.cell? ⟨w.heap.size, 0, none⟩ = some (.int .i64 h1) ∧ W.cell? ⟨w.heap.size, 1, none⟩ = some (.int .i64 p1) ∧ W.cell? ⟨w.heap.size, 2, none⟩ = some (.int .i64 h2) ∧ W.cell? ⟨w.heap.size, 3, none⟩ = some (.int .i64 p2) ∧ Blk W (w.heap.size + 1) 23 #[.int .i64 0, .int .i64 0] ∧ Below w.heap.size w W)
    (first | assumption | exact HL.out _ (Below.refl _ _).drew | (refine HS.out _ _ ?_ (by first | assumption | exact (Below.refl _ _).drew | exact below_drewN' (Below.refl _ _) _); first | assumption | exact ⟨by assumption, by assumption, by assumption, by assumption, by assumption, by assumption⟩ | (go_split_ands; exact ⟨by assumption, by assumption, by assumption, by assumption, by assumption, by assumption⟩)))
    (first | (go_at_call 78; (with_reducible refine (HC1.out _).mono ?_); rintro e w1 ⟨rfl, hb1⟩) | (go_at_call 78; (with_reducible refine (HC2.out _).mono ?_); rintro e w2 ⟨rfl, hb2⟩) | fail)
  rename_i hfin
  obtain ⟨-, -, -, -, hbk, hbw⟩ := hfin
  have f0 := hbk.frozen 0
  have f1 := hbk.frozen 1
  have c0 := hbk.cell 0
  have c1 := hbk.cell 1
  have HBK := Lib.hid hbk
  have HBW := Lib.hid hbw
  clear hbk hbw
  rcases (show h1 < h2 ∨ h1 = h2 ∨ h2 < h1 by omega) with hlt | rfl | hlt
  · obtain ⟨e1, e2⟩ : r1 = h1 ∧ r2 = h2 := by have := HRR.out; omega
    clear HRR
    go_wp2_with fail
    have s0 := (HBK.out.set_ 0 (.int .i64 h1)).cell 0
    have s1 := ((HBK.out.set_ 0 (.int .i64 h1)).set_ 1 (.int .i64 h2)).cell 1
    refine bodyPost_ret (v := .agg #[.int .i64 h1, .int .i64 h2]) (by simp at s0 s1; simp [results, Try.results77, go_sem, s0, s1]) rfl ⟨by rw [e1, e2], ?_⟩
    exact below_set (below_set HBW.out (Nat.le_succ _)) (Nat.le_succ _)
  · obtain ⟨e1, e2⟩ : r1 = h1 ∧ r2 = h1 := by have := HRR.out; omega
    clear HRR
    go_wp2_with fail
    have s0 := (HBK.out.set_ 0 (.int .i64 h1)).cell 0
    have s1 := ((HBK.out.set_ 0 (.int .i64 h1)).set_ 1 (.int .i64 h1)).cell 1
    refine bodyPost_ret (v := .agg #[.int .i64 h1, .int .i64 h1]) (by simp at s0 s1; simp [results, Try.results77, go_sem, s0, s1]) rfl ⟨by rw [e1, e2], ?_⟩
    exact below_set (below_set HBW.out (Nat.le_succ _)) (Nat.le_succ _)
  · obtain ⟨e1, e2⟩ : r1 = h2 ∧ r2 = h1 := by have := HRR.out; omega
    clear HRR
    go_wp2_with fail
    have s0 := (HBK.out.set_ 0 (.int .i64 h2)).cell 0
    have s1 := ((HBK.out.set_ 0 (.int .i64 h2)).set_ 1 (.int .i64 h1)).cell 1
    refine bodyPost_ret (v := .agg #[.int .i64 h2, .int .i64 h1]) (by simp at s0 s1; simp [results, Try.results77, go_sem, s0, s1]) rfl ⟨by rw [e1, e2], ?_⟩
    exact below_set (below_set HBW.out (Nat.le_succ _)) (Nat.le_succ _)
set_option maxRecDepth 100000 in
theorem fate2_any (h p : Int) (w : World) :
    Calls Try.prog 79 #[.agg #[.int .i64 h, .int .i64 p]] w fun e w' => e = .returned (.int .i64 p) ∧ Below w.heap.size w w' := by
  have HB := Lib.hid ((Below.refl _ w).alloc (Nat.le_refl _) (.cells #[.int .i64 h, .int .i64 p] 120))
  go_enter Try.func79, Try.ntmps79
  go_wp2_with fail
  go_ret
  exact ⟨rfl, HB.out⟩
set_option maxRecDepth 100000 in
set_option maxHeartbeats 1000000 in
theorem spanF2_any {h1 p1 h2 p2 r1 r2 : Int} (w : World) (hr : (p1 ≤ p2 ∧ r1 = p1 ∧ r2 = p2) ∨ (p2 ≤ p1 ∧ r1 = p2 ∧ r2 = p1)) :
    Calls Try.prog 77 #[.agg #[.int .i64 h1, .int .i64 p1, .int .i64 h2, .int .i64 p2], .func (.func 79) #[] #[]] w fun e w' => e = .returned (.agg #[.int .i64 r1, .int .i64 r2]) ∧ Below w.heap.size w w' := by
  have eg : ∀ args w, (callFunc 79 args).run Try.prog w = .ok (.enter 79 args) w := enters_of Try.func79 (by kernel_rfl) rfl
  have HC1 := Lib.hid (fun W => fate2_any h1 p1 W)
  have HC2 := Lib.hid (fun W => fate2_any h2 p2 W)
  have HRR := Lib.hid hr
  clear hr
  go_enter Try.func77, Try.ntmps77
  go_wp2_with fail
  have HL := Lib.hid (show ∀ W, Below (w.heap.size + 1 + 1) ((w.alloc (.cells #[.int .i64 h1, .int .i64 p1, .int .i64 h2, .int .i64 p2] 121)).alloc (.cells #[.int .i64 0, .int .i64 0] 23)) W → W.cell? ⟨w.heap.size, 0, none⟩ = some (.int .i64 h1) ∧ W.cell? ⟨w.heap.size, 1, none⟩ = some (.int .i64 p1) ∧ W.cell? ⟨w.heap.size, 2, none⟩ = some (.int .i64 h2) ∧ W.cell? ⟨w.heap.size, 3, none⟩ = some (.int .i64 p2) ∧ Blk W (w.heap.size + 1) 23 #[.int .i64 0, .int .i64 0] ∧ Below w.heap.size w W from
    fun W hb => ⟨(((Blk.new w _ _).alloc _).below hb (by omega)).cell 0, (((Blk.new w _ _).alloc _).below hb (by omega)).cell 1, (((Blk.new w _ _).alloc _).below hb (by omega)).cell 2, (((Blk.new w _ _).alloc _).below hb (by omega)).cell 3, (Blk.new1 w _ _ _).below hb (by omega), (((Below.refl _ w).alloc (Nat.le_refl _) _).alloc (by simp) _).trans (hb.mono (by omega))⟩)
  have HS := Lib.hid (show ∀ W W', (W.cell? ⟨w.heap.size, 0, none⟩ = some (.int .i64 h1) ∧ W.cell? ⟨w.heap.size, 1, none⟩ = some (.int .i64 p1) ∧ W.cell? ⟨w.heap.size, 2, none⟩ = some (.int .i64 h2) ∧ W.cell? ⟨w.heap.size, 3, none⟩ = some (.int .i64 p2) ∧ Blk W (w.heap.size + 1) 23 #[.int .i64 0, .int .i64 0] ∧ Below w.heap.size w W) → Below W.heap.size W W' → (W'.cell? ⟨w.heap.size, 0, none⟩ = some (.int .i64 h1) ∧ W'.cell? ⟨w.heap.size, 1, none⟩ = some (.int .i64 p1) ∧ W'.cell? ⟨w.heap.size, 2, none⟩ = some (.int .i64 h2) ∧ W'.cell? ⟨w.heap.size, 3, none⟩ = some (.int .i64 p2) ∧ Blk W' (w.heap.size + 1) 23 #[.int .i64 0, .int .i64 0] ∧ Below w.heap.size w W') from
    fun W W' h hb => ⟨kept_of hb _ _ h.1, kept_of hb _ _ h.2.1, kept_of hb _ _ h.2.2.1, kept_of hb _ _ h.2.2.2.1, h.2.2.2.2.1.on hb, h.2.2.2.2.2.trans (hb.mono h.2.2.2.2.2.size)⟩)
  go_region_held3 (fun W => W.cell? ⟨w.heap.size, 0, none⟩ = some (.int .i64 h1) ∧ W.cell? ⟨w.heap.size, 1, none⟩ = some (.int .i64 p1) ∧ W.cell? ⟨w.heap.size, 2, none⟩ = some (.int .i64 h2) ∧ W.cell? ⟨w.heap.size, 3, none⟩ = some (.int .i64 p2) ∧ Blk W (w.heap.size + 1) 23 #[.int .i64 0, .int .i64 0] ∧ Below w.heap.size w W)
    (first | assumption | exact HL.out _ (Below.refl _ _).drew | (refine HS.out _ _ ?_ (by first | assumption | exact (Below.refl _ _).drew | exact below_drewN' (Below.refl _ _) _); first | assumption | exact ⟨by assumption, by assumption, by assumption, by assumption, by assumption, by assumption⟩ | (go_split_ands; exact ⟨by assumption, by assumption, by assumption, by assumption, by assumption, by assumption⟩)))
    (first | (go_at_call 79; (with_reducible refine (HC1.out _).mono ?_); rintro e w1 ⟨rfl, hb1⟩) | (go_at_call 79; (with_reducible refine (HC2.out _).mono ?_); rintro e w2 ⟨rfl, hb2⟩) | fail)
  rename_i hfin
  obtain ⟨-, -, -, -, hbk, hbw⟩ := hfin
  have f0 := hbk.frozen 0
  have f1 := hbk.frozen 1
  have c0 := hbk.cell 0
  have c1 := hbk.cell 1
  have HBK := Lib.hid hbk
  have HBW := Lib.hid hbw
  clear hbk hbw
  rcases (show p1 < p2 ∨ p1 = p2 ∨ p2 < p1 by omega) with hlt | rfl | hlt
  · obtain ⟨e1, e2⟩ : r1 = p1 ∧ r2 = p2 := by have := HRR.out; omega
    clear HRR
    go_wp2_with fail
    have s0 := (HBK.out.set_ 0 (.int .i64 p1)).cell 0
    have s1 := ((HBK.out.set_ 0 (.int .i64 p1)).set_ 1 (.int .i64 p2)).cell 1
    refine bodyPost_ret (v := .agg #[.int .i64 p1, .int .i64 p2]) (by simp at s0 s1; simp [results, Try.results77, go_sem, s0, s1]) rfl ⟨by rw [e1, e2], ?_⟩
    exact below_set (below_set HBW.out (Nat.le_succ _)) (Nat.le_succ _)
  · obtain ⟨e1, e2⟩ : r1 = p1 ∧ r2 = p1 := by have := HRR.out; omega
    clear HRR
    go_wp2_with fail
    have s0 := (HBK.out.set_ 0 (.int .i64 p1)).cell 0
    have s1 := ((HBK.out.set_ 0 (.int .i64 p1)).set_ 1 (.int .i64 p1)).cell 1
    refine bodyPost_ret (v := .agg #[.int .i64 p1, .int .i64 p1]) (by simp at s0 s1; simp [results, Try.results77, go_sem, s0, s1]) rfl ⟨by rw [e1, e2], ?_⟩
    exact below_set (below_set HBW.out (Nat.le_succ _)) (Nat.le_succ _)
  · obtain ⟨e1, e2⟩ : r1 = p2 ∧ r2 = p1 := by have := HRR.out; omega
    clear HRR
    go_wp2_with fail
    have s0 := (HBK.out.set_ 0 (.int .i64 p2)).cell 0
    have s1 := ((HBK.out.set_ 0 (.int .i64 p2)).set_ 1 (.int .i64 p1)).cell 1
    refine bodyPost_ret (v := .agg #[.int .i64 p2, .int .i64 p1]) (by simp at s0 s1; simp [results, Try.results77, go_sem, s0, s1]) rfl ⟨by rw [e1, e2], ?_⟩
    exact below_set (below_set HBW.out (Nat.le_succ _)) (Nat.le_succ _)
end Go.Proofs.Ytljbjcnfkbmjkaa
