/- mould.span at settings: contracts. -/
import Derived.Test.YtljbjcnfkbmjkaaGf
namespace Go.Proofs.Ytljbjcnfkbmjkaa
open Go.RowKit Go.Shelf Go.Maps
attribute [local go_sem] Oper.semAt_some

set_option maxRecDepth 100000 in
theorem spansF_any {w : World} {b r B5 B8 : Nat} {o : List Int} {x : Int} (hm : MapAt w b o) (hr : o[r]? = some x) (hx : 0 ≤ x) (hr8 : r < 8)
    (h5 : w.cell? ⟨B5, 0, none⟩ = some (.func (.func 68) #[] #[])) (h8 : w.cell? ⟨B8, 0, none⟩ = some (.int .i64 r)) :
    Calls Try.prog 90 #[.map (some b), .pointer (some ⟨B5, 0, none⟩), .pointer (some ⟨B8, 0, none⟩)] w fun e w' => e = .returned (.int .i64 x) ∧ w' = w := by
  have eg : ∀ args w, (callFunc 68 args).run Try.prog w = .ok (.enter 68 args) w := enters_of Try.func68 (by kernel_rfl) rfl
  have HO := Lib.hid (of_any hm hr hx hr8)
  clear hm hr
  go_enter Try.func90, Try.ntmps90
  go_wp2_with fail
  refine HO.out.mono ?_
  rintro e w' ⟨rfl, rfl⟩
  go_wp2_with fail
  go_ret
  exact ⟨rfl, rfl⟩
set_option maxRecDepth 100000 in
theorem skinF_any {w : World} {b B3 : Nat} {o : List Int} {n : Int} (hm : MapAt w b o) (hl : o.length ≤ 8) (h3 : w.cell? ⟨B3, 0, none⟩ = some (.int .i64 n)) :
    Calls Try.prog 71 #[.map (some b), .pointer (some ⟨B3, 0, none⟩)] w fun e w' => e = .returned (.int .i64 (setN o n)) ∧ Below w.heap.size w w' := by
  have HO := Lib.hid (skin_any (n := n) hm hl)
  clear hm hl
  go_enter Try.func71, Try.ntmps71
  go_wp2_with fail
  refine HO.out.mono ?_
  rintro e w' ⟨rfl, hb⟩
  go_wp2_with fail
  go_ret
  exact ⟨rfl, hb⟩
set_option maxRecDepth 100000 in
set_option maxHeartbeats 1000000 in
theorem spanS_any {w : World} {b c r B5 B8 : Nat} {o o2 : List Int} {x y : Int} (hm : MapAt w b o) (hm2 : MapAt w c o2) (hr : o[r]? = some x) (hr2 : o2[r]? = some y) (hx : 0 ≤ x) (hy : 0 ≤ y) (hr8 : r < 8) (hxy : x ≤ y)
    (h5 : w.cell? ⟨B5, 0, none⟩ = some (.func (.func 68) #[] #[])) (h8 : w.cell? ⟨B8, 0, none⟩ = some (.int .i64 r)) :
    Calls Try.prog 70 #[.agg #[.map (some b), .map (some c)], .func (.func 90) #[] #[.pointer (some ⟨B5, 0, none⟩), .pointer (some ⟨B8, 0, none⟩)]] w fun e w' => e = .returned (.agg #[.int .i64 x, .int .i64 y]) ∧ Below w.heap.size w w' := by
  have eg : ∀ args w, (callFunc 90 args).run Try.prog w = .ok (.enter 90 args) w := enters_of Try.func90 (by kernel_rfl) rfl
  have HC1 := Lib.hid (show ∀ W, Below w.heap.size w W → Calls Try.prog 90 #[.map (some b), .pointer (some ⟨B5, 0, none⟩), .pointer (some ⟨B8, 0, none⟩)] W fun e w' => e = .returned (.int .i64 x) ∧ w' = W from
    fun W hb => spansF_any (hm.on hb) hr hx hr8 (kept_of hb _ _ h5) (kept_of hb _ _ h8))
  have HC2 := Lib.hid (show ∀ W, Below w.heap.size w W → Calls Try.prog 90 #[.map (some c), .pointer (some ⟨B5, 0, none⟩), .pointer (some ⟨B8, 0, none⟩)] W fun e w' => e = .returned (.int .i64 y) ∧ w' = W from
    fun W hb => spansF_any (hm2.on hb) hr2 hy hr8 (kept_of hb _ _ h5) (kept_of hb _ _ h8))
  clear hm hm2 hr hr2 h5 h8
  go_enter Try.func70, Try.ntmps70
  go_wp2_with fail
  have hb0 : Below w.heap.size w ((w.alloc (.cells #[.map (some b), .map (some c)] 106)).alloc (.cells #[.int .i64 0, .int .i64 0] 23)) := ((Below.refl _ w).alloc (Nat.le_refl _) _).alloc (by simp) _
  go_region_held3 (fun W => W.cell? ⟨w.heap.size, 0, none⟩ = some (.map (some b)) ∧ W.cell? ⟨w.heap.size, 1, none⟩ = some (.map (some c)) ∧ Below w.heap.size w W)
    (first | assumption | (exact ⟨by simp, by simp, hb0.drew⟩) | (go_split_ands; refine ⟨?_, ?_, ?_⟩ <;> first | assumption | exact Below.drew (by assumption) | exact below_drewN' (by assumption) _ | (simp; done) | (simp [*]; done)))
    (first | (go_at_call 90; go_split_ands; (with_reducible refine (HC1.out _ (by assumption)).mono ?_); rintro e w' ⟨rfl, rfl⟩) | (go_at_call 90; go_split_ands; (with_reducible refine (HC2.out _ (by assumption)).mono ?_); rintro e w' ⟨rfl, rfl⟩) | fail)
  rcases (show x < y ∨ x = y by omega) with hlt | rfl
  · go_wp2_with fail
    refine bodyPost_ret (v := .agg #[.int .i64 x, .int .i64 y]) (by simp [results, Try.results70, go_sem]) rfl ⟨rfl, ?_⟩
    exact (((Below.refl _ w).alloc (Nat.le_refl _) _).alloc (by simp) _).drew
  · go_wp2_with fail
    refine bodyPost_ret (v := .agg #[.int .i64 x, .int .i64 x]) (by simp [results, Try.results70, go_sem]) rfl ⟨rfl, ?_⟩
    exact (((Below.refl _ w).alloc (Nat.le_refl _) _).alloc (by simp) _).drew
set_option maxRecDepth 100000 in
set_option maxHeartbeats 1000000 in
theorem spanK_any {w : World} {b c B3 : Nat} {o o2 : List Int} {n : Int} (hm : MapAt w b o) (hm2 : MapAt w c o2) (hl : o.length ≤ 8) (hl2 : o2.length ≤ 8) (hxy : setN o2 n ≤ setN o n) (h3 : w.cell? ⟨B3, 0, none⟩ = some (.int .i64 n)) :
    Calls Try.prog 70 #[.agg #[.map (some b), .map (some c)], .func (.func 71) #[] #[.pointer (some ⟨B3, 0, none⟩)]] w fun e w' => e = .returned (.agg #[.int .i64 (setN o2 n), .int .i64 (setN o n)]) ∧ Below w.heap.size w w' := by
  have eg : ∀ args w, (callFunc 71 args).run Try.prog w = .ok (.enter 71 args) w := enters_of Try.func71 (by kernel_rfl) rfl
  have HC1 := Lib.hid (show ∀ W, Below w.heap.size w W → Calls Try.prog 71 #[.map (some b), .pointer (some ⟨B3, 0, none⟩)] W fun e w' => e = .returned (.int .i64 (setN o n)) ∧ Below W.heap.size W w' from
    fun W hb => skinF_any (hm.on hb) hl (kept_of hb _ _ h3))
  have HC2 := Lib.hid (show ∀ W, Below w.heap.size w W → Calls Try.prog 71 #[.map (some c), .pointer (some ⟨B3, 0, none⟩)] W fun e w' => e = .returned (.int .i64 (setN o2 n)) ∧ Below W.heap.size W w' from
    fun W hb => skinF_any (hm2.on hb) hl2 (kept_of hb _ _ h3))
  clear hm hm2 h3
  generalize setN o n = y at *
  generalize setN o2 n = x at *
  go_enter Try.func70, Try.ntmps70
  go_wp2_with fail
  have HL := Lib.hid (show ∀ W, Below (w.heap.size + 1 + 1) ((w.alloc (.cells #[.map (some b), .map (some c)] 106)).alloc (.cells #[.int .i64 0, .int .i64 0] 23)) W → W.cell? ⟨w.heap.size, 0, none⟩ = some (.map (some b)) ∧ W.cell? ⟨w.heap.size, 1, none⟩ = some (.map (some c)) ∧ Blk W (w.heap.size + 1) 23 #[.int .i64 0, .int .i64 0] ∧ Below w.heap.size w W from
    fun W hb => ⟨(((Blk.new w _ _).alloc _).below hb (by omega)).cell 0, (((Blk.new w _ _).alloc _).below hb (by omega)).cell 1, (Blk.new1 w _ _ _).below hb (by omega), (((Below.refl _ w).alloc (Nat.le_refl _) _).alloc (by simp) _).trans (hb.mono (by omega))⟩)
  have HS := Lib.hid (show ∀ W W', (W.cell? ⟨w.heap.size, 0, none⟩ = some (.map (some b)) ∧ W.cell? ⟨w.heap.size, 1, none⟩ = some (.map (some c)) ∧ Blk W (w.heap.size + 1) 23 #[.int .i64 0, .int .i64 0] ∧ Below w.heap.size w W) → Below W.heap.size W W' → (W'.cell? ⟨w.heap.size, 0, none⟩ = some (.map (some b)) ∧ W'.cell? ⟨w.heap.size, 1, none⟩ = some (.map (some c)) ∧ Blk W' (w.heap.size + 1) 23 #[.int .i64 0, .int .i64 0] ∧ Below w.heap.size w W') from
    fun W W' h hb => ⟨kept_of hb _ _ h.1, kept_of hb _ _ h.2.1, h.2.2.1.on hb, h.2.2.2.trans (hb.mono h.2.2.2.size)⟩)
  go_region_held3 (fun W => W.cell? ⟨w.heap.size, 0, none⟩ = some (.map (some b)) ∧ W.cell? ⟨w.heap.size, 1, none⟩ = some (.map (some c)) ∧ Blk W (w.heap.size + 1) 23 #[.int .i64 0, .int .i64 0] ∧ Below w.heap.size w W)
    (first | assumption | exact HL.out _ (Below.refl _ _).drew | (refine HS.out _ _ ?_ (by first | assumption | exact (Below.refl _ _).drew | exact below_drewN' (Below.refl _ _) _); first | assumption | exact ⟨by assumption, by assumption, by assumption, by assumption⟩ | (go_split_ands; exact ⟨by assumption, by assumption, by assumption, by assumption⟩)))
    (first | (go_at_call 71; go_split_ands; (with_reducible refine (HC1.out _ (by assumption)).mono ?_); rintro e w1 ⟨rfl, hb1⟩) | (go_at_call 71; go_split_ands; (with_reducible refine (HC2.out _ (by assumption)).mono ?_); rintro e w2 ⟨rfl, hb2⟩) | fail)
  rename_i hfin
  obtain ⟨-, -, hbk, hbw⟩ := hfin
  have f0 := hbk.frozen 0
  have f1 := hbk.frozen 1
  have c0 := hbk.cell 0
  have c1 := hbk.cell 1
  have HBK := Lib.hid hbk
  have HBW := Lib.hid hbw
  clear hbk hbw
  rcases (show x < y ∨ x = y by omega) with hlt | rfl
  · go_wp2_with fail
    have s0 := (HBK.out.set_ 0 (.int .i64 x)).cell 0
    have s1 := ((HBK.out.set_ 0 (.int .i64 x)).set_ 1 (.int .i64 y)).cell 1
    refine bodyPost_ret (v := .agg #[.int .i64 x, .int .i64 y]) (by simp at s0 s1; simp [results, Try.results70, go_sem, s0, s1]) rfl ⟨rfl, ?_⟩
    exact below_set (below_set HBW.out (Nat.le_succ _)) (Nat.le_succ _)
  · go_wp2_with fail
    have s0 := (HBK.out.set_ 0 (.int .i64 x)).cell 0
    have s1 := ((HBK.out.set_ 0 (.int .i64 x)).set_ 1 (.int .i64 x)).cell 1
    refine bodyPost_ret (v := .agg #[.int .i64 x, .int .i64 x]) (by simp at s0 s1; simp [results, Try.results70, go_sem, s0, s1]) rfl ⟨rfl, ?_⟩
    exact below_set (below_set HBW.out (Nat.le_succ _)) (Nat.le_succ _)
end Go.Proofs.Ytljbjcnfkbmjkaa
