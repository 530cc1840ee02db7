/- Layer mould, a part: lists of ranges. No statement is proved here. -/
import Derived.Test.YtljbjcnfkbmjkaaMdA
namespace Go.Proofs.Ytljbjcnfkbmjkaa
open Go.RowKit Go.Shelf Go.Maps
attribute [local go_sem] Oper.semAt_some

set_option maxRecDepth 100000 in
theorem ofw_any (w : World) (a : Nat → Int) {r : Nat} (hr8 : r < 8) :
    Calls Try.prog 63 #[.agg #[.int .i64 (a 0), .int .i64 (a 1), .int .i64 (a 2), .int .i64 (a 3), .int .i64 (a 4), .int .i64 (a 5), .int .i64 (a 6), .int .i64 (a 7)], .int .i64 r] w fun e w' => e = .returned (.int .i64 (a r)) ∧ Below w.heap.size w w' := by
  have hb : Below w.heap.size w (w.alloc (.cells #[.int .i64 (a 0), .int .i64 (a 1), .int .i64 (a 2), .int .i64 (a 3), .int .i64 (a 4), .int .i64 (a 5), .int .i64 (a 6), .int .i64 (a 7)] 90)) := (Below.refl _ w).alloc (Nat.le_refl _) _
  have hc : (w.alloc (.cells #[.int .i64 (a 0), .int .i64 (a 1), .int .i64 (a 2), .int .i64 (a 3), .int .i64 (a 4), .int .i64 (a 5), .int .i64 (a 6), .int .i64 (a 7)] 90)).cell? ⟨w.heap.size, r, none⟩ = some (.int .i64 (a r)) := (show W8 _ w.heap.size a from ⟨Blk.new w _ _⟩).cell hr8
  have HB := Lib.hid hb
  clear hb
  go_enter Try.func63, Try.ntmps63
  go_wp2_with fail
  go_ret
  exact ⟨rfl, HB.out⟩
set_option maxRecDepth 100000 in
theorem spansFw_any {w : World} (a : Nat → Int) {r B5 B8 : Nat} (hr8 : r < 8) (h5 : w.cell? ⟨B5, 0, none⟩ = some (.func (.func 63) #[] #[])) (h8 : w.cell? ⟨B8, 0, none⟩ = some (.int .i64 r)) (hl5 : B5 < w.heap.size) (hl8 : B8 < w.heap.size) :
    Calls Try.prog 89 #[.agg #[.int .i64 (a 0), .int .i64 (a 1), .int .i64 (a 2), .int .i64 (a 3), .int .i64 (a 4), .int .i64 (a 5), .int .i64 (a 6), .int .i64 (a 7)], .pointer (some ⟨B5, 0, none⟩), .pointer (some ⟨B8, 0, none⟩)] w fun e w' => e = .returned (.int .i64 (a r)) ∧ Below w.heap.size w w' := by
  have eg : ∀ args w, (callFunc 63 args).run Try.prog w = .ok (.enter 63 args) w := enters_of Try.func63 (by kernel_rfl) rfl
  have HB := Lib.hid ((Below.refl _ w).alloc (Nat.le_refl _) (.cells #[.int .i64 (a 0), .int .i64 (a 1), .int .i64 (a 2), .int .i64 (a 3), .int .i64 (a 4), .int .i64 (a 5), .int .i64 (a 6), .int .i64 (a 7)] 90))
  go_enter Try.func89, Try.ntmps89
  go_wp2_with fail
  refine (ofw_any _ a hr8).mono ?_
  rintro e w' ⟨rfl, hb⟩
  have HB2 := Lib.hid (HB.out.trans (hb.mono (by simp)))
  clear hb
  go_wp2_with fail
  go_ret
  exact ⟨rfl, HB2.out⟩
end Go.Proofs.Ytljbjcnfkbmjkaa

namespace Go.Proofs.Ytljbjcnfkbmjkaa
open Go.RowKit Go.Shelf Go.Maps
attribute [local go_sem] Oper.semAt_some

set_option maxRecDepth 100000 in
set_option maxHeartbeats 2000000 in
theorem spanW_any {w : World} (a b : Nat → Int) {r B5 B8 : Nat} (hr8 : r < 8) (hxy : a r ≤ b r)
    (h5 : Blk w B5 102 #[.func (.func 63) #[] #[]]) (h8 : Blk w B8 3 #[.int .i64 r]) :
    Calls Try.prog 88 #[.agg #[.int .i64 (a 0), .int .i64 (a 1), .int .i64 (a 2), .int .i64 (a 3), .int .i64 (a 4), .int .i64 (a 5), .int .i64 (a 6), .int .i64 (a 7), .int .i64 (b 0), .int .i64 (b 1), .int .i64 (b 2), .int .i64 (b 3), .int .i64 (b 4), .int .i64 (b 5), .int .i64 (b 6), .int .i64 (b 7)], .func (.func 89) #[] #[.pointer (some ⟨B5, 0, none⟩), .pointer (some ⟨B8, 0, none⟩)]] w fun e w' => e = .returned (.agg #[.int .i64 (a r), .int .i64 (b r)]) ∧ Below w.heap.size w w' := by
  have eg : ∀ args w, (callFunc 89 args).run Try.prog w = .ok (.enter 89 args) w := enters_of Try.func89 (by kernel_rfl) rfl
  have HC1 := Lib.hid (fun W (hb : Below w.heap.size w W) => spansFw_any (w := W) a hr8 ((h5.on hb).cell 0) ((h8.on hb).cell 0) (h5.on hb).lt (h8.on hb).lt)
  have HC2 := Lib.hid (fun W (hb : Below w.heap.size w W) => spansFw_any (w := W) b hr8 ((h5.on hb).cell 0) ((h8.on hb).cell 0) (h5.on hb).lt (h8.on hb).lt)
  clear h5 h8
  have HL := Lib.hid (show ∀ W, Below (w.heap.size + 1 + 1) ((w.alloc (.cells #[.int .i64 (a 0), .int .i64 (a 1), .int .i64 (a 2), .int .i64 (a 3), .int .i64 (a 4), .int .i64 (a 5), .int .i64 (a 6), .int .i64 (a 7), .int .i64 (b 0), .int .i64 (b 1), .int .i64 (b 2), .int .i64 (b 3), .int .i64 (b 4), .int .i64 (b 5), .int .i64 (b 6), .int .i64 (b 7)] 95)).alloc (.cells #[.int .i64 0, .int .i64 0] 23)) W → W.cell? ⟨w.heap.size, 0, none⟩ = some (.int .i64 (a 0)) ∧ W.cell? ⟨w.heap.size, 1, none⟩ = some (.int .i64 (a 1)) ∧ W.cell? ⟨w.heap.size, 2, none⟩ = some (.int .i64 (a 2)) ∧ W.cell? ⟨w.heap.size, 3, none⟩ = some (.int .i64 (a 3)) ∧ W.cell? ⟨w.heap.size, 4, none⟩ = some (.int .i64 (a 4)) ∧ W.cell? ⟨w.heap.size, 5, none⟩ = some (.int .i64 (a 5)) ∧ W.cell? ⟨w.heap.size, 6, none⟩ = some (.int .i64 (a 6)) ∧ W.cell? ⟨w.heap.size, 7, none⟩ = some (.int .i64 (a 7)) ∧ W.cell? ⟨w.heap.size, 8, none⟩ = some (.int .i64 (b 0)) ∧ W.cell? ⟨w.heap.size, 9, none⟩ = some (.int .i64 (b 1)) ∧ W.cell? ⟨w.heap.size, 10, none⟩ = some (.int .i64 (b 2)) ∧ W.cell? ⟨w.heap.size, 11, none⟩ = some (.int .i64 (b 3)) ∧ W.cell? ⟨w.heap.size, 12, none⟩ = some (.int .i64 (b 4)) ∧ W.cell? ⟨w.heap.size, 13, none⟩ = some (.int .i64 (b 5)) ∧ W.cell? ⟨w.heap.size, 14, none⟩ = some (.int .i64 (b 6)) ∧ W.cell? ⟨w.heap.size, 15, none⟩ = some (.int .i64 (b 7)) ∧ Blk W (w.heap.size + 1) 23 #[.int .i64 0, .int .i64 0] ∧ Below w.heap.size w W from
    fun W hb => ⟨(((Blk.new w _ _).alloc _).below hb (by omega)).cell 0, (((Blk.new w _ _).alloc _).below hb (by omega)).cell 1, (((Blk.new w _ _).alloc _).below hb (by omega)).cell 2, (((Blk.new w _ _).alloc _).below hb (by omega)).cell 3, (((Blk.new w _ _).alloc _).below hb (by omega)).cell 4, (((Blk.new w _ _).alloc _).below hb (by omega)).cell 5, (((Blk.new w _ _).alloc _).below hb (by omega)).cell 6, (((Blk.new w _ _).alloc _).below hb (by omega)).cell 7, (((Blk.new w _ _).alloc _).below hb (by omega)).cell 8, (((Blk.new w _ _).alloc _).below hb (by omega)).cell 9, (((Blk.new w _ _).alloc _).below hb (by omega)).cell 10, (((Blk.new w _ _).alloc _).below hb (by omega)).cell 11, (((Blk.new w _ _).alloc _).below hb (by omega)).cell 12, (((Blk.new w _ _).alloc _).below hb (by omega)).cell 13, (((Blk.new w _ _).alloc _).below hb (by omega)).cell 14, (((Blk.new w _ _).alloc _).below hb (by omega)).cell 15, (Blk.new1 w _ _ _).below hb (by omega), (((Below.refl _ w).alloc (Nat.le_refl _) _).alloc (by simp) _).trans (hb.mono (by omega))⟩)
  have HS := Lib.hid (show ∀ W W', (W.cell? ⟨w.heap.size, 0, none⟩ = some (.int .i64 (a 0)) ∧ W.cell? ⟨w.heap.size, 1, none⟩ = some (.int .i64 (a 1)) ∧ W.cell? ⟨w.heap.size, 2, none⟩ = some (.int .i64 (a 2)) ∧ W.cell? ⟨w.heap.size, 3, none⟩ = some (.int .i64 (a 3)) ∧ W.cell? ⟨w.heap.size, 4, none⟩ = some (.int .i64 (a 4)) ∧ W.cell? ⟨w.heap.size, 5, none⟩ = some (.int .i64 (a 5)) ∧ W.cell? ⟨w.heap.size, 6, none⟩ = some (.int .i64 (a 6)) ∧ W.cell? ⟨w.heap.size, 7, none⟩ = some (.int .i64 (a 7)) ∧ W.cell? ⟨w.heap.size, 8, none⟩ = some (.int .i64 (b 0)) ∧ W.cell? ⟨w.heap.size, 9, none⟩ = some (.int .i64 (b 1)) ∧ W.cell? ⟨w.heap.size, 10, none⟩ = some (.int .i64 (b 2)) ∧ W.cell? ⟨w.heap.size, 11, none⟩ = some (.int .i64 (b 3)) ∧ W.cell? ⟨w.heap.size, 12, none⟩ = some (.int .i64 (b 4)) ∧ W.cell? ⟨w.heap.size, 13, none⟩ = some (.int .i64 (b 5)) ∧ W.cell? ⟨w.heap.size, 14, none⟩ = some (.int .i64 (b 6)) ∧ W.cell? ⟨w.heap.size, 15, none⟩ = some (.int .i64 (b 7)) ∧ Blk W (w.heap.size + 1) 23 #[.int .i64 0, .int .i64 0] ∧ Below w.heap.size w W) → Below W.heap.size W W' → (W'.cell? ⟨w.heap.size, 0, none⟩ = some (.int .i64 (a 0)) ∧ W'.cell? ⟨w.heap.size, 1, none⟩ = some (.int .i64 (a 1)) ∧ W'.cell? ⟨w.heap.size, 2, none⟩ = some (.int .i64 (a 2)) ∧ W'.cell? ⟨w.heap.size, 3, none⟩ = some (.int .i64 (a 3)) ∧ W'.cell? ⟨w.heap.size, 4, none⟩ = some (.int .i64 (a 4)) ∧ W'.cell? ⟨w.heap.size, 5, none⟩ = some (.int .i64 (a 5)) ∧ W'.cell? ⟨w.heap.size, 6, none⟩ = some (.int .i64 (a 6)) ∧ W'.cell? ⟨w.heap.size, 7, none⟩ = some (.int .i64 (a 7)) ∧ W'.cell? ⟨w.heap.size, 8, none⟩ = some (.int .i64 (b 0)) ∧ W'.cell? ⟨w.heap.size, 9, none⟩ = some (.int .i64 (b 1)) ∧ W'.cell? ⟨w.heap.size, 10, none⟩ = some (.int .i64 (b 2)) ∧ W'.cell? ⟨w.heap.size, 11, none⟩ = some (.int .i64 (b 3)) ∧ W'.cell? ⟨w.heap.size, 12, none⟩ = some (.int .i64 (b 4)) ∧ W'.cell? ⟨w.heap.size, 13, none⟩ = some (.int .i64 (b 5)) ∧ W'.cell? ⟨w.heap.size, 14, none⟩ = some (.int .i64 (b 6)) ∧ W'.cell? ⟨w.heap.size, 15, none⟩ = some (.int .i64 (b 7)) ∧ Blk W' (w.heap.size + 1) 23 #[.int .i64 0, .int .i64 0] ∧ Below w.heap.size w W') from
    fun W W' h hb => ⟨kept_of hb _ _ h.1, kept_of hb _ _ h.2.1, kept_of hb _ _ h.2.2.1, kept_of hb _ _ h.2.2.2.1, kept_of hb _ _ h.2.2.2.2.1, kept_of hb _ _ h.2.2.2.2.2.1, kept_of hb _ _ h.2.2.2.2.2.2.1, kept_of hb _ _ h.2.2.2.2.2.2.2.1, kept_of hb _ _ h.2.2.2.2.2.2.2.2.1, kept_of hb _ _ h.2.2.2.2.2.2.2.2.2.1, kept_of hb _ _ h.2.2.2.2.2.2.2.2.2.2.1, kept_of hb _ _ h.2.2.2.2.2.2.2.2.2.2.2.1, kept_of hb _ _ h.2.2.2.2.2.2.2.2.2.2.2.2.1, kept_of hb _ _ h.2.2.2.2.2.2.2.2.2.2.2.2.2.1, kept_of hb _ _ h.2.2.2.2.2.2.2.2.2.2.2.2.2.2.1, kept_of hb _ _ h.2.2.2.2.2.2.2.2.2.2.2.2.2.2.2.1, h.2.2.2.2.2.2.2.2.2.2.2.2.2.2.2.2.1.on hb, h.2.2.2.2.2.2.2.2.2.2.2.2.2.2.2.2.2.trans (hb.mono h.2.2.2.2.2.2.2.2.2.2.2.2.2.2.2.2.2.size)⟩)
  generalize hx : a r = x at *
  generalize hy : b r = y at *
  clear hx hy
  go_enter Try.func88, Try.ntmps88
  go_wp2_with fail
  go_region_held3 (fun W => W.cell? ⟨w.heap.size, 0, none⟩ = some (.int .i64 (a 0)) ∧ W.cell? ⟨w.heap.size, 1, none⟩ = some (.int .i64 (a 1)) ∧ W.cell? ⟨w.heap.size, 2, none⟩ = some (.int .i64 (a 2)) ∧ W.cell? ⟨w.heap.size, 3, none⟩ = some (.int .i64 (a 3)) ∧ W.cell? ⟨w.heap.size, 4, none⟩ = some (.int .i64 (a 4)) ∧ W.cell? ⟨w.heap.size, 5, none⟩ = some (.int .i64 (a 5)) ∧ W.cell? ⟨w.heap.size, 6, none⟩ = some (.int .i64 (a 6)) ∧ W.cell? ⟨w.heap.size, 7, none⟩ = some (.int .i64 (a 7)) ∧ W.cell? ⟨w.heap.size, 8, none⟩ = some (.int .i64 (b 0)) ∧ W.cell? ⟨w.heap.size, 9, none⟩ = some (.int .i64 (b 1)) ∧ W.cell? ⟨w.heap.size, 10, none⟩ = some (.int .i64 (b 2)) ∧ W.cell? ⟨w.heap.size, 11, none⟩ = some (.int .i64 (b 3)) ∧ W.cell? ⟨w.heap.size, 12, none⟩ = some (.int .i64 (b 4)) ∧ W.cell? ⟨w.heap.size, 13, none⟩ = some (.int .i64 (b 5)) ∧ W.cell? ⟨w.heap.size, 14, none⟩ = some (.int .i64 (b 6)) ∧ W.cell? ⟨w.heap.size, 15, none⟩ = some (.int .i64 (b 7)) ∧ Blk W (w.heap.size + 1) 23 #[.int .i64 0, .int .i64 0] ∧ Below w.heap.size w W)
    (first | assumption | exact HL.out _ (Below.refl _ _).drew | (refine HS.out _ _ ?_ (by first | assumption | exact (Below.refl _ _).drew | exact below_drewN' (Below.refl _ _) _); first | assumption | exact ⟨by assumption, by assumption, by assumption, by assumption, by assumption, by assumption, by assumption, by assumption, by assumption, by assumption, by assumption, by assumption, by assumption, by assumption, by assumption, by assumption, by assumption, by assumption⟩ | (go_split_ands; exact ⟨by assumption, by assumption, by assumption, by assumption, by assumption, by assumption, by assumption, by assumption, by assumption, by assumption, by assumption, by assumption, by assumption, by assumption, by assumption, by assumption, by assumption, by assumption⟩)))
    (first | (go_at_call 89; go_split_ands; (with_reducible refine (HC1.out _ (by assumption)).mono ?_); rintro e w1 ⟨rfl, hb1⟩) | (go_at_call 89; go_split_ands; (with_reducible refine (HC2.out _ (by assumption)).mono ?_); rintro e w2 ⟨rfl, hb2⟩) | fail)
  rename_i hfin
  obtain ⟨-, -, -, -, -, -, -, -, -, -, -, -, -, -, -, -, hbk, hbw⟩ := hfin
  have f0 := hbk.frozen 0
  have f1 := hbk.frozen 1
  have c0 := hbk.cell 0
  have c1 := hbk.cell 1
  have HBK := Lib.hid hbk
  have HBW := Lib.hid hbw
  clear hbk hbw
  rcases (show x < y ∨ x = y by omega) with hlt | rfl
  · go_wp2_with fail
    have s0 := (HBK.out.set_ 0 (.int .i64 x)).cell 0
    have s1 := ((HBK.out.set_ 0 (.int .i64 x)).set_ 1 (.int .i64 y)).cell 1
    refine bodyPost_ret (v := .agg #[.int .i64 x, .int .i64 y]) (by simp at s0 s1; simp [results, Try.results88, go_sem, s0, s1]) rfl ⟨rfl, ?_⟩
    exact below_set (below_set HBW.out (Nat.le_succ _)) (Nat.le_succ _)
  · go_wp2_with fail
    have s0 := (HBK.out.set_ 0 (.int .i64 x)).cell 0
    have s1 := ((HBK.out.set_ 0 (.int .i64 x)).set_ 1 (.int .i64 x)).cell 1
    refine bodyPost_ret (v := .agg #[.int .i64 x, .int .i64 x]) (by simp at s0 s1; simp [results, Try.results88, go_sem, s0, s1]) rfl ⟨rfl, ?_⟩
    exact below_set (below_set HBW.out (Nat.le_succ _)) (Nat.le_succ _)
end Go.Proofs.Ytljbjcnfkbmjkaa

namespace Go.Proofs.Ytljbjcnfkbmjkaa
open Go.RowKit Go.Shelf Go.Maps
attribute [local go_sem] Oper.semAt_some

/-- What lies in memory while the list of ranges grows. -/
structure SpW (w : World) (l l2 : List Int) (v : Value) (k : Nat) (W : World) : Prop where
  b0 : W16 W w.heap.size (la l) (la l2)
  b1 : Blk W (w.heap.size + 1) 102 #[.func (.func 63) #[] #[]]
  own : SpansOut (w.heap.size + 1 + 1) W v ((zipS l l2).take k)
  bw : Below w.heap.size w W
theorem SpW.step {w W W2 W4 : World} {k : Nat} {l l2 : List Int} {v v' : Value} (h : SpW w l l2 v k W) (hb : Below W.heap.size W W2) (hb4 : Below (w.heap.size + 1 + 1) W2 W4) (hn : SpansOut (w.heap.size + 1 + 1) W4 v' ((zipS l l2).take (k + 1))) : SpW w l l2 v' (k + 1) W4 :=
  ⟨⟨(h.b0.bk.on hb).below hb4 (by omega)⟩, (h.b1.on hb).below hb4 (by omega), hn, (h.bw.trans (hb.mono h.bw.size)).trans (hb4.mono (by omega))⟩
set_option maxRecDepth 100000 in
set_option maxHeartbeats 2000000 in
theorem spansW_any {w : World} {l l2 : List Int} {rings : Int} (hrl : rings = (l.length : Int)) (hl8 : l.length ≤ 8) (hl2 : l.length = l2.length) (hxy : ∀ r, r < l.length → la l r ≤ la l2 r) :
    Calls Try.prog 62 #[.int .i64 rings, .agg #[.int .i64 (la l 0), .int .i64 (la l 1), .int .i64 (la l 2), .int .i64 (la l 3), .int .i64 (la l 4), .int .i64 (la l 5), .int .i64 (la l 6), .int .i64 (la l 7), .int .i64 (la l2 0), .int .i64 (la l2 1), .int .i64 (la l2 2), .int .i64 (la l2 3), .int .i64 (la l2 4), .int .i64 (la l2 5), .int .i64 (la l2 6), .int .i64 (la l2 7)], .func (.func 63) #[] #[]] w fun e w' => ∃ v, e = .returned v ∧ SpansOut w.heap.size w' v (zipS l l2) ∧ Below w.heap.size w w' := by
  have HXY := Lib.hid hxy
  have HL8 := Lib.hid hl8
  have HL2 := Lib.hid hl2
  have HI : Hid (SpW w l l2 (.slice none 0 0) 0 ((w.alloc (.cells #[.int .i64 (la l 0), .int .i64 (la l 1), .int .i64 (la l 2), .int .i64 (la l 3), .int .i64 (la l 4), .int .i64 (la l 5), .int .i64 (la l 6), .int .i64 (la l 7), .int .i64 (la l2 0), .int .i64 (la l2 1), .int .i64 (la l2 2), .int .i64 (la l2 3), .int .i64 (la l2 4), .int .i64 (la l2 5), .int .i64 (la l2 6), .int .i64 (la l2 7)] 95)).alloc (.cells #[.func (.func 63) #[] #[]] 102))) :=
    ⟨⟨(Blk.new w _ _).alloc _⟩, Blk.new1 w _ _ _, by simpa using SpansOut.nil _ _, ((Below.refl _ w).alloc (Nat.le_refl _) _).alloc (by simp) _⟩
  subst hrl
  clear hxy hl8 hl2
  go_enter Try.func62, Try.ntmps62
  go_wp2_with fail
  go_loopw [7, 10] (fun v i W => ∃ k : Nat, k ≤ l.length ∧ i = .int .i64 k ∧ Hid (SpW w l l2 v k W)) (fun _ i _ => l.length - (intOf i).toNat)
  case atStart => exact ⟨0, Nat.zero_le _, rfl, HI⟩
  case round =>
    obtain ⟨k, hk, rfl, HS⟩ := hrel
    by_cases hlt : k < l.length
    · have hk8 : k < 8 := by have := HL8.out; omega
      have hxk := la_get hlt
      have hyk := la_get (l := l2) (k := k) (by rw [← HL2.out]; exact hlt)
      have HXK := Lib.hid hxk
      have HYK := Lib.hid hyk
      have hz0 := HS.out.b0.bk.lt
      have hz1 := HS.out.b1.lt
      obtain ⟨y0, y1, y2, y3, y4, y5, y6, y7, y8, y9, y10, y11, y12, y13, y14, y15⟩ := HS.out.b0.cells
      have c2 := HS.out.b1.cell 0
      have hb1 : Below wr.heap.size wr (wr.alloc (.cells #[.int .i64 (k : Int)] 3)) := (Below.refl _ wr).alloc (Nat.le_refl _) _
      have HC := Lib.hid (spanW_any (w := wr.alloc (.cells #[.int .i64 (k : Int)] 3)) (B8 := wr.heap.size) (la l) (la l2) hk8 (HXY.out k hlt) (HS.out.b1.on hb1) (Blk.new wr _ _))
      clear hxk hyk hb1
      go_wp2_with (first
        | (go_at_call 88; refine HC.out.mono ?_; rintro e w2 ⟨rfl, hb2⟩; have HB2 := Lib.hid (((Below.refl _ wr).alloc (Nat.le_refl _) _).trans (hb2.mono (by simp))); clear hb2)
        | (at_builtin; go_must (refine apps_list rfl _ _ rfl (l := (zipS l l2).take k) rfl (spansOut_grown HS.out.own (HB2.out.alloc HB2.out.size _)) (la l k) (la l2 k) rfl (Blk.new _ _ _) (Nat.lt_of_le_of_lt (List.length_take_le _ _) (by omega)) (by simp; have := HB2.out.size; omega) ?_); intro g cap w4 h1 h2 h3 h4)
        | fail)
      have hlen : ((zipS l l2).take k).length = k := by rw [List.length_take, zip_length HL2.out]; omega
      have hmin : min k (zipS l l2).length = k := by rw [zip_length HL2.out]; omega
      rw [hlen] at h1
      rw [← zip_take HXK.out HYK.out] at h1
      try rw [hmin]
      have HN := Lib.hid (HS.out.step (HB2.out.alloc HB2.out.size _) h2 h1)
      clear h1 h2 h3 h4
      go_wp2_with fail
      go_roundw
      case rel => exact ⟨k + 1, Nat.succ_le_of_lt hlt, by go_num, HN⟩
      case measure => exact meas_one hlt
    · obtain rfl : k = l.length := Nat.le_antisymm hk (Nat.le_of_not_lt hlt)
      have hn2 : ¬ ((l.length : Int) < (l.length : Int)) := by omega
      go_wp2_with fail
      have h1 := HS.out.own
      rw [List.take_of_length_le (by rw [zip_length HL2.out]; omega)] at h1
      go_ret
      exact ⟨_, rfl, own_base h1 (by omega), HS.out.bw⟩
end Go.Proofs.Ytljbjcnfkbmjkaa
