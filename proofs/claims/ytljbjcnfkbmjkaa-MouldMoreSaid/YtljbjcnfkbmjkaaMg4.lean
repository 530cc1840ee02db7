/- ref.Same: contract. -/
import Derived.Test.YtljbjcnfkbmjkaaGc
import Derived.Test.YtljbjcnfkbmjkaaGb
import Derived.Test.YtljbjcnfkbmjkaaGe
namespace Go.Proofs.Ytljbjcnfkbmjkaa
open Go.RowKit Go.Shelf
attribute [local go_sem] Oper.semAt_some

theorem own_set {B g k : Nat} {w : World} {v u : Value} {l : List Int} (h : IntsOut B w v l) (hg : g < B) : IntsOut B (w.setCell ⟨g, k, none⟩ u) v l := by
  refine ⟨h.1, ?_⟩
  rcases h.2 with h2 | ⟨g2, cap, cur, hv, hg2, hh, r⟩
  · exact .inl h2
  · refine .inr ⟨g2, cap, cur, hv, hg2, ?_, r⟩
    have hlt : g2 < w.heap.size := by
      rcases Nat.lt_or_ge g2 w.heap.size with h' | h'
      · exact h'
      · rw [Array.getElem?_eq_none h'] at hh; cases hh
    exact ((grown_set w g k u).block g2 hlt (by simp; omega)).trans hh
theorem own_keep {B B2 : Nat} {w w' : World} {v : Value} {l : List Int} (h : IntsOut B w v l) (hb : Below B2 w w') (hlt : ∀ r, v.ownBlock = some r → r < B2) : IntsOut B w' v l := by
  refine ⟨h.1, ?_⟩
  rcases h.2 with h2 | ⟨g2, cap, cur, hv, hg2, hh, r⟩
  · exact .inl h2
  · exact .inr ⟨g2, cap, cur, hv, hg2, (hb.block _ (hlt _ (by rw [hv]; rfl))).trans hh, r⟩
/-- A truth that grows: its first list; its second one. -/
structure SaB (w : World) (m : Md) (B2 : Nat) (v1 v2 : Value) (l1 l2 : List Int) (W : World) : Prop where
  b0 : MdBk w w.heap.size 25 m W
  r : Blk W (w.heap.size + 1) 28 #[.slice none 0 0, .slice none 0 0]
  t : Blk W (w.heap.size + 1 + 1) 28 #[v1, v2]
  o1 : IntsOut (w.heap.size + 1 + 1 + 1) W v1 l1
  o2 : IntsOut B2 W v2 l2
  lt : ∀ r, v1.ownBlock = some r → r < B2
  lb : w.heap.size + 1 + 1 + 1 ≤ B2
  sz : B2 ≤ W.heap.size
theorem SaB.fst {w Wa W' : World} {m : Md} {v1 v' : Value} {l1 l' : List Int} {B2 : Nat} (h : SaB w m B2 v1 (.slice none 0 0) l1 [] Wa) (hb : Below (w.heap.size + 1 + 1 + 1) Wa W') (hv : IntsOut (w.heap.size + 1 + 1 + 1) W' v' l') :
    SaB w m W'.heap.size v' (.slice none 0 0) l' [] (W'.setCell ⟨w.heap.size + 1 + 1, 0, none⟩ v') :=
  ⟨⟨(h.b0.bk.below hb (by omega)).far (by simp; omega) _, below_set (h.b0.b.trans (hb.mono (by omega))) (by omega)⟩, (h.r.below hb (by omega)).far (by simp) _, (h.t.below hb (by omega)).set_ 0 v', own_set hv (by omega), IntsOut.nil _ _, fun r e => (World.ownsRow.lt hv r e).2, (by
    have := (h.t.below hb (by omega)).lt
    omega), by simp⟩
theorem SaB.snd {w Wa W' : World} {m : Md} {v1 v2 v' : Value} {l1 l2 l' : List Int} {B2 : Nat} (h : SaB w m B2 v1 v2 l1 l2 Wa) (hb : Below B2 Wa W') (hv : IntsOut B2 W' v' l') :
    SaB w m B2 v1 v' l1 l' (W'.setCell ⟨w.heap.size + 1 + 1, 1, none⟩ v') :=
  ⟨⟨(h.b0.bk.below hb (by have := h.lb; omega)).far (by simp; omega) _, below_set (h.b0.b.trans (hb.mono (by have := h.lb; omega))) (by omega)⟩, (h.r.below hb (by have := h.lb; omega)).far (by simp) _, (h.t.below hb (by have := h.lb; omega)).set_ 1 v', own_set (own_keep h.o1 hb h.lt) (by omega), own_set hv (by have := h.lb; omega), h.lt, h.lb, by simpa using Nat.le_trans h.sz hb.size⟩
theorem SaB.turn {w W : World} {m : Md} {v1 : Value} {l1 : List Int} {B2 : Nat} (h : SaB w m B2 v1 (.slice none 0 0) l1 [] W) : SaB w m W.heap.size v1 (.slice none 0 0) l1 [] W :=
  ⟨h.b0, h.r, h.t, h.o1, IntsOut.nil _ _, fun r e => (World.ownsRow.lt h.o1 r e).2, by have := h.t.lt; omega, Nat.le_refl _⟩
theorem SaB.on {w W W' : World} {m : Md} {v1 v2 : Value} {l1 l2 : List Int} {B2 : Nat} (h : SaB w m B2 v1 v2 l1 l2 W) (hb : Below W.heap.size W W') : SaB w m B2 v1 v2 l1 l2 W' :=
  ⟨h.b0.on hb, h.r.on hb, h.t.on hb, own_below h.o1 hb, own_below h.o2 hb, h.lt, h.lb, Nat.le_trans h.sz hb.size⟩
/-- Both lists, as they are returned. -/
theorem SaB.done {w W : World} {m : Md} {v1 v2 : Value} {l1 l2 : List Int} {B2 : Nat} (h : SaB w m B2 v1 v2 l1 l2 W) : ∃ A1 c1 A2 c2, v1 = .slice A1 l1.length c1 ∧ v2 = .slice A2 l2.length c2 ∧ IntsIn ((W.setCell ⟨w.heap.size + 1, 0, none⟩ v1).setCell ⟨w.heap.size + 1, 1, none⟩ v2) A1 l1 ∧ IntsIn ((W.setCell ⟨w.heap.size + 1, 0, none⟩ v1).setCell ⟨w.heap.size + 1, 1, none⟩ v2) A2 l2 := by
  have h1 : IntsOut (w.heap.size + 1 + 1 + 1) ((W.setCell ⟨w.heap.size + 1, 0, none⟩ v1).setCell ⟨w.heap.size + 1, 1, none⟩ v2) v1 l1 := own_set (own_set h.o1 (by omega)) (by omega)
  have h2 : IntsOut B2 ((W.setCell ⟨w.heap.size + 1, 0, none⟩ v1).setCell ⟨w.heap.size + 1, 1, none⟩ v2) v2 l2 := own_set (own_set h.o2 (by have := h.lb; omega)) (by have := h.lb; omega)
  obtain ⟨A1, c1, e1, i1⟩ := h1.in_
  obtain ⟨A2, c2, e2, i2⟩ := h2.in_
  exact ⟨A1, c1, A2, c2, e1, e2, i1, i2⟩
theorem sa_start (w : World) (m : Md) (k : Nat) : SaB w m (w.heap.size + 1 + 1 + 1) (.slice none 0 0) (.slice none 0 0) [] [] ((((w.alloc (.cells #[.int .i64 m.rings, .int .i64 m.give, .int .i64 m.plo, .int .i64 m.phi, .int .i64 m.wlo, .int .i64 m.whi, .int .i64 m.st, .int .i64 m.shrink, .int .i64 m.skin, .int .i64 m.fill, .int .i64 m.gap, .int .i64 m.deep] 25)).alloc (.cells #[.slice none 0 0, .slice none 0 0] 28)).drewN k).alloc (.cells #[.slice none 0 0, .slice none 0 0] 28)) := by
  have hb : Below ((w.alloc (.cells #[.int .i64 m.rings, .int .i64 m.give, .int .i64 m.plo, .int .i64 m.phi, .int .i64 m.wlo, .int .i64 m.whi, .int .i64 m.st, .int .i64 m.shrink, .int .i64 m.skin, .int .i64 m.fill, .int .i64 m.gap, .int .i64 m.deep] 25)).alloc (.cells #[.slice none 0 0, .slice none 0 0] 28)).heap.size ((w.alloc (.cells #[.int .i64 m.rings, .int .i64 m.give, .int .i64 m.plo, .int .i64 m.phi, .int .i64 m.wlo, .int .i64 m.whi, .int .i64 m.st, .int .i64 m.shrink, .int .i64 m.skin, .int .i64 m.fill, .int .i64 m.gap, .int .i64 m.deep] 25)).alloc (.cells #[.slice none 0 0, .slice none 0 0] 28)) ((((w.alloc (.cells #[.int .i64 m.rings, .int .i64 m.give, .int .i64 m.plo, .int .i64 m.phi, .int .i64 m.wlo, .int .i64 m.whi, .int .i64 m.st, .int .i64 m.shrink, .int .i64 m.skin, .int .i64 m.fill, .int .i64 m.gap, .int .i64 m.deep] 25)).alloc (.cells #[.slice none 0 0, .slice none 0 0] 28)).drewN k).alloc (.cells #[.slice none 0 0, .slice none 0 0] 28)) := (below_drewN' (Below.refl _ _) k).alloc (by simp) _
  have hb0 : Below w.heap.size w ((w.alloc (.cells #[.int .i64 m.rings, .int .i64 m.give, .int .i64 m.plo, .int .i64 m.phi, .int .i64 m.wlo, .int .i64 m.whi, .int .i64 m.st, .int .i64 m.shrink, .int .i64 m.skin, .int .i64 m.fill, .int .i64 m.gap, .int .i64 m.deep] 25)).alloc (.cells #[.slice none 0 0, .slice none 0 0] 28)) := ((Below.refl _ w).alloc (Nat.le_refl _) _).alloc (by simp) _
  have h := Blk.new (((w.alloc (.cells #[.int .i64 m.rings, .int .i64 m.give, .int .i64 m.plo, .int .i64 m.phi, .int .i64 m.wlo, .int .i64 m.whi, .int .i64 m.st, .int .i64 m.shrink, .int .i64 m.skin, .int .i64 m.fill, .int .i64 m.gap, .int .i64 m.deep] 25)).alloc (.cells #[.slice none 0 0, .slice none 0 0] 28)).drewN k) 28 #[.slice none 0 0, .slice none 0 0]
  have hs : (((w.alloc (.cells #[.int .i64 m.rings, .int .i64 m.give, .int .i64 m.plo, .int .i64 m.phi, .int .i64 m.wlo, .int .i64 m.whi, .int .i64 m.st, .int .i64 m.shrink, .int .i64 m.skin, .int .i64 m.fill, .int .i64 m.gap, .int .i64 m.deep] 25)).alloc (.cells #[.slice none 0 0, .slice none 0 0] 28)).drewN k).heap.size = w.heap.size + 1 + 1 := by simp
  rw [hs] at h
  exact ⟨⟨((Blk.new w _ _).alloc _).on hb, hb0.trans (hb.mono (by simp; omega))⟩, (Blk.new1 w _ _ _).on hb, h, IntsOut.nil _ _, IntsOut.nil _ _, fun r e => by simp [Value.ownBlock] at e, Nat.le_refl _, by simp⟩
set_option maxRecDepth 100000 in
set_option maxHeartbeats 4000000 in
theorem rsame_any (m : Md) (hm : MdIn m) (e : Bool) (n : Nat) (hn : n ≤ 600) (w : World) :
    Calls Try.prog 41 #[.agg #[.int .i64 m.rings, .int .i64 m.give, .int .i64 m.plo, .int .i64 m.phi, .int .i64 m.wlo, .int .i64 m.whi, .int .i64 m.st, .int .i64 m.shrink, .int .i64 m.skin, .int .i64 m.fill, .int .i64 m.gap, .int .i64 m.deep], .bool e, .int .i64 n] w fun e' w' => ∃ A1 c1 A2 c2, e' = .returned (.agg #[.slice A1 (samP m e).length c1, .slice A2 (samW m e n).length c2]) ∧ IntsIn w' A1 (samP m e) ∧ IntsIn w' A2 (samW m e n) ∧ Below w.heap.size w w' := by
  have HM : Hid (MdBk w w.heap.size 25 m ((w.alloc (.cells #[.int .i64 m.rings, .int .i64 m.give, .int .i64 m.plo, .int .i64 m.phi, .int .i64 m.wlo, .int .i64 m.whi, .int .i64 m.st, .int .i64 m.shrink, .int .i64 m.skin, .int .i64 m.fill, .int .i64 m.gap, .int .i64 m.deep] 25)).alloc (.cells #[.slice none 0 0, .slice none 0 0] 28))) := ⟨(Blk.new w _ _).alloc _, ((Below.refl _ w).alloc (Nat.le_refl _) _).alloc (by simp) _⟩
  have hk := kR_eq hm
  have hk8 := kR_le hm
  obtain ⟨c0, c1, c2, c3, c4, c5, c6, c7, c8, c9, c10, c11⟩ := HM.out.cells
  have hl := HM.out.bk.lt
  cases e with
  | true =>
    go_enter Try.func41, Try.ntmps41
    go_wp2_with fail
    go_quiet (fail)
    go_wp2_with fail
    go_quiet (fail)
    go_wp2_with fail
    clear c0 c1 c2 c3 c4 c5 c6 c7 c8 c9 c10 c11 hl HM
    go_loopw [10] (fun i W => ∃ (k B2 : Nat) (v1 : Value), k ≤ kR m ∧ i = .int .i64 k ∧ Hid (SaB w m B2 v1 (.slice none 0 0) (List.replicate k m.phi) [] W)) (fun i _ => kR m - (intOf i).toNat)
    case atStart => exact ⟨0, _, _, by omega, rfl, sa_start w m _⟩
    case round =>
      obtain ⟨k, B2, v1, hk2, rfl, HS⟩ := hrel
      have c0 := HS.out.b0.bk.cell 0
      have hl := HS.out.b0.bk.lt
      rw [← hk] at c0
      obtain ⟨A, c, rfl⟩ := own_slice HS.out.o1
      rw [List.length_replicate] at HS
      have t0 := HS.out.t.cell 0
      have t1 := HS.out.t.cell 1
      have hlt2 := HS.out.t.lt
      by_cases hlt : k < kR m
      · have hlt' : (k : Int) < kR m := by omega
        have HA := Lib.hid (HS.out.on ((Below.refl _ wr).alloc (Nat.le_refl _) (.cells #[.int .i64 m.phi] 3)))
        go_wp2_with (first
          | (at_builtin; go_must (refine app_list rfl _ _ rfl (l := List.replicate k m.phi) rfl HA.out.o1 m.phi rfl (Blk.new _ _ _) (by rw [List.length_replicate]; omega) (by simp; omega) ?_); intro g cap w4 h1 h2 h3 h4; have HF := Lib.hid (HA.out.fst h2 h1); have t4 := (HA.out.t.below h2 (Nat.lt_succ_self _)).cell 0; have f4 := (HA.out.t.below h2 (Nat.lt_succ_self _)).frozen 0; clear h1 h2 h3 h4)
          | fail)
        go_roundw
        case rel => exact ⟨k + 1, _, _, by omega, by go_num, by have h := HF.out; rw [List.length_replicate] at h; rw [List.replicate_succ']; exact h⟩
        case measure => exact meas_one hlt
      · obtain rfl : k = kR m := by omega
        have hn2 : ¬ ((kR m : Int) < kR m) := by omega
        have HS2 := Lib.hid HS.out.turn
        go_wp2_with fail
        clear HS c0 hl t0 t1 hlt2
        generalize hX : wr.heap.size = X at *
        go_loopw [11] (fun i W => ∃ (k : Nat) (v2 : Value), k ≤ n ∧ i = .int .i64 k ∧ Hid (SaB w m X (.slice A (kR m) c) v2 (List.replicate (kR m) m.phi) (List.replicate k m.whi) W)) (fun i _ => n - (intOf i).toNat)
        case atStart => exact ⟨0, _, by omega, rfl, HS2⟩
        case round =>
          obtain ⟨k, v2, hk3, rfl, HT⟩ := hrel
          clear HS2
          obtain ⟨A2, c2, rfl⟩ := own_slice HT.out.o2
          rw [List.length_replicate] at HT
          have t0 := HT.out.t.cell 0
          have t1 := HT.out.t.cell 1
          have hlt2 := HT.out.t.lt
          by_cases hlt : k < n
          · have hlt' : (k : Int) < n := by omega
            have HA := Lib.hid (HT.out.on ((Below.refl _ wr).alloc (Nat.le_refl _) (.cells #[.int .i64 m.whi] 3)))
            go_wp2_with (first
              | (at_builtin; go_must (refine app_list rfl _ _ rfl (l := List.replicate k m.whi) rfl HA.out.o2 m.whi rfl (Blk.new _ _ _) (by rw [List.length_replicate]; omega) HA.out.sz ?_); intro g cap w4 h1 h2 h3 h4; have HF := Lib.hid (HA.out.snd h2 h1); have t4 := (HA.out.t.below h2 (by have := HA.out.lb; omega)).cell 1; have f4 := (HA.out.t.below h2 (by have := HA.out.lb; omega)).frozen 1; clear h1 h2 h3 h4)
              | fail)
            go_roundw
            case rel => exact ⟨k + 1, _, by omega, by go_num, by have h := HF.out; rw [List.length_replicate] at h; rw [List.replicate_succ']; exact h⟩
            case measure => exact meas_one hlt
          · obtain rfl : k = n := by omega
            have hn3 : ¬ ((k : Int) < k) := by omega
            have r0 := HT.out.r.cell 0
            have r1 := HT.out.r.cell 1
            have g0 := HT.out.r.frozen 0
            have g1 := HT.out.r.frozen 1
            have hr := HT.out.r.lt
            have s0 := (HT.out.r.set_ 0 (.slice A (kR m) c)).cell 0
            have s1 := ((HT.out.r.set_ 0 (.slice A (kR m) c)).set_ 1 (.slice A2 k c2)).cell 1
            have HD := Lib.hid HT.out.done
            have HBB := Lib.hid HT.out.b0.b
            clear HT
            go_wp2_with fail
            refine bodyPost_ret (v := .agg #[.slice A (kR m) c, .slice A2 k c2]) (by simp at s0 s1; simp [results, Try.results41, go_sem, s0, s1]) rfl ?_
            obtain ⟨B1, d1, B2', d2, e1, e2, i1, i2⟩ := HD.out
            rw [List.length_replicate] at e1 e2
            cases e1
            cases e2
            refine ⟨_, c, _, ⟨c2, ?_⟩, i1, i2, below_set (below_set HBB.out (by omega)) (by omega)⟩
            rw [samP_length, samW_length]
  | false =>
    go_enter Try.func41, Try.ntmps41
    go_wp2_with fail
    go_quiet (fail)
    go_wp2_with fail
    clear c0 c1 c2 c3 c4 c5 c6 c7 c8 c9 c10 c11 hl HM
    go_loopw [10] (fun i W => ∃ (k B2 : Nat) (v1 : Value), k ≤ kR m ∧ i = .int .i64 k ∧ Hid (SaB w m B2 v1 (.slice none 0 0) (List.replicate k m.plo) [] W)) (fun i _ => kR m - (intOf i).toNat)
    case atStart => exact ⟨0, _, _, by omega, rfl, sa_start w m _⟩
    case round =>
      obtain ⟨k, B2, v1, hk2, rfl, HS⟩ := hrel
      have c0 := HS.out.b0.bk.cell 0
      have hl := HS.out.b0.bk.lt
      rw [← hk] at c0
      obtain ⟨A, c, rfl⟩ := own_slice HS.out.o1
      rw [List.length_replicate] at HS
      have t0 := HS.out.t.cell 0
      have t1 := HS.out.t.cell 1
      have hlt2 := HS.out.t.lt
      by_cases hlt : k < kR m
      · have hlt' : (k : Int) < kR m := by omega
        have HA := Lib.hid (HS.out.on ((Below.refl _ wr).alloc (Nat.le_refl _) (.cells #[.int .i64 m.plo] 3)))
        go_wp2_with (first
          | (at_builtin; go_must (refine app_list rfl _ _ rfl (l := List.replicate k m.plo) rfl HA.out.o1 m.plo rfl (Blk.new _ _ _) (by rw [List.length_replicate]; omega) (by simp; omega) ?_); intro g cap w4 h1 h2 h3 h4; have HF := Lib.hid (HA.out.fst h2 h1); have t4 := (HA.out.t.below h2 (Nat.lt_succ_self _)).cell 0; have f4 := (HA.out.t.below h2 (Nat.lt_succ_self _)).frozen 0; clear h1 h2 h3 h4)
          | fail)
        go_roundw
        case rel => exact ⟨k + 1, _, _, by omega, by go_num, by have h := HF.out; rw [List.length_replicate] at h; rw [List.replicate_succ']; exact h⟩
        case measure => exact meas_one hlt
      · obtain rfl : k = kR m := by omega
        have hn2 : ¬ ((kR m : Int) < kR m) := by omega
        have HS2 := Lib.hid HS.out.turn
        go_wp2_with fail
        clear HS c0 hl t0 t1 hlt2
        generalize hX : wr.heap.size = X at *
        go_loopw [11] (fun i W => ∃ (k : Nat) (v2 : Value), k ≤ n ∧ i = .int .i64 k ∧ Hid (SaB w m X (.slice A (kR m) c) v2 (List.replicate (kR m) m.plo) (List.replicate k m.wlo) W)) (fun i _ => n - (intOf i).toNat)
        case atStart => exact ⟨0, _, by omega, rfl, HS2⟩
        case round =>
          obtain ⟨k, v2, hk3, rfl, HT⟩ := hrel
          clear HS2
          obtain ⟨A2, c2, rfl⟩ := own_slice HT.out.o2
          rw [List.length_replicate] at HT
          have t0 := HT.out.t.cell 0
          have t1 := HT.out.t.cell 1
          have hlt2 := HT.out.t.lt
          by_cases hlt : k < n
          · have hlt' : (k : Int) < n := by omega
            have HA := Lib.hid (HT.out.on ((Below.refl _ wr).alloc (Nat.le_refl _) (.cells #[.int .i64 m.wlo] 3)))
            go_wp2_with (first
              | (at_builtin; go_must (refine app_list rfl _ _ rfl (l := List.replicate k m.wlo) rfl HA.out.o2 m.wlo rfl (Blk.new _ _ _) (by rw [List.length_replicate]; omega) HA.out.sz ?_); intro g cap w4 h1 h2 h3 h4; have HF := Lib.hid (HA.out.snd h2 h1); have t4 := (HA.out.t.below h2 (by have := HA.out.lb; omega)).cell 1; have f4 := (HA.out.t.below h2 (by have := HA.out.lb; omega)).frozen 1; clear h1 h2 h3 h4)
              | fail)
            go_roundw
            case rel => exact ⟨k + 1, _, by omega, by go_num, by have h := HF.out; rw [List.length_replicate] at h; rw [List.replicate_succ']; exact h⟩
            case measure => exact meas_one hlt
          · obtain rfl : k = n := by omega
            have hn3 : ¬ ((k : Int) < k) := by omega
            have r0 := HT.out.r.cell 0
            have r1 := HT.out.r.cell 1
            have g0 := HT.out.r.frozen 0
            have g1 := HT.out.r.frozen 1
            have hr := HT.out.r.lt
            have s0 := (HT.out.r.set_ 0 (.slice A (kR m) c)).cell 0
            have s1 := ((HT.out.r.set_ 0 (.slice A (kR m) c)).set_ 1 (.slice A2 k c2)).cell 1
            have HD := Lib.hid HT.out.done
            have HBB := Lib.hid HT.out.b0.b
            clear HT
            go_wp2_with fail
            refine bodyPost_ret (v := .agg #[.slice A (kR m) c, .slice A2 k c2]) (by simp at s0 s1; simp [results, Try.results41, go_sem, s0, s1]) rfl ?_
            obtain ⟨B1, d1, B2', d2, e1, e2, i1, i2⟩ := HD.out
            rw [List.length_replicate] at e1 e2
            cases e1
            cases e2
            refine ⟨_, c, _, ⟨c2, ?_⟩, i1, i2, below_set (below_set HBB.out (by omega)) (by omega)⟩
            rw [samP_length, samW_length]
end Go.Proofs.Ytljbjcnfkbmjkaa
