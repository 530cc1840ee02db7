/- The contract of law 13, the walk: for every table, readings and three numbers that stand in memory, the call returns true, and nothing below changes. Conditions: the base of the memory. -/
import Derived.Test.YtnpajncolkafgaaGreatDoorFi
import Derived.Test.YtnpajncolkafgaaGreatDoorOut
import Derived.Test.YtnpajncolkafgaaGreatDoorAw
import Derived.RegionDies
import Derived.Deep.RegionLaw
import Derived.BigQuiet
namespace Go.Proofs.YtnpajncolkafgaaGreatDoor
open Go.ChangeShapes Go.WideShapes Go.ChangeAt Go.RowKit

/-- The boxes, and the other table as far as it goes. -/
structure TuI (w : World) (t : Tab) (tc xc : Array Value) (X : Nat) (pv : Value) (ks : List Kd) (v : Value) (W : World) : Prop where
  two : Two w 86 tc xc W
  ob : Blk W X 25 #[pv, v, .int .i64 t.pu]
  row : W.ownsRow (X + 1) 77 2 v ks.length (kdCells ks)
  far : w.heap.size + 1 < X
theorem TuI.on {w W W' : World} {t : Tab} {tc xc : Array Value} {X : Nat} {pv v : Value} {ks : List Kd} (h : TuI w t tc xc X pv ks v W) (hb : Below W.heap.size W W') : TuI w t tc xc X pv ks v W' := ⟨h.two.on hb, h.ob.on hb, own_below h.row hb, h.far⟩
theorem tu_rel {w wr wa w7 : World} {t : Tab} {tc xc : Array Value} {X n vc gg cap : Nat} {pv : Value} {ks : List Kd} {va : Option Addr} (h : TuI w t tc xc X pv ks (.slice va n vc) wr) (hn : n = ks.length) {x : Kd}
    (hown : w7.ownsRow (X + 1) 77 2 (.slice (some ⟨gg, 0, none⟩) (n + 1) cap) (n + 1) (kdCells ks ++ [.string x.nm, .slice x.ad x.rs.length x.cp])) (hwa : Below wr.heap.size wr wa) (hgrow : wa.grownBy w7 (Value.ownBlock (.slice va n vc))) :
    TuI w t tc xc X pv (ks ++ [x]) (.slice (some ⟨gg, 0, none⟩) (n + 1) cap) (w7.setCell ⟨X, 1, none⟩ (.slice (some ⟨gg, 0, none⟩) (n + 1) cap)) := by
  subst hn
  have hf := h.far
  have hr : ∀ r, Value.ownBlock (.slice va ks.length vc) = some r → X + 1 ≤ r := fun r e => (World.ownsRow.lt h.row r e).1
  have h2 := (h.two.on hwa).grown hgrow (fun r e => by have := hr r e; omega)
  have ho := (h.ob.on hwa).grown hgrow hr (by omega)
  have gs := grown_set w7 X 1 (.slice (some ⟨gg, 0, none⟩) (ks.length + 1) cap)
  have hg := (World.ownsRow.lt hown gg rfl).1
  refine ⟨⟨h2.tb.far (p := ⟨X, 1, none⟩) (by show w.heap.size ≠ X; omega) _, h2.xb.far (p := ⟨X, 1, none⟩) (by show w.heap.size + 1 ≠ X; omega) _, h2.b.setCell (by show w.heap.size ≤ X; omega) _⟩, ?_, ?_, hf⟩
  · have b := ho.set_ 1 (.slice (some ⟨gg, 0, none⟩) (ks.length + 1) cap)
    simpa using b
  · have h7 := World.ownsRow.kept hown gs (by
      right
      intro e
      have e2 : gg = X := by simpa [Value.ownBlock] using e
      omega)
    simpa [kdCells] using h7
theorem rotL_mem {t : Tab} {y m : Nat} {z : Kd} (h : z ∈ rotL t y m) : z ∈ t.ks := by
  unfold rotL at h
  obtain ⟨k, _, hk⟩ := List.mem_filterMap.1 h
  exact List.mem_of_getElem? hk
/-- Each set of the other order, with its numbers turned, is a set; they ascend. -/
theorem setsV_facts {t : Tab} {y : Nat} (h8 : t.ks.length ≤ 8) (hy : y < t.ks.length) (l : List Int) :
    (∀ (p : Nat) (z : Int), (setsV (rotT t y) l)[p]? = some z → ∃ s : Nat, z = s ∧ s < 256 ∧ ((rotS t.ks.length y s t.ks.length : Nat) : Int) ∈ setsV t l) ∧ ∀ (p : Nat) (z u : Int), (setsV (rotT t y) l)[p]? = some z → (setsV (rotT t y) l)[p + 1]? = some u → z < u := by
  have h256 : 2 ^ t.ks.length ≤ 256 := Nat.pow_le_pow_right (n := 2) (by omega) h8
  refine ⟨fun p z hz => ?_, fun p z u hz hu => ?_⟩
  · have hm := List.mem_of_getElem? hz
    unfold setsV at hm
    obtain ⟨s, hs, rfl⟩ := List.mem_map.1 hm
    obtain ⟨hs1, hs2⟩ := List.mem_filter.1 hs
    have h1 := rot_mem h8 hy (of_decide_eq_true hs2)
    have h2 : rotS t.ks.length y s t.ks.length < 256 := by
      obtain ⟨a, b, h3, h4, _, e⟩ := mem_setList.1 h1
      rw [e]
      exact Nat.lt_of_lt_of_le (Nat.or_lt_two_pow (Nat.pow_lt_pow_right (by omega) (show a < t.ks.length by omega)) (Nat.pow_lt_pow_right (by omega) h4)) h256
    exact ⟨s, rfl, List.mem_range.1 hs1, (mem_setsV h2).2 h1⟩
  · have hpw : (setsV (rotT t y) l).Pairwise (· < ·) := by
      refine List.pairwise_map.2 ((List.Pairwise.filter _ List.pairwise_lt_range).imp ?_)
      intro a b hab
      omega
    obtain ⟨h1, e1⟩ := List.getElem?_eq_some_iff.1 hz
    obtain ⟨h2, e2⟩ := List.getElem?_eq_some_iff.1 hu
    have := (List.pairwise_iff_getElem.1 hpw) p (p + 1) h1 h2 (by omega)
    rw [e1, e2] at this
    exact this
/-- Two lists that calls made. -/
structure LsI (w : World) (A B : Option Addr) (k l : List Int) (W : World) : Prop where
  mu : IntsIn W A k
  ma : IntsIn W B l
  b : Below w.heap.size w W
theorem LsI.on {w W W' : World} {A B : Option Addr} {k l : List Int} (h : LsI w A B k l W) (hb : Below W.heap.size W W') : LsI w A B k l W' := ⟨h.mu.on hb, h.ma.on hb, h.b.trans (hb.mono h.b.size)⟩
theorem HeldB.all1 {w W : World} {b0 o0 : Nat} {v0 : Value} (h : HeldB w [(b0, o0, v0)] W) : W.cell? ⟨b0, o0, none⟩ = some v0 ∧ HeldB w [(b0, o0, v0)] W := ⟨(h.held.at_ (b0, o0, v0) (by simp)).2, h⟩
theorem HeldB.all2 {w W : World} {b0 o0 b1 o1 : Nat} {v0 v1 : Value} (h : HeldB w [(b0, o0, v0), (b1, o1, v1)] W) : W.cell? ⟨b0, o0, none⟩ = some v0 ∧ W.cell? ⟨b1, o1, none⟩ = some v1 ∧ HeldB w [(b0, o0, v0), (b1, o1, v1)] W :=
  ⟨(h.held.at_ (b0, o0, v0) (by simp)).2, (h.held.at_ (b1, o1, v1) (by simp)).2, h⟩
theorem lin_yes {w : World} {A : Option Addr} {c : Nat} {l : List Int} {n : Int} (hl : IntsIn w A l) (h : n ∈ l) : Calls Tryz.prog 43 #[.slice A l.length c, .int .i64 n] w fun e w' => e = .returned (.bool true) ∧ w' = w :=
  (lin_any (c := c) n hl).mono fun e w' ⟨he, hw⟩ => ⟨by rw [he, decide_eq_true h], hw⟩
theorem tu_num {n : Nat} (h : 0 < n) {x : Int} (hx : 0 ≤ x) : ∃ k : Nat, k < n ∧ x.tmod (n : Int) = k := by
  have h1 := Int.tmod_nonneg (n : Int) hx
  have h2 := Int.tmod_lt_of_pos x (show (0 : Int) < n by omega)
  exact ⟨(x.tmod (n : Int)).toNat, by omega, by omega⟩
theorem span_no (a b : Int) (w : World) : (binOp .neq 35 (.agg #[.int .i64 a, .int .i64 b]) (.agg #[.int .i64 a, .int .i64 b])).run Tryz.prog w = .ok (.bool false) w := by
  have h := span_neq (a, b) (a, b) w
  simpa using h

set_option maxRecDepth 100000 in
set_option maxHeartbeats 4000000 in
theorem wturned_any {w : World} (hB : Base w) {pa ka ra : Option Addr} {pc kc rc : Nat} {t : Tab} {l : List Int} (x0 x1 x2 : Int) (hx0 : 0 ≤ x0 ∧ x0 ≤ 255) (hx1 : 0 ≤ x1 ∧ x1 ≤ 255) (hx2 : 0 ≤ x2 ∧ x2 ≤ 255) (h : RdIn w pa ka ra pc kc t l) :
    Calls Tryz.prog 13 #[.agg #[.slice pa t.ps.length pc, .slice ka t.ks.length kc, .int .i64 t.pu], .slice ra l.length rc, .agg #[.int .u8 x0, .int .u8 x1, .int .u8 x2]] w fun e w' => e = .returned (.bool true) ∧ Below w.heap.size w w' := by
  obtain ⟨i0, hi0, hz0, hz1, hz2⟩ := info_parts infoKd
  have I0 := Two.new w 86 #[.slice pa t.ps.length pc, .slice ka t.ks.length kc, .int .i64 t.pu] #[.int .u8 x0, .int .u8 x1, .int .u8 x2]
  have hp := h.tab.tab.lp
  have hk := h.tab.tab.lk
  have hl := h.rds.len
  have HI := Lib.hid I0
  have HR := Lib.hid h
  have H1 := Lib.hid (rreadings_any (rc := rc) (h.on I0.b))
  have HW := Lib.hid (fun (W : World) (hW : Below w.heap.size w W) => awake_any (hB.on hW))
  clear h hB I0
  go_enter Tryz.func13, Tryz.ntmps13
  go_wp2_with fail
  refine H1.out.mono ?_
  rintro e w1 ⟨rfl, hb1⟩
  have HI := Lib.hid (HI.out.on hb1)
  obtain ⟨a0, a1, a2, -, -, -, -⟩ := HI.out.tb.three
  obtain ⟨c0, c1, c2, -, -, -, -⟩ := HI.out.xb.three
  clear hb1 H1
  by_cases h0 : lookErr t l = 0
  · have HS := Lib.hid (HR.out.sam h0)
    have HC := Lib.hid (lookErr_ok h0)
    rw [h0]
    have hp5 := HS.out.val.np
    have hk8 := HS.out.val.nk
    obtain ⟨a, hal, ea⟩ := tu_num (n := t.ks.length) (by omega) hx0.1
    obtain ⟨b, hbl, eb⟩ := tu_num (n := t.ks.length) (by omega) hx1.1
    obtain ⟨y, hyl, ey⟩ := tu_num (n := t.ks.length) (by omega) hx2.1
    have z1 : ((t.ks.length : Int) == 0) = false := by
      have h : ¬ ((t.ks.length : Int) = 0) := by omega
      simpa using h
    have z2 : ¬ ((t.ks.length : Int) = 0) := by omega
    have HM := Lib.hid (fun (W : World) (hW : Below w.heap.size w W) => mixed_any (rc := rc) (HR.out.on hW) a b)
    have HM2 := Lib.hid (fun (W : World) (hW : Below w.heap.size w W) => mixed_any (rc := rc) (HR.out.on hW) b a)
    have HF := Lib.hid (fun (hab : a ≠ b) => mixed_flip h0 hal hbl hab)
    have HME := Lib.hid (fun (hab : a ≠ b) => mixed_ends h0 hal hbl hab)
    have hl0 := h0
    clear h0
    go_wp2_with fail
    go_quiet (fail)
    go_upto_if 49 with (fail)
    go_cut [12] (fun _ wx => Two w 86 #[.slice pa t.ps.length pc, .slice ka t.ks.length kc, .int .i64 t.pu] #[.int .u8 x0, .int .u8 x1, .int .u8 x2] wx)
    case first =>
      by_cases hab : a = b
      · have hab2 : ((a : Int) != (b : Int)) = false := by simp [hab]
        go_wp2_with fail
        go_meet
        exact HI.out.on (by repeat (first | exact Below.refl _ _ | apply below_drewN' | apply Below.drew))
      · have hab2 : ((a : Int) != (b : Int)) = true := by
          rw [bne_iff_ne]
          exact fun e => hab (by omega)
        have hf := HF.out hab
        have hme := HME.out hab
        have HM3 := Lib.hid (fun (W : World) (hW : Below w.heap.size w W) => HM.out W hW)
        have HM4 := Lib.hid (fun (W : World) (hW : Below w.heap.size w W) => HM2.out W hW)
        generalize mixedV t l a b = M at *
        generalize mixedV t l b a = N at *
        obtain ⟨⟨M1, M2⟩, M3⟩ := M
        obtain ⟨⟨N1, N2⟩, N3⟩ := N
        dsimp only at *
        obtain ⟨rfl, hf⟩ := hf
        have HFF := Lib.hid (And.intro hf hme)
        clear hf hme HM HM2 HF HME
        go_wp2_with fail
        refine (HM3.out _ (by repeat (first | exact HI.out.b | exact Below.refl _ _ | apply below_drewN' | apply Below.drew))).mono ?_
        rintro e w2 ⟨rfl, hb2⟩
        have hI2 := ((HI.out.on (by repeat (first | exact Below.refl _ _ | apply below_drewN' | apply Below.drew))).on hb2)
        have HI2 := Lib.hid (hI2.on ((Below.refl _ w2).alloc (Nat.le_refl _) (.cells #[.int .i64 M1, .int .i64 M2] 35)))
        have S1 := Lib.hid (Blk.new w2 35 #[.int .i64 M1, .int .i64 M2])
        obtain ⟨a0, a1, a2, -, -, -, hxl⟩ := hI2.tb.three
        clear hb2 hI2
        go_wp2_with fail
        refine (HM4.out _ HI2.out.b).mono ?_
        rintro e w3 ⟨rfl, hb3⟩
        have S2 := S1.out.on hb3
        obtain ⟨s0, s1, -, -, sl⟩ := S2.two
        have HI3 := Lib.hid ((HI2.out.on hb3).on ((Below.refl _ w3).alloc (Nat.le_refl _) (.cells #[.int .i64 N1, .int .i64 N2] 35)))
        clear hb3 S1 S2 HI2
        rcases HFF.out.1 with ⟨rfl, hf⟩ | rfl
        · simp only [Prod.mk.injEq] at hf
          obtain ⟨rfl, rfl⟩ := hf
          have hm : 0 ≤ M1 ∧ M1 ≤ M2 ∧ M2 ≤ 1000 := by
            rcases HFF.out.2 with h | ⟨_, h1, h2, h3, _⟩
            · simp at h
            · exact ⟨h1, h2, h3⟩
          have q1 : IntKind.i64.wrap (1000 - M2) = 1000 - M2 := IntWalk.i64_in _ (by omega)
          have q2 : IntKind.i64.wrap (1000 - M1) = 1000 - M1 := IntWalk.i64_in _ (by omega)
          have hq := fun (w : World) => span_no (1000 - M2) (1000 - M1) w
          go_wp2_with fail
          go_meet
          exact HI3.out
        · go_wp2_with fail
          go_meet
          exact HI3.out
    case rest =>
      have hI := hcut
      obtain ⟨a0, a1, a2, -, -, -, -⟩ := hI.tb.three
      have hJ : TuI w t #[.slice pa t.ps.length pc, .slice ka t.ks.length kc, .int .i64 t.pu] #[.int .u8 x0, .int .u8 x1, .int .u8 x2] wc.heap.size (.slice pa t.ps.length pc) (rotL t y 0) (.slice none 0 0) (wc.alloc (.cells #[.slice pa t.ps.length pc, .slice none 0 0, .int .i64 t.pu] 25)) :=
        ⟨hI.on ((Below.refl _ wc).alloc (Nat.le_refl _) _), Blk.new _ _ _, World.ownsRow_nil _ _ _ _, hI.xb.lt⟩
      have HJ := Lib.hid hJ
      clear hcut hJ hI HM HM2 HF HME HI c0 c1 c2
      go_wp2_with fail
      generalize wc.heap.size = X at *
      generalize wc.alloc (.cells #[.slice pa t.ps.length pc, .slice none 0 0, .int .i64 t.pu] 25) = w4 at *
      go_loopw [16] (fun i wr => ∃ k : Nat, k ≤ t.ks.length ∧ i = .int .i64 k ∧ (∃ v, Hid (TuI w t #[.slice pa t.ps.length pc, .slice ka t.ks.length kc, .int .i64 t.pu] #[.int .u8 x0, .int .u8 x1, .int .u8 x2] X (.slice pa t.ps.length pc) (rotL t y k) v wr))) (fun i _ => t.ks.length - (intOf i).toNat)
      case atStart => exact ⟨0, by omega, rfl, ⟨_, HJ⟩⟩
      case round =>
        obtain ⟨k, hkl, rfl, ⟨v, HJ2⟩⟩ := hrel
        have hln := rotL_len (t := t) y (by omega) k
        obtain ⟨va, vc, rfl⟩ : ∃ A c, v = .slice A k c := by
          rcases HJ2.out.row.2 with ⟨hv, h0⟩ | ⟨g, cap, cur, hv, _⟩
          · rw [hln] at h0
            exact ⟨none, 0, by rw [hv, h0]⟩
          · exact ⟨_, _, by rw [hv, hln]⟩
        obtain ⟨a0, a1, a2, -, -, -, hxl⟩ := HJ2.out.two.tb.three
        obtain ⟨t0, t1, t2, -, t4, -, t6⟩ := HJ2.out.ob.three
        by_cases hlt : k < t.ks.length
        · have hcl := rotK_lt (n := t.ks.length) (y := y) (k := k) (by omega)
          obtain ⟨x, hx⟩ : ∃ x, t.ks[rotK t.ks.length y k]? = some x := ⟨t.ks[rotK t.ks.length y k], List.getElem?_eq_getElem hcl⟩
          have HSU := Lib.hid (rotL_succ hx)
          obtain ⟨kb, ko, rfl, hkB, cN, cS, -, hxlen⟩ := kinds_at (HR.out.on HJ2.out.two.b).tab.tab.ks hx
          have e2 : ((k : Int) + (y : Int)) % (t.ks.length : Int) = (rotK t.ks.length y k : Nat) := by
            unfold rotK
            rw [Int.natCast_emod, Int.natCast_add]
          have e1 : ((k : Int) + (y : Int)).tmod (t.ks.length : Int) = (rotK t.ks.length y k : Nat) := by
            rw [Int.tmod_eq_emod_of_nonneg (by omega)]; exact e2
          have k1 : IntKind.i64.wrap ((k : Int) + (y : Int)) = (k : Int) + (y : Int) := IntWalk.i64_in _ (by omega)
          generalize rotK t.ks.length y k = c at *
          have HNN := Lib.hid (⟨by unfold maxLen; omega, by omega⟩ : k + 1 ≤ maxLen ∧ (k + 1) * 40 ≤ 140737488355328)
          have HRW := Lib.hid (show (wr.drew).ownsRow (X + 1) 77 2 (.slice va k vc) k (kdCells (rotL t y k)) by
            have h := own_below HJ2.out.row ((Below.refl _ wr).drew)
            rwa [hln] at h)
          have aX : some X ≠ Value.ownBlock (.slice va k vc) := fun e => by have := (World.ownsRow.lt HRW.out _ e.symm).1; omega
          clear hx
          have hnn : ¬ t.ks = [] := fun e => by rw [e] at hk8; simp at hk8
          go_wp2_with fail
          go_region_law (first | (refine step_append_lies _ (by rfl) _ _ _ (by rfl) (X + 1) 77 i0 (.agg #[.string ⟨#[]⟩, .slice none 0 0]) 2 40 Tryz.underlying23 hi0 hz0 hz1 hz2 rfl (by omega) (.slice va k vc) k (kdCells (rotL t y k)) (by rfl) (World.ownsRow.alloc HRW.out _) ⟨_, 0, none⟩ 1 1 [.string x.nm, .slice x.ad x.rs.length x.cp] (by rfl) (by rfl) (World.news_of_block (cs := #[.string x.nm, .slice x.ad x.rs.length x.cp]) (t := 77) (fr := (0, 0)) (new_two _ _ _ _ _ rfl)) (by simp [Value.oneCell']) (by omega) HNN.out.1 HNN.out.2 (by simp; omega) (wr.heap.size + 1) (by simp) ?_; intro gg cap w7 hown1 hgrow hat hglt; have ck7 : w7.cell? ⟨X, 1, none⟩ = some (.slice va k vc) := (hgrow.cell_far ⟨X, 1, none⟩ (by simp; omega) aX).trans (by first | exact (((Below.refl _ wr).alloc (Nat.le_refl _) _).cell (p := ⟨X, 1, none⟩) t6).trans t1 | exact (((Below.refl _ wr.drew).alloc (Nat.le_refl _) _).cell (p := ⟨X, 1, none⟩) t6).trans t1); have fk7 : w7.frozen? ⟨X, 1, none⟩ = false := (hgrow.frozen_far ⟨X, 1, none⟩ (by simp; omega) aX).trans (by first | exact (((Below.refl _ wr).alloc (Nat.le_refl _) _).frozen (p := ⟨X, 1, none⟩) t6).trans t4 | exact (((Below.refl _ wr.drew).alloc (Nat.le_refl _) _).frozen (p := ⟨X, 1, none⟩) t6).trans t4)) | fail)
          all_goals (have HW7 := Lib.hid (tu_rel HJ2.out hln.symm (x := x) hown1 (wa := _) (by first | exact (Below.refl _ wr).alloc (Nat.le_refl _) _ | exact ((Below.refl _ wr).drew).alloc (Nat.le_refl _) _) hgrow); clear hown1 hgrow hat ck7 fk7)
          all_goals go_wp2_with fail
          all_goals go_roundw
          all_goals first
            | exact ⟨k + 1, by omega, by go_num, ⟨_, by rw [HSU.out]; exact HW7⟩⟩
            | (simp [intOf]; omega)
        · have hke : k = t.ks.length := by omega
          have hT := (HR.out.on HJ2.out.two.b).tab
          have hrow := own_rowAt (enc := encK) (l := rotL t y k) HJ2.out.row (pair_cells (fun _ => rfl) (fun _ => rfl))
          have hTR : TabIn wr pa va pc vc (rotT t y) := by
            have hmem : ∀ z ∈ rotL t y t.ks.length, z ∈ t.ks := fun z hz => rotL_mem hz
            rw [hke] at hrow
            obtain ⟨h1, h2, h3, h4⟩ := hrow
            have h5 := rotL_len (t := t) y (by omega) t.ks.length
            refine ⟨⟨hT.tab.ps, ⟨h2, fun z hz => hT.tab.ks.2 z (hmem z hz)⟩, hT.tab.lp, by show (rotL t y t.ks.length).length ≤ _; omega⟩, hT.pc, h3, ?_⟩
            exact ⟨hT.fit.1, fun z hz => hT.fit.2 z (hmem z hz)⟩
          have hck := rot_check (t := t) (y := y) (by omega) hyl HC.out.1
          have hlk : lookErr (rotT t y) l = 0 := look_zero hck (by have := reads_len HC.out.2; show l.length = t.ps.length; omega) (reads_ok HC.out.2)
          have hs1 : setsT t l = (setsV t l, 0) := by unfold setsT; rw [if_neg (by simpa using hl0)]
          have hs2 : setsT (rotT t y) l = (setsV (rotT t y) l, 0) := by unfold setsT; rw [if_neg (by simpa using hlk)]
          have hrl : (rotT t y).ks.length = k := by rw [hke]; exact rotT_len (by omega)
          have H5 := Lib.hid (setsT_any (rc := rc) (HR.out.on HJ2.out.two.b))
          have H6 := Lib.hid (fun (W : World) (hW : Below wr.heap.size wr W) => setsT_any (rc := rc) (l := l) ⟨hTR.on hW, (HR.out.on HJ2.out.two.b).rds.on hW⟩)
          rw [hs1] at H5
          rw [hs2, hrl] at H6
          have hlen := rot_len (t := t) (l := l) hk8.2 hyl
          have HSP := Lib.hid (setsV_facts hk8.2 hyl l)
          have hps : (rotT t y).ps.length = t.ps.length := rfl
          have hpu : (rotT t y).pu = t.pu := rfl
          rw [hps, hpu] at H6
          generalize setsV t l = S1 at *
          generalize setsV (rotT t y) l = S2 at *
          clear hT hrow hTR hck hlk hs1 hs2 hrl hps hpu hke
          go_wp2_with fail
          refine H5.out.mono ?_
          rintro e w5 ⟨v5, rfl, h5, hb5⟩
          obtain ⟨A1, d1, rfl, i1⟩ := h5.in_
          have hJ5 := HJ2.out.on hb5
          obtain ⟨t0, t1, t2, -, -, -, t6⟩ := hJ5.ob.three
          clear h5 H5
          go_wp2_with fail
          refine (H6.out _ hb5).mono ?_
          rintro e w6 ⟨v6, rfl, h6, hb6⟩
          obtain ⟨A2, d2, rfl, i2⟩ := h6.in_
          have hL : LsI w A1 A2 S1 S2 w6 := ⟨i1.on hb6, i2, (hJ5.on hb6).two.b⟩
          have HL := Lib.hid hL
          have hl1 := i1.len
          have hl2 := i2.len
          have gl : ((S1.length : Int) != (S2.length : Int)) = false := by
            rw [hlen]; simp
          clear h6 H6 hb5 hb6 i1 i2 hL hJ5 hlen
          go_wp2_with fail
          go_loopw [21] (fun i wz => ∃ p : Nat, p ≤ S2.length ∧ i = .int .i64 p ∧ LsI w A1 A2 S1 S2 wz) (fun i _ => S2.length - (intOf i).toNat)
          case atStart => exact ⟨0, by omega, rfl, HL.out⟩
          case round =>
            obtain ⟨p, hpl, rfl, hI⟩ := hrel
            by_cases hlp : p < S2.length
            · obtain ⟨z, hz⟩ : ∃ x, S2[p]? = some x := ⟨S2[p], List.getElem?_eq_getElem hlp⟩
              obtain ⟨s, rfl, hs256, hsm⟩ := HSP.out.1 p z hz
              have hprev : p = 0 ∨ ∃ (p' : Nat) (u : Int), p = p' + 1 ∧ S2[p']? = some u ∧ u < s := by
                cases p with
                | zero => exact .inl rfl
                | succ p' =>
                  have hu : S2[p']? = some (S2[p']'(by omega)) := List.getElem?_eq_getElem _
                  exact .inr ⟨p', _, rfl, hu, HSP.out.2 p' _ _ hu hz⟩
              obtain ⟨mb, mo, rfl, hmB, c1⟩ := ints_at hI.ma.at_ hz
              obtain ⟨W1, hW1⟩ : ∃ W, W = wr := ⟨_, rfl⟩
              subst hW1
              have HI := Lib.hid hI
              have HPV := Lib.hid hprev
              have HSM := Lib.hid hsm
              have HZ := Lib.hid hz
              clear hI hprev hsm hz c1
              go_wp2_with fail
              go_loopw [22, 23] (fun v i wz => ∃ k : Nat, k ≤ t.ks.length ∧ i = .int .i64 k ∧ (∃ q : Int, v = .int .i64 q ∧ Hid (q = ((rotS t.ks.length y s k : Nat) : Int))) ∧ LsI w A1 (some ⟨mb, mo, none⟩) S1 S2 wz) (fun _ i _ => t.ks.length - (intOf i).toNat)
              case atStart => exact ⟨0, by omega, rfl, ⟨0, rfl, by show (0 : Int) = _; rfl⟩, HI.out⟩
              case round =>
                obtain ⟨k, hkl, rfl, ⟨q, rfl, HQ⟩, hL2⟩ := hrel
                obtain ⟨mb3, mo3, e3, hmB3, c1⟩ := ints_at hL2.ma.at_ HZ.out
                simp only [Option.some.injEq, Addr.mk.injEq, and_true] at e3
                obtain ⟨rfl, rfl⟩ := e3
                have HI := Lib.hid hL2
                clear hL2
                by_cases hlk : k < t.ks.length
                · have hcl := rotK_lt (n := t.ks.length) (y := y) (k := k) (by omega)
                  have hle := rotS_le t.ks.length y s hk8.2 (by omega) k
                  have hq : 0 ≤ q ∧ q ≤ 1024 := by rw [HQ.out]; omega
                  have hst : rotS t.ks.length y s (k + 1) = rotS t.ks.length y s k + (if s.testBit k then 2 ^ rotK t.ks.length y k else 0) := rfl
                  have hbl : 2 ^ rotK t.ks.length y k ≤ 2 ^ 7 := Nat.pow_le_pow_right (n := 2) (by omega) (by omega)
                  have hh := has_any s k hs256 (by omega) wr
                  have hbi := bit_any (rotK t.ks.length y k) (by omega) wr
                  have e2 : ((k : Int) + (y : Int)) % (t.ks.length : Int) = (rotK t.ks.length y k : Nat) := by
                    unfold rotK
                    rw [Int.natCast_emod, Int.natCast_add]
                  have e1 : ((k : Int) + (y : Int)).tmod (t.ks.length : Int) = (rotK t.ks.length y k : Nat) := by
                    rw [Int.tmod_eq_emod_of_nonneg (by omega)]; exact e2
                  have k1 : IntKind.i64.wrap ((k : Int) + (y : Int)) = (k : Int) + (y : Int) := IntWalk.i64_in _ (by omega)
                  generalize rotK t.ks.length y k = c at *
                  obtain ⟨B, hB⟩ : ∃ B : Nat, 2 ^ c = B := ⟨_, rfl⟩
                  rw [hB] at hst hbl hbi
                  have hB7 : B ≤ 128 := hbl
                  clear hle
                  have k2 : IntKind.i64.wrap (q + (B : Int)) = q + (B : Int) := IntWalk.i64_in _ (by omega)
                  have HBI := Lib.hid hbi
                  have hge : ¬ (s : Int) < 0 := by omega
                  clear hB hbl hbi
                  cases hd : s.testBit k with
                  | true =>
                    rw [hd] at hh hst
                    have HH := Lib.hid hh
                    have HEQ := Lib.hid (show q + (B : Int) = ((rotS t.ks.length y s (k + 1) : Nat) : Int) by rw [hst, if_pos rfl, Int.natCast_add, HQ.out])
                    clear hh hst hd
                    go_wp2_with fail
                    refine HH.out.mono ?_
                    rintro e w' ⟨rfl, hw'⟩
                    rw [hw']
                    clear hw'
                    go_wp2_with fail
                    refine HBI.out.mono ?_
                    rintro e w' ⟨rfl, hw'⟩
                    rw [hw']
                    clear hw'
                    go_wp2_with fail
                    go_roundw
                    case rel => exact ⟨k + 1, by omega, by go_num, ⟨_, rfl, HEQ⟩, HI.out⟩
                    case measure => simp [intOf]; omega
                  | false =>
                    rw [hd] at hh hst
                    have HH := Lib.hid hh
                    have HEQ := Lib.hid (show q = ((rotS t.ks.length y s (k + 1) : Nat) : Int) by rw [hst, HQ.out]; simp)
                    clear hh hst hd
                    go_wp2_with fail
                    refine HH.out.mono ?_
                    rintro e w' ⟨rfl, hw'⟩
                    rw [hw']
                    clear hw'
                    go_wp2_with fail
                    go_roundw
                    case rel => exact ⟨k + 1, by omega, by go_num, ⟨_, rfl, HEQ⟩, HI.out⟩
                    case measure => simp [intOf]; omega
                · have hke : k = t.ks.length := by omega
                  subst hke
                  have hsm : q ∈ S1 := by rw [HQ.out]; exact HSM.out
                  have HINW := Lib.hid (fun (W : World) (hW : Below wr.heap.size wr W) => lin_yes (c := d1) (HI.out.mu.on hW) hsm)
                  clear HQ
                  have HPV2 := HPV.out
                  rcases HPV2 with rfl | ⟨p', u, hpe, hu, hus⟩
                  · have HQI := Lib.hid (fun n : Nat => HINW.out (wr.drewN n) (below_drewN' (Below.refl _ wr) n))
                    clear hsm HSM HPV c1
                    go_wp2_with fail
                    go_quiet ((go_at_call 43; exact Calls.quiet_of_same (HQI.out _)))
                    go_wp2_with fail
                    go_roundw
                    case rel => exact ⟨0 + 1, by omega, by go_num, HI.out.on (by repeat (first | exact Below.refl _ _ | apply below_drewN' | apply Below.drew))⟩
                    case measure => simp [intOf]; omega
                  · obtain ⟨mb2, mo2, e2, _, c2⟩ := ints_at HI.out.ma.at_ hu
                    simp only [Option.some.injEq, Addr.mk.injEq, and_true] at e2
                    obtain ⟨rfl, rfl⟩ := e2
                    have HQI := Lib.hid (fun n : Nat => HINW.out (wr.drewN n) (below_drewN' (Below.refl _ wr) n))
                    have kp : IntKind.i64.wrap ((p : Int) - 1) = (p' : Int) := by
                      rw [show (p : Int) - 1 = (p' : Int) by omega]
                      exact IntWalk.i64_in _ (by omega)
                    have hpp : p' < S2.length := by omega
                    have hp0 : 0 < p := by omega
                    have HPE := Lib.hid (And.intro hpe hus)
                    clear hsm HSM HPV hu hpe hus
                    go_wp2_with fail
                    have g1 : ¬ (s : Int) ≤ u := by have := HPE.out.2; omega
                    have g2 : 0 < (p : Int) := by omega
                    go_quiet ((go_at_call 43; exact Calls.quiet_of_same (HQI.out _)))
                    go_wp2_with fail
                    go_roundw
                    case rel => exact ⟨p + 1, by omega, by go_num, HI.out.on (by repeat (first | exact Below.refl _ _ | apply below_drewN' | apply Below.drew))⟩
                    case measure => simp [intOf]; omega
            · go_wp2_with fail
              refine (HW.out _ hI.b).mono ?_
              rintro e w7 ⟨rfl, hb⟩
              go_wp2_with fail
              go_ret
              exact ⟨rfl, hI.b.trans (hb.mono hI.b.size)⟩
  · have hz2 : (lookErr t l != 0) = true := by simpa using h0
    generalize lookErr t l = z at *
    clear h0
    go_wp2_with fail
    refine (HW.out _ HI.out.b).mono ?_
    rintro e w5 ⟨rfl, hb⟩
    go_wp2_with fail
    go_ret
    exact ⟨rfl, HI.out.b.trans (hb.mono HI.out.b.size)⟩
end Go.Proofs.YtnpajncolkafgaaGreatDoor
