/- wax's reader: kind: contract. -/
import Derived.Test.YthihpggjglghoaaGreatDoorTstA
import Derived.RegionDies
import Derived.Deep.RegionLaw
namespace Go.Proofs.YthihpggjglghoaaGreatDoor
open Go.RowKit Go.Shelf

def spansW : List ByteArray → Option (List (Int × Int))
  | [] => some []
  | [_] => none
  | a :: b :: r => match numV a, numV b with
    | some x, some y => (spansW r).map fun l => (x, y) :: l
    | _, _ => none

def kndW (cr : ByteArray) : List ByteArray → Option ((ByteArray × List (Int × Int)) × ByteArray × List ByteArray)
  | [] => none
  | a :: r => (spansW r).map fun l => ((a, l), cr, [])
/-- The line of a kind. -/
def kndV (rest : ByteArray) : Option ((ByteArray × List (Int × Int)) × ByteArray × List ByteArray) := if cutB rest then kndW (cutR rest) (wordsV (cutF rest)) else none
def spanCells (l : List (Int × Int)) : List Value := l.flatMap fun p => [.int .i64 p.1, .int .i64 p.2]
/-- A slice of ranges that a call made. -/
def SpansOut (B : Nat) (w' : World) (v : Value) (l : List (Int × Int)) : Prop := w'.ownsRow B 43 2 v l.length (spanCells l)
theorem infoSp : (Tryz.prog.info? 43).map (fun i => (i.zero, i.size, i.bytes)) = some (some (.agg #[.int .i64 0, .int .i64 0]), 2, 16) := by kernel_rfl
theorem SpansOut.far {B : Nat} {w w' : World} {v : Value} {l : List (Int × Int)} {row : Option Nat} (h : SpansOut B w v l) (hg : w.grownBy w' row) (hr : ∀ j, row = some j → j < B) : SpansOut B w' v l :=
  World.ownsRow.kept h hg (by
    cases hv : v.ownBlock with
    | none => exact .inl rfl
    | some g => right; intro e; have := (World.ownsRow.lt h g hv).1; have := hr g e.symm; omega)
theorem SpansOut.base {B B' : Nat} {w : World} {v : Value} {l : List (Int × Int)} (h : SpansOut B w v l) (hB : B' ≤ B) : SpansOut B' w v l := by
  refine ⟨h.1, ?_⟩
  rcases h.2 with h2 | ⟨g, cap, cur, hv, hg, r⟩
  · exact .inl h2
  · exact .inr ⟨g, cap, cur, hv, by omega, r⟩
theorem Blk.far2 {w w' : World} {g : Nat} {T : TypeId} {cs : Array Value} {row : Option Nat} (h : Blk w g T cs) (hg : w.grownBy w' row) (hr : ∀ j, row = some j → j ≠ g) : Blk w' g T cs := (hg.block g h.lt (fun e => hr _ e.symm rfl)).trans h

theorem grown_undrew {w w' : World} {row : Option Nat} (hg : w.drew.grownBy w' row) : w.grownBy w' row := ⟨hg.os, hg.tape, hg.output, hg.size, hg.block⟩
theorem Rdr.low {w0 w : World} {RB UB : Nat} {rest : ByteArray} (h : Rdr w0 w RB UB rest []) : Rdr w0 w RB 0 rest [] := by
  obtain ⟨A, c, hB, hA, hc⟩ := h.at_
  exact ⟨h.bs, h.lo, h.be, ⟨A, c, hB, fun hp => by simp at hp, hc⟩, h.len, Nat.zero_le _, h.siz⟩

/-- A round of kind. -/
theorem kind_rel {w0 w w1 w2 w3 w4 w7 : World} {RB : Nat} {cr a : ByteArray} {wv r : List ByteArray} {done : List (Int × Int)} {va : Option Addr} {vc gg cap : Nat} {vx vy : Int}
    (h01 : w.heap.size + 1 ≤ w1.heap.size) (h12 : w1.heap.size ≤ w2.heap.size) (hRB : RB < w.heap.size) (h2r : w2.heap.size + 1 ≤ w3.heap.size) (hlen : 2 * done.length + (r.length + 1 + 1) ≤ wv.length)
    (HP2 : Hid (spansW wv = (spansW r).map ((done ++ [(vx, vy)]) ++ ·)))
    (KB : Blk w3 w2.heap.size 51 #[.string a, .slice va done.length vc]) (KR : Blk w3 w.heap.size 51 #[.string ⟨#[]⟩, .slice none 0 0])
    (HO : SpansOut (w2.heap.size + 1) w3 (.slice va done.length vc) done) (HG : w.grownBy w3 (some RB)) (hr4 : Rdr w0 w4 RB w1.heap.size cr r) (g1 : w3.grownBy w4 (some RB))
    (hown1 : w7.ownsRow (w2.heap.size + 1) 43 2 (.slice (some ⟨gg, 0, none⟩) (done.length + 1) cap) (done.length + 1) (spanCells done ++ [.int .i64 vx, .int .i64 vy]))
    (hgrow : (w4.alloc (.cells #[.int .i64 vx, .int .i64 vy] 43)).grownBy w7 (Value.ownBlock (.slice va done.length vc))) :
    ∃ done' rem va' vc', Hid (spansW wv = (spansW rem).map (done' ++ ·)) ∧ 2 * done'.length + rem.length ≤ wv.length ∧ Blk (w7.setCell ⟨w2.heap.size, 1, none⟩ (.slice (some ⟨gg, 0, none⟩) (done.length + 1) cap)) w2.heap.size 51 #[.string a, .slice va' done'.length vc'] ∧ Hid (Blk (w7.setCell ⟨w2.heap.size, 1, none⟩ (.slice (some ⟨gg, 0, none⟩) (done.length + 1) cap)) w.heap.size 51 #[.string ⟨#[]⟩, .slice none 0 0]) ∧ Hid (SpansOut (w2.heap.size + 1) (w7.setCell ⟨w2.heap.size, 1, none⟩ (.slice (some ⟨gg, 0, none⟩) (done.length + 1) cap)) (.slice va' done'.length vc') done') ∧ Hid (w.grownBy (w7.setCell ⟨w2.heap.size, 1, none⟩ (.slice (some ⟨gg, 0, none⟩) (done.length + 1) cap)) (some RB)) ∧ w2.heap.size + 1 ≤ (w7.setCell ⟨w2.heap.size, 1, none⟩ (.slice (some ⟨gg, 0, none⟩) (done.length + 1) cap)).heap.size ∧ Hid (Rdr w0 (w7.setCell ⟨w2.heap.size, 1, none⟩ (.slice (some ⟨gg, 0, none⟩) (done.length + 1) cap)) RB w1.heap.size cr rem) := by
  have hrow := World.ownsRow.lt HO
  have s1 := g1.size
  have s2 := hgrow.size
  rw [World.size_alloc] at s2
  have gs := grown_set w7 w2.heap.size 1 (.slice (some ⟨gg, 0, none⟩) (done.length + 1) cap)
  have hso : SpansOut (w2.heap.size + 1) w7 (.slice (some ⟨gg, 0, none⟩) (done.length + 1) cap) (done ++ [(vx, vy)]) := by
    unfold SpansOut
    simpa [spanCells] using hown1
  refine ⟨done ++ [(vx, vy)], r, some ⟨gg, 0, none⟩, cap, HP2, by simp; omega, ?_, ?_, ?_, ?_, by simp; omega, ?_⟩
  · have b := (((KB.far2 g1 (fun j e => by cases e; omega)).alloc (.cells #[.int .i64 vx, .int .i64 vy] 43)).far2 hgrow (fun j e => by have := (hrow j e).1; omega)).set_ 1 (.slice (some ⟨gg, 0, none⟩) (done.length + 1) cap)
    simpa using b
  · exact (((KR.far2 g1 (fun j e => by cases e; omega)).alloc (.cells #[.int .i64 vx, .int .i64 vy] 43)).far2 hgrow (fun j e => by have := (hrow j e).1; omega)).far2 gs (fun j e => by cases e; omega)
  · have b := hso.far gs (fun j e => by cases e; omega)
    show SpansOut _ _ _ _
    rw [List.length_append, List.length_singleton]
    exact b
  · exact (((HG.trans g1).trans (World.grownBy_alloc _ _ _)).andThen hgrow (fun j e => .inl (by have := (hrow j e).1; omega))).andThen gs (fun j e => .inl (by cases e; omega))
  · exact ((hr4.on ((Below.refl _ w4).alloc (Nat.le_refl _) _)).far hgrow (fun j e => by have := (hrow j e).1; omega)).far gs (fun j e => by cases e; omega)

theorem kind_left {w0 w1 w2 w3 w4 w7 : World} {RB : Nat} {cr : ByteArray} {r : List ByteArray} {done : List (Int × Int)} {va : Option Addr} {vc gg cap : Nat} {vx vy : Int} (h12 : w1.heap.size ≤ w2.heap.size) (hRB : RB < w2.heap.size)
    (HO : SpansOut (w2.heap.size + 1) w3 (.slice va done.length vc) done) (hr4 : Rdr w0 w4 RB w1.heap.size cr r)
    (hgrow : (w4.alloc (.cells #[.int .i64 vx, .int .i64 vy] 43)).grownBy w7 (Value.ownBlock (.slice va done.length vc))) :
    wordsLeft (w7.setCell ⟨w2.heap.size, 1, none⟩ (.slice (some ⟨gg, 0, none⟩) (done.length + 1) cap)) RB = r.length := by
  have hrow := World.ownsRow.lt HO
  exact (((hr4.on ((Below.refl _ w4).alloc (Nat.le_refl _) _)).far hgrow (fun j e => by have := (hrow j e).1; omega)).far (grown_set w7 w2.heap.size 1 (.slice (some ⟨gg, 0, none⟩) (done.length + 1) cap)) (fun j e => by cases e; omega)).left

set_option maxRecDepth 100000 in
set_option maxHeartbeats 4000000 in
theorem kind_loop {w0 w : World} {RB UB : Nat} {rest cr a : ByteArray} {ws wv : List ByteArray} (h : Rdr w0 w RB UB rest ws) (hc : cutB rest = true) (hcr : cutR rest = cr) (hwv : wordsV (cutF rest) = a :: wv) (R : Option ((ByteArray × List (Int × Int)) × ByteArray × List ByteArray)) (hR : R = (spansW wv).map fun l => ((a, l), cr, [])) :
    Calls Tryz.prog 51 #[.pointer (some ⟨RB, 0, none⟩)] w (RdOut w0 w RB (fun x w' v => ∃ s, v = .agg #[.string x.1, s] ∧ SpansOut w.heap.size w' s x.2) R) := by
  obtain ⟨i0, hi0, hz0, hz1, hz2⟩ := info_parts infoSp
  have hRB : RB < w.heap.size := by
    obtain ⟨A, c, hB, _, _⟩ := h.at_
    exact hB.lt
  have HN := nextLine_some (h.on ((Below.refl _ w).alloc (Nat.le_refl _) (.cells #[.string ⟨#[]⟩, .slice none 0 0] 51))) hc
  rw [hcr, hwv] at HN
  have HN := Lib.hid HN
  have HRR := Lib.hid hR
  clear h hc hcr hwv hR
  go_enter Tryz.func51, Tryz.ntmps51
  go_wp2_with fail
  refine HN.out.mono ?_
  rintro e w1 ⟨rfl, hg, hr⟩
  have K1 := (Blk.new w 51 #[.string ⟨#[]⟩, .slice none 0 0]).far2 hg (fun j e => by cases e; omega)
  go_wp2_with fail
  refine (word_some hr).mono ?_
  rintro e w2 ⟨rfl, hg2, hr2⟩
  have K2 := K1.far2 hg2 (fun j e => by cases e; omega)
  have KR := Lib.hid K2
  have h01 := hg.size
  have h12 := hg2.size
  simp only [World.size_alloc] at h01
  have hlw := hr2.len
  have HR2 := Lib.hid (hr2.on ((Below.refl _ w2).alloc (Nat.le_refl _) (.cells #[.string a, .slice none 0 0] 51)))
  have HG := Lib.hid ((((World.grownBy_alloc w (.cells #[.string ⟨#[]⟩, .slice none 0 0] 51) (some RB)).trans hg).trans hg2).trans (World.grownBy_alloc w2 (.cells #[.string a, .slice none 0 0] 51) (some RB)))
  clear K1 K2 hg hg2 hr hr2 HN
  go_wp2_with fail
  go_loopw [4] (fun _ wr => ∃ done rem va vc, Hid (spansW wv = (spansW rem).map (done ++ ·)) ∧ 2 * done.length + rem.length ≤ wv.length ∧ Blk wr w2.heap.size 51 #[.string a, .slice va done.length vc] ∧ Hid (Blk wr w.heap.size 51 #[.string ⟨#[]⟩, .slice none 0 0]) ∧ Hid (SpansOut (w2.heap.size + 1) wr (.slice va done.length vc) done) ∧ Hid (w.grownBy wr (some RB)) ∧ w2.heap.size + 1 ≤ wr.heap.size ∧ Hid (Rdr w0 wr RB w1.heap.size cr rem)) (fun _ wr => wordsLeft wr RB)
  case atStart => exact ⟨[], wv, none, 0, by show _ = _; simp, by simp, Blk.new _ _ _, KR.out.alloc _, World.ownsRow_nil _ _ _ _, HG.out, by simp, HR2.out⟩
  case round =>
    obtain ⟨done, rem, va, vc, HP, hlen, KB, HKR, HO, HGr, h2r, HRr⟩ := hrel
    obtain ⟨A, c, hB, _, hcc⟩ := HRr.out.at_
    obtain ⟨r0, r1, r2, r3, r4⟩ := hB.two
    have hml := HRr.out.left
    have hsz := HGr.out.size
    have HKB := Lib.hid KB
    clear hB KB
    rcases rem with _ | ⟨x, rem2⟩
    · rw [List.length_nil] at r1
      obtain ⟨k0, k1, k2, k3, k4⟩ := HKB.out.two
      obtain ⟨j0, j1, j2, j3, j4⟩ := HKR.out.two
      have HP2 := Lib.hid (show R = some ((a, done), cr, []) by rw [HRR.out, HP.out]; simp [spansW])
      have hbw : w.grownBy ((wr.setCell ⟨w.heap.size, 0, none⟩ (.string a)).setCell ⟨w.heap.size, 1, none⟩ (.slice va done.length vc)) (some RB) := (HGr.out.andThen (grown_set wr w.heap.size 0 (.string a)) (fun j e => by cases e; exact .inl (Nat.le_refl _))).andThen (grown_set _ w.heap.size 1 (.slice va done.length vc)) (fun j e => by cases e; exact .inl (Nat.le_refl _))
      have hrE : Rdr w0 ((wr.setCell ⟨w.heap.size, 0, none⟩ (.string a)).setCell ⟨w.heap.size, 1, none⟩ (.slice va done.length vc)) RB 0 cr [] := by
        have hx := ((HRr.out.low).far (grown_set wr w.heap.size 0 (.string a)) (fun j e => by cases e; exact ⟨Nat.zero_le _, hRB⟩)).far (grown_set _ w.heap.size 1 (.slice va done.length vc)) (fun j e => by cases e; exact ⟨Nat.zero_le _, hRB⟩)
        exact hx
      have hso : SpansOut w.heap.size ((wr.setCell ⟨w.heap.size, 0, none⟩ (.string a)).setCell ⟨w.heap.size, 1, none⟩ (.slice va done.length vc)) (.slice va done.length vc) done := ((HO.out.far (grown_set wr w.heap.size 0 (.string a)) (fun j e => by cases e; omega)).far (grown_set _ w.heap.size 1 (.slice va done.length vc)) (fun j e => by cases e; omega)).base (by omega)
      have HE := Lib.hid (⟨hbw, hrE, hso⟩ : _ ∧ _ ∧ _)
      clear hbw hrE hso
      go_wp2_with fail
      rw [HP2.out]
      refine bodyPost_ret (v := .agg #[.string a, .slice va done.length vc]) ?_ rfl ⟨_, _, rfl, ⟨_, rfl, HE.out.2.2⟩, HE.out.1, HE.out.2.1⟩
      simp [results, Tryz.results51, go_sem, *]
    · rw [List.length_cons] at r1 hlen hml
      have hpos : (0 : Int) < (rem2.length : Int) + 1 := by omega
      cases hx : numV x with
      | none =>
        have HX := Lib.hid (number_stop HRr.out hx)
        have HP2 := Lib.hid (show R = none by
          rw [HRR.out, HP.out]
          rcases rem2 with _ | ⟨y, r⟩
          · rfl
          · simp only [spansW]; rw [hx]; rfl)
        go_wp2_with fail
        refine HX.out.mono ?_
        rintro e w3 ⟨rfl, hg3⟩
        go_wp2_with fail
        rw [HP2.out]
        exact ⟨rfl, rfl, HGr.out.trans hg3⟩
      | some vx =>
        have HX := Lib.hid (number_some HRr.out hx)
        go_wp2_with fail
        refine HX.out.mono ?_
        rintro e w3 ⟨rfl, hg3, hr3⟩
        have hne : ∀ j, some RB = some j → j ≠ w2.heap.size := fun j e => by cases e; omega
        have KB3 := Lib.hid (HKB.out.far2 hg3 hne)
        have HR3 := Lib.hid hr3
        have HG3 := Lib.hid (HGr.out.trans hg3)
        have HO3 := Lib.hid (HO.out.far hg3 (fun j e => by cases e; omega))
        have HKR3 := Lib.hid (HKR.out.far2 hg3 (fun j e => by cases e; omega))
        have h33 := hg3.size
        clear hg3 hr3 HX HKB HRr HGr HO HKR r0 r1 r2 r3 r4
        obtain ⟨k0, k1, k2, k3, k4⟩ := KB3.out.two
        rcases rem2 with _ | ⟨y, r⟩
        · have HN3 := Lib.hid (number_none (HR3.out.on ((Below.refl _ w3).drew)))
          have HP2 := Lib.hid (show R = none by rw [HRR.out, HP.out]; rfl)
          go_wp2_with fail
          go_region_dies
          all_goals (refine HN3.out.mono ?_; rintro e w4 ⟨rfl, hg4⟩; have hgg : w.grownBy w4 (some RB) := HG3.out.trans ⟨hg4.os, hg4.tape, hg4.output, hg4.size, hg4.block⟩; go_wp2_with fail; rw [HP2.out]; exact ⟨rfl, rfl, hgg⟩)
        · cases hy : numV y with
          | none =>
            have HN3 := Lib.hid (number_stop (HR3.out.on ((Below.refl _ w3).drew)) hy)
            have HP2 := Lib.hid (show R = none by rw [HRR.out, HP.out]; simp only [spansW]; rw [hx, hy]; rfl)
            go_wp2_with fail
            go_region_dies
            all_goals (refine HN3.out.mono ?_; rintro e w4 ⟨rfl, hg4⟩; have hgg : w.grownBy w4 (some RB) := HG3.out.trans ⟨hg4.os, hg4.tape, hg4.output, hg4.size, hg4.block⟩; go_wp2_with fail; rw [HP2.out]; exact ⟨rfl, rfl, hgg⟩)
          | some vy =>
            have HN3 := Lib.hid (number_some (HR3.out.on ((Below.refl _ w3).drew)) hy)
            have HP2 := Lib.hid (show spansW wv = (spansW r).map ((done ++ [(vx, vy)]) ++ ·) by
              rw [HP.out]
              simp only [spansW]
              rw [hx, hy]
              cases spansW r <;> simp)
            rw [List.length_cons] at hlen hml
            have aX : some w2.heap.size ≠ Value.ownBlock (.slice va done.length vc) := fun e => by have := (World.ownsRow.lt HO3.out _ e.symm).1; omega
            have aR : some w2.heap.size ≠ some RB := fun e => by cases e; omega
            have HNN := Lib.hid (⟨by unfold maxLen; omega, by omega⟩ : done.length + 1 ≤ maxLen ∧ (done.length + 1) * 16 ≤ 140737488355328)
            clear hpos
            go_wp2_with fail
            go_region_law (first | (go_simp; refine HN3.out.mono ?_; rintro e w4 ⟨rfl, hg4, hr4⟩; have hs4 := hg4.size; have ck4 : w4.cell? ⟨w2.heap.size, 1, none⟩ = some (.slice va done.length vc) := (hg4.cell_far ⟨w2.heap.size, 1, none⟩ (by simpa using k4) aR).trans (by simpa using k1); have fk4 : w4.frozen? ⟨w2.heap.size, 1, none⟩ = false := (hg4.frozen_far ⟨w2.heap.size, 1, none⟩ (by simpa using k4) aR).trans (by simpa using k3); have hlt4 : w2.heap.size < w4.heap.size := Nat.lt_of_lt_of_le k4 hs4) | (refine step_append_lies _ (by rfl) _ _ _ (by rfl) (w2.heap.size + 1) 43 i0 (.agg #[.int .i64 0, .int .i64 0]) 2 16 Tryz.underlying49 hi0 hz0 hz1 hz2 rfl (by omega) (.slice va done.length vc) done.length (spanCells done) (by rfl) (World.ownsRow.alloc (SpansOut.far HO3.out (grown_undrew hg4) (by intro j e; cases e; omega)) _) ⟨w4.heap.size, 0, none⟩ 1 1 [.int .i64 vx, .int .i64 vy] (by rfl) (by rfl) (World.news_of_block (cs := #[.int .i64 vx, .int .i64 vy]) (t := 43) (fr := (0, 0)) (new_two _ _ _ _ _ rfl)) (by simp [Value.oneCell']) (by omega) HNN.out.1 HNN.out.2 (by simp; omega) (w4.heap.size + 1) (by simp) ?_; intro gg cap w7 hown1 hgrow hat hglt; have ck7 : w7.cell? ⟨w2.heap.size, 1, none⟩ = some (.slice va done.length vc) := (hgrow.cell_far ⟨w2.heap.size, 1, none⟩ (by rw [World.size_alloc]; exact Nat.lt_succ_of_lt hlt4) aX).trans ((((Below.refl _ w4).alloc (Nat.le_refl _) _).cell (p := ⟨w2.heap.size, 1, none⟩) hlt4).trans ck4); have fk7 : w7.frozen? ⟨w2.heap.size, 1, none⟩ = false := (hgrow.frozen_far ⟨w2.heap.size, 1, none⟩ (by rw [World.size_alloc]; exact Nat.lt_succ_of_lt hlt4) aX).trans ((((Below.refl _ w4).alloc (Nat.le_refl _) _).frozen (p := ⟨w2.heap.size, 1, none⟩) hlt4).trans fk4)) | fail)
            all_goals (have HW4 := Lib.hid (And.intro hg4 (And.intro hr4 (And.intro hown1 hgrow))); have hs7 := hgrow.size; rw [World.size_alloc] at hs7; clear hg4 hr4 hown1 hgrow ck4 fk4 ck7 fk7 hat k0 k1 k2 k3)
            all_goals go_wp2_with fail
            all_goals go_roundw
            all_goals first
              | (obtain ⟨hg4, hr4, hown1, hgrow⟩ := HW4.out; exact kind_rel h01 h12 hRB (by omega) hlen HP2 KB3.out HKR3.out HO3.out HG3.out hr4 (grown_undrew hg4) hown1 hgrow)
              | (obtain ⟨hg4, hr4, hown1, hgrow⟩ := HW4.out; rw [kind_left h12 (show RB < w2.heap.size by omega) HO3.out hr4 hgrow, hml]; omega)
end Go.Proofs.YthihpggjglghoaaGreatDoor
