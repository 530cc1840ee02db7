/- slices.Insert of one int at the front of a slice of the call's own: contract. -/
import Derived.Test.YtljbjcnfkbmjkaaMeC
import Derived.Test.YtljbjcnfkbmjkaaGb
import Derived.Laws.CopyOwn
namespace Go.Proofs.Ytljbjcnfkbmjkaa
open Go.RowKit Go.Shelf

/-- Cells stored one behind another. -/
theorem blk_sets {g : Nat} {T : TypeId} : ∀ (vs : List Value) (o : Nat) (cur : Array Value) (W : World), Blk W g T cur → o + vs.length ≤ cur.size → Blk (W.setCells g o vs) g T (splice cur.toList o vs).toArray
  | [], o, cur, W, h, _ => by simpa [World.setCells, splice] using h
  | v :: r, o, cur, W, h, hl => by
    have h1 := blk_sets r (o + 1) (cur.setIfInBounds o v) (W.setCell ⟨g, o, none⟩ v) (h.set_ o v) (by simp at hl ⊢; omega)
    have e := list_seg_step cur.toList o v r (by simp at hl ⊢; omega)
    rw [World.setCells]
    have e2 : (splice (cur.setIfInBounds o v).toList (o + 1) r) = splice cur.toList o (v :: r) := by
      unfold splice
      rw [Array.toList_setIfInBounds]
      simpa using e
    rw [e2] at h1
    exact h1
theorem below_sets {B g : Nat} {w : World} (hg : B ≤ g) : ∀ (vs : List Value) (o : Nat) (W : World), Below B w W → Below B w (W.setCells g o vs)
  | [], _, _, h => h
  | _ :: r, o, _, h => below_sets hg r (o + 1) _ (h.setCell hg _)
theorem take_A {L cs : List Value} {x : Value} (h : 1 + cs.length ≤ L.length) : (splice (splice L 1 cs) 0 [x]).take ((cs.length + 1) * 1) = x :: cs := by
  match L, h with
  | a :: L, h => simp [splice]
  | [], h => simp at h
theorem take_B {L cs : List Value} {x : Value} (h : 1 + cs.length ≤ L.length) : (splice (splice L 0 [x]) 1 cs).take ((cs.length + 1) * 1) = x :: cs := by
  match L, h with
  | a :: L, h => simp [splice]
  | [], h => simp at h
theorem splice_len {L cs : List Value} {o : Nat} (h : o + cs.length ≤ L.length) : (splice L o cs).length = L.length := length_splice L o cs h
set_option maxRecDepth 100000 in
set_option maxHeartbeats 1000000 in
theorem insert_any {w : World} {B : Nat} {v : Value} {l : List Int} {x : Int} {vb : Nat} (hown : IntsOut B w v l) (hB : B ≤ w.heap.size) (hvb : Blk w vb 3 #[.int .i64 x]) (hne : v.ownBlock ≠ some vb) (h40 : l.length ≤ 40) (hnil : l = [] → v = .slice none 0 0) :
    Calls Try.prog 81 #[v, .int .i64 0, .slice (some ⟨vb, 0, none⟩) 1 1] w fun e w' => ∃ v', e = .returned v' ∧ IntsOut B w' v' (x :: l) ∧ Below B w w' := by
  have hvs : ∀ j u, ([Value.int .i64 x] : List Value)[j]? = some u → w.cell? ⟨vb, 0 + j, none⟩ = some u := by
    intro j u hj
    match j, hj with
    | 0, hj => simp at hj; subst hj; exact hvb.cell 0
  have h1v : ∀ u ∈ ([Value.int .i64 x] : List Value), u.oneCell' = true := by simp [Value.oneCell']
  by_cases h0 : l = []
  · subst h0
    obtain rfl := hnil rfl
    refine (Any2.slices_Insert_int_end_grow insA none 0 0 vb 0 1 1 [] [.int .i64 x] w (by decide) (by decide) (by decide) (by decide) rfl rfl (fun _ => rfl) (fun a h => by cases h) hvs h1v).mono ?_
    rintro e w' ⟨rfl, rfl⟩
    refine ⟨_, rfl, ⟨rfl, .inr ⟨w.heap.size, _, _, rfl, hB, Blk.new w.drew _ _, ?_⟩⟩, ((Below.refl _ w).drew.alloc hB _)⟩
    have hge := grownCap_ge w (0 + 1) 0 (insRen.t 3)
    refine ⟨hge, grownCap_le_maxLen w (0 + 1) 0 (insRen.t 3) (by decide), ?_, by simp⟩
    generalize grownCap w (0 + 1) 0 (insRen.t 3) = cap at *
    rw [Array.size_append, size_zeroCells]
    show 1 + (cap - (0 + 1)) * 1 = cap * 1
    omega
  · have hn0 : 0 < l.length := List.length_pos_iff.2 h0
    have h1c : ∀ u ∈ l.map (Value.int .i64), u.oneCell' = true := by simp [Value.oneCell']
    have hcl : (l.map (Value.int .i64)).length = l.length := by simp
    rcases hown.2 with ⟨_, h2⟩ | ⟨g, cap, cur, rfl, hg, hh, hle, hcap, hsz, htake⟩
    · omega
    · rw [Nat.mul_one] at hsz htake
      have hblk : Blk w g 3 cur := hh
      have hcs : ∀ j u, (l.map (Value.int .i64))[j]? = some u → w.cell? ⟨g, 0 + j, none⟩ = some u := by
        intro j u hj
        rw [← htake, List.getElem?_take] at hj
        split at hj
        · rw [Nat.zero_add, hblk.cell, ← Array.getElem?_toList]; exact hj
        · cases hj
      have hvg : vb ≠ g := fun e => hne (by rw [e]; rfl)
      by_cases hroom : l.length + 1 ≤ cap
      · have hcur : 1 + (l.map (Value.int .i64)).length ≤ cur.toList.length := by rw [hcl, Array.length_toList (xs := cur)]; omega
        refine (Any2.slices_Insert_int_shift insA g 0 l.length cap 0 vb 0 1 1 (l.map (Value.int .i64)) [.int .i64 x] w hn0 (by decide) hroom (by unfold maxLen at hcap; omega) hvg hcl rfl hcs ?_ ?_ hvs h1c h1v 3 3 1 cur.size ?_ ?_ (by omega) (hvb.frozen 0) (hvb.frozen 1)).mono ?_
        · intro j hj
          rw [Nat.zero_add, hblk.cell, Array.getElem?_eq_getElem (by omega)]; rfl
        · intro j hj
          exact hblk.frozen _
        · unfold World.shape?; rw [show w.heap[vb]? = _ from hvb]; rfl
        · unfold World.shape?; rw [hh]
        · rintro e w' ⟨rfl, rfl⟩
          have q1 : 1 + (l.map (Value.int .i64)).length ≤ cur.size := by rw [hcl]; omega
          have hb1 := blk_sets (l.map (Value.int .i64)) 1 cur w.drew hblk q1
          have q2 : 0 + ([Value.int .i64 x] : List Value).length ≤ (splice cur.toList 1 (l.map (Value.int .i64))).length := by
            rw [splice_len hcur, Array.length_toList]
            show 0 + 1 ≤ cur.size
            omega
          have hb2 := blk_sets [.int .i64 x] 0 _ _ hb1 q2
          refine ⟨_, rfl, ⟨by simp, .inr ⟨g, cap, _, rfl, hg, hb2, hroom, hcap, ?_, ?_⟩⟩, below_sets hg _ _ _ (below_sets hg _ _ _ ((Below.refl _ w).mono hB).drew)⟩
          · simp only [List.size_toArray, Nat.mul_one]
            rw [splice_len q2, splice_len hcur, Array.length_toList]
            exact hsz
          · have ht := take_A (x := .int .i64 x) hcur
            rw [hcl] at ht
            simpa using ht
      · have hbig : (l.length + 1) * 8 ≤ 140737488355328 := by omega
        refine (Any2.slices_Insert_int_grow insA g 0 l.length cap 0 vb 0 1 1 (l.map (Value.int .i64)) [.int .i64 x] w hn0 (by decide) hle (by omega) hbig hcl rfl hcs hvs h1c h1v).mono ?_
        rintro e w' ⟨rfl, rfl⟩
        have hge := grownCap_ge w (l.length + 1) cap (insRen.t 3)
        have hcm := grownCap_le_maxLen w (l.length + 1) cap (insRen.t 3) (by unfold maxLen; omega)
        generalize grownCap w (l.length + 1) cap (insRen.t 3) = cap2 at *
        have hzs : (((l.map (Value.int .i64)).take 0).toArray ++ Builtin.zeroCells (Value.int .i64 0).cells (l.length + 1 - 0) ++ Builtin.zeroCells (Value.int .i64 0).cells (cap2 - (l.length + 1))).size = cap2 := by
          simp [size_zeroCells, Value.cells]; omega
        generalize (((l.map (Value.int .i64)).take 0).toArray ++ Builtin.zeroCells (Value.int .i64 0).cells (l.length + 1 - 0) ++ Builtin.zeroCells (Value.int .i64 0).cells (cap2 - (l.length + 1))) = Z at *
        have hz0 : 0 + ([Value.int .i64 x] : List Value).length ≤ Z.toList.length := by
          rw [Array.length_toList]
          show 0 + 1 ≤ Z.size
          omega
        have hz1 : 1 + (l.map (Value.int .i64)).length ≤ Z.toList.length := by rw [hcl, Array.length_toList (xs := Z)]; omega
        have hz2 : 1 + (l.map (Value.int .i64)).length ≤ (splice Z.toList 0 [.int .i64 x]).length := by rw [splice_len hz0]; exact hz1
        have hb0 : Blk (w.alloc (.cells Z 3)).drew w.heap.size 3 Z := Blk.new w 3 Z
        have hb1 : Blk ((w.alloc (.cells Z 3)).drew.setCells w.heap.size 0 [.int .i64 x]).drew w.heap.size 3 (splice Z.toList 0 [.int .i64 x]).toArray := blk_sets [.int .i64 x] 0 Z _ hb0 hz0
        have hb2 := blk_sets (l.map (Value.int .i64)) 1 _ _ hb1 hz2
        refine ⟨_, rfl, ⟨by simp, .inr ⟨w.heap.size, cap2, _, rfl, hB, hb2, hge, hcm, ?_, ?_⟩⟩, below_sets hB _ _ _ (below_sets hB _ _ _ (((Below.refl _ w).mono hB).alloc hB _).drew).drew⟩
        · simp only [List.size_toArray, Nat.mul_one]
          rw [splice_len hz2, splice_len hz0, Array.length_toList]
          exact hzs
        · have ht := take_B (x := .int .i64 x) hz1
          rw [hcl] at ht
          simpa using ht
end Go.Proofs.Ytljbjcnfkbmjkaa
