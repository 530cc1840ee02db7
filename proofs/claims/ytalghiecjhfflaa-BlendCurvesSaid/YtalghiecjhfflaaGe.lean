/- Layer blend, a part: ranges, curves. No statement is proved here. -/
import Derived.Test.YtalghiecjhfflaaGc
import Derived.Test.YtalghiecjhfflaaGa
import Derived.Test.YtalghiecjhfflaaGd
namespace Go.Proofs.Ytalghiecjhfflaa
open Go.RowKit Go.Shelf Go.Maps
attribute [local go_sem] Oper.semAt_some

/-- Boxes of a call's own, and what was there ahead of it. -/
structure Bx (w : World) (l : List (Nat × TypeId × Array Value)) (W : World) : Prop where
  b : Below w.heap.size w W
  at_ : ∀ q ∈ l, w.heap.size ≤ q.1 ∧ Blk W q.1 q.2.1 q.2.2
theorem Bx.nil (w : World) : Bx w [] w := ⟨Below.refl _ _, fun _ h => by cases h⟩
theorem Bx.on {w W W' : World} {l : List (Nat × TypeId × Array Value)} (h : Bx w l W) (hb : Below W.heap.size W W') : Bx w l W' := ⟨h.b.trans (hb.mono h.b.size), fun q hq => ⟨(h.at_ q hq).1, (h.at_ q hq).2.on hb⟩⟩
theorem Bx.drew {w W : World} {l : List (Nat × TypeId × Array Value)} (h : Bx w l W) : Bx w l W.drew := h.on (Below.refl _ _).drew
theorem Bx.drewN {w W : World} {l : List (Nat × TypeId × Array Value)} (h : Bx w l W) (n : Nat) : Bx w l (W.drewN n) := h.on (below_drewN' (Below.refl _ _) n)
theorem Bx.alloc {w W : World} {l : List (Nat × TypeId × Array Value)} (h : Bx w l W) (cs : Array Value) (T : TypeId) : Bx w ((W.heap.size, T, cs) :: l) (W.alloc (.cells cs T)) := by
  have hb : Below W.heap.size W (W.alloc (.cells cs T)) := (Below.refl _ W).alloc (Nat.le_refl _) _
  refine ⟨h.b.trans (hb.mono h.b.size), fun q hq => ?_⟩
  rcases List.mem_cons.1 hq with rfl | hq
  · exact ⟨h.b.size, Blk.new _ _ _⟩
  · exact ⟨(h.at_ q hq).1, (h.at_ q hq).2.on hb⟩
theorem Bx.get {w W : World} {l : List (Nat × TypeId × Array Value)} (h : Bx w l W) {g : Nat} {T : TypeId} {cs : Array Value} (hm : (g, T, cs) ∈ l) : Blk W g T cs := (h.at_ _ hm).2
theorem Bx.put {w W W' : World} {l : List (Nat × TypeId × Array Value)} (h : Bx w l W) {G : Nat} (hg : W.grownBy W' (some G)) (hG : w.heap.size ≤ G) (hn : ∀ q ∈ l, q.1 ≠ G) : Bx w l W' :=
  ⟨h.b.grown hg h.b.size (fun k e => by cases e; exact hG), fun q hq => ⟨(h.at_ q hq).1, (hg.block _ (h.at_ q hq).2.lt (fun e => hn q hq (by simpa using e))).trans (h.at_ q hq).2⟩⟩
theorem Bx.add {w W : World} {l : List (Nat × TypeId × Array Value)} (h : Bx w l W) {g : Nat} {T : TypeId} {cs : Array Value} (hk : Blk W g T cs) (hg : w.heap.size ≤ g) : Bx w ((g, T, cs) :: l) W :=
  ⟨h.b, fun q hq => by
    rcases List.mem_cons.1 hq with rfl | hq
    · exact ⟨hg, hk⟩
    · exact h.at_ q hq⟩

/-- What was there stands, and so much memory there is. -/
structure SB (w : World) (N : Nat) (W : World) : Prop where
  b : Below w.heap.size w W
  n : N ≤ W.heap.size
theorem SB.on {w W W' : World} {N : Nat} (h : SB w N W) (hb : Below W.heap.size W W') : SB w N W' := ⟨h.b.trans (hb.mono h.b.size), Nat.le_trans h.n hb.size⟩
theorem SB.put {w W W' : World} {N G : Nat} (h : SB w N W) (hg : W.grownBy W' (some G)) (hG : w.heap.size ≤ G) : SB w N W' := ⟨h.b.grown hg h.b.size (fun k e => by cases e; exact hG), Nat.le_trans h.n hg.size⟩

/-- One cell of a box is laid anew, two cells. -/
theorem Bx.perm {w W : World} {l l2 : List (Nat × TypeId × Array Value)} (h : Bx w l W) (hs : ∀ q ∈ l2, q ∈ l) : Bx w l2 W := ⟨h.b, fun q hq => h.at_ q (hs q hq)⟩
theorem Bx.lay1 {w W : World} {g : Nat} {T : TypeId} {cs : Array Value} {l : List (Nat × TypeId × Array Value)} (h : Bx w ((g, T, cs) :: l) W) (i : Nat) (u : Value) (hn : ∀ q ∈ l, q.1 ≠ g) :
    Bx w ((g, T, cs.setIfInBounds i u) :: l) (W.setCell ⟨g, i, none⟩ u) :=
  have ht : Bx w l W := ⟨h.b, fun r hr => h.at_ r (List.mem_cons_of_mem _ hr)⟩
  (ht.put (grown_one W g i u) (h.at_ _ List.mem_cons_self).1 hn).add (((h.at_ _ List.mem_cons_self).2).set_ i u) (h.at_ _ List.mem_cons_self).1
theorem Blk.newat {W : World} {g : Nat} {T : TypeId} {cs : Array Value} (h : g = W.heap.size) : Blk (W.alloc (.cells cs T)) g T cs := by subst h; exact Blk.new _ _ _
set_option maxRecDepth 100000 in
set_option maxHeartbeats 1000000 in
theorem within_any {w : World} (a b : Int) {A : Option Addr} {c : Nat} {l : List Int} (h : IntsIn w A l) :
    Calls Try.prog 48 #[.int .i64 a, .int .i64 b, .slice A l.length c] w fun e w' => e = .returned (.bool (allB a b l)) ∧ w' = w := by
  have HI := Lib.hid h
  have hl := h.len
  clear h
  go_enter Try.func48, Try.ntmps48
  go_wp2_with fail
  go_loop [11] (fun i => ∃ k : Nat, k ≤ l.length ∧ i = .int .i64 k ∧ Hid (allB a b (l.drop k) = allB a b l)) (fun i => l.length - (intOf i).toNat)
  case atStart => exact ⟨0, by omega, rfl, rfl⟩
  case round =>
    obtain ⟨k, hk, rfl, HR⟩ := hrel
    by_cases hlt : k < l.length
    · obtain ⟨x, hx⟩ : ∃ x, l[k]? = some x := ⟨l[k], List.getElem?_eq_getElem hlt⟩
      obtain ⟨bb, o, rfl, _, hcell⟩ := ints_at HI.out.at_ hx
      have hd : l.drop k = x :: l.drop (k + 1) := drop_at hx
      have HD := Lib.hid (show allB a b l = (inB x a b && allB a b (l.drop (k + 1))) by rw [← HR.out, hd, allB_cons])
      clear hx hd HR
      by_cases h1 : x < a
      · have H := Lib.hid (show allB a b l = false by rw [HD.out, inB_f (by omega)]; rfl)
        clear HD
        go_wp2_with fail
        go_ret
        exact ⟨ret_bool H.out.symm, rfl⟩
      · by_cases h2 : b < x
        · have H := Lib.hid (show allB a b l = false by rw [HD.out, inB_f (by omega)]; rfl)
          clear HD
          go_wp2_with fail
          go_ret
          exact ⟨ret_bool H.out.symm, rfl⟩
        · have H := Lib.hid (show allB a b (l.drop (k + 1)) = allB a b l by rw [HD.out, inB_t (by omega) (by omega)]; rfl)
          clear HD
          go_wp2_with fail
          go_round
          case rel => exact ⟨k + 1, Nat.succ_le_of_lt hlt, by go_num, H⟩
          case measure => exact meas_one hlt
    · have H := Lib.hid (show allB a b l = true by rw [← HR.out, List.drop_eq_nil_of_le (by omega)]; rfl)
      clear HR
      go_wp2_with fail
      go_ret
      exact ⟨ret_bool H.out.symm, rfl⟩
end Go.Proofs.Ytalghiecjhfflaa

namespace Go.Proofs.Ytalghiecjhfflaa
open Go.RowKit Go.Shelf Go.Maps
attribute [local go_sem] Oper.semAt_some

theorem ints1_at {w : World} {g : Nat} {a : Int} (h : g = w.heap.size) : IntsIn (w.alloc (.cells #[.int .i64 a] 3)) (some ⟨g, 0, none⟩) [a] := ints_blk (Blk.newat h) rfl (by simp)
theorem ints2_at {w : World} {g : Nat} {a b : Int} (h : g = w.heap.size) : IntsIn (w.alloc (.cells #[.int .i64 a, .int .i64 b] 3)) (some ⟨g, 0, none⟩) [a, b] := ints_blk (Blk.newat h) rfl (by simp)
def spanB (m : Int) (x : Int × Int) : Bool := allB 0 m [x.1, x.2]
def spansB (m : Int) (l : List (Int × Int)) : Bool := l.all (spanB m)
theorem spansB_cons (m : Int) (x : Int × Int) (l : List (Int × Int)) : spansB m (x :: l) = (spanB m x && spansB m l) := by simp [spansB]
set_option maxRecDepth 100000 in
set_option maxHeartbeats 1000000 in
theorem spanWithin_any {w : World} (m : Int) {A : Option Addr} {c : Nat} {l : List (Int × Int)} (h : SpansIn w A l) :
    Calls Try.prog 82 #[.int .i64 m, .slice A l.length c] w fun e w' => e = .returned (.bool (spansB m l)) ∧ Below w.heap.size w w' := by
  have HI := Lib.hid h
  have hl := h.len
  clear h
  go_enter Try.func82, Try.ntmps82
  go_wp2_with fail
  go_loopw [9] (fun i W => ∃ k : Nat, k ≤ l.length ∧ i = .int .i64 k ∧ Hid (spansB m (l.drop k) = spansB m l) ∧ Hid (Below w.heap.size w W)) (fun i _ => l.length - (intOf i).toNat)
  case atStart => exact ⟨0, by omega, rfl, rfl, Below.refl _ _⟩
  case round =>
    obtain ⟨k, hk, rfl, HR, HB⟩ := hrel
    by_cases hlt : k < l.length
    · obtain ⟨x, hx⟩ : ∃ x, l[k]? = some x := ⟨l[k], List.getElem?_eq_getElem hlt⟩
      obtain ⟨bb, o, rfl, _, c0, c1⟩ := spans_at (HI.out.on HB.out).at_ hx
      have HD := Lib.hid (show spansB m l = (spanB m x && spansB m (l.drop (k + 1))) by rw [← HR.out, drop_at hx, spansB_cons])
      have HZ := Lib.hid (show allB 0 m [x.1, x.2] = spanB m x from rfl)
      clear hx HR
      cases hz : spanB m x with
      | false =>
        have H := Lib.hid (show spansB m l = false by rw [HD.out, hz]; rfl)
        rw [hz] at HZ
        clear HD hz
        go_wp2_with (first
          | (go_at_call 48; (refine (within_any 0 m (c := 2) (l := [x.1, x.2]) (ints2_at (by simp))).mono ?_); rintro e w2 ⟨rfl, rfl⟩; rw [HZ.out])
          | fail)
        go_ret
        exact ⟨ret_bool H.out.symm, (HB.out.alloc HB.out.size _).alloc (by have := HB.out.size; simp; omega) _⟩
      | true =>
        have H := Lib.hid (show spansB m (l.drop (k + 1)) = spansB m l by rw [HD.out, hz]; rfl)
        rw [hz] at HZ
        clear HD hz
        go_wp2_with (first
          | (go_at_call 48; (refine (within_any 0 m (c := 2) (l := [x.1, x.2]) (ints2_at (by simp))).mono ?_); rintro e w2 ⟨rfl, rfl⟩; rw [HZ.out])
          | fail)
        go_roundw
        case rel => exact ⟨k + 1, Nat.succ_le_of_lt hlt, by go_num, H, (HB.out.alloc HB.out.size _).alloc (by have := HB.out.size; simp; omega) _⟩
        case measure => exact meas_one hlt
    · have H := Lib.hid (show spansB m l = true by rw [← HR.out, List.drop_eq_nil_of_le (by omega)]; rfl)
      clear HR
      go_wp2_with fail
      go_ret
      exact ⟨ret_bool H.out.symm, HB.out⟩
theorem empty_any (a b : Int) (w : World) : Calls Try.prog 76 #[.agg #[.int .i64 a, .int .i64 b]] w fun e w' => e = .returned (.bool (decide (b < a))) ∧ Below w.heap.size w w' := by
  have HB := Lib.hid ((Below.refl _ w).alloc (Nat.le_refl _) (.cells #[.int .i64 a, .int .i64 b] 36))
  go_enter Try.func76, Try.ntmps76
  go_wp2_with fail
  go_ret
  exact ⟨rfl, HB.out⟩
theorem floor_any {a b : Int} (hb : 0 < b ∧ b ≤ 1000000) (ha : -1000000000000 ≤ a ∧ a ≤ 1000000000000) (w : World) : Calls Try.prog 75 #[.int .i64 a, .int .i64 b] w fun e w' => e = .returned (.int .i64 (flo a b)) ∧ w' = w := by
  have hb0 : ¬ (b = 0) := by omega
  have h1 := Int.tdiv_mul_add_tmod a b
  have h2 := Int.natAbs_tdiv_le_natAbs a b
  have h5 := Int.tmod_lt_of_pos a hb.1
  have h6 := Int.tmod_lt_of_pos (-a) hb.1
  rw [Int.neg_tmod] at h6
  have q1 : IntKind.i64.wrap (a.tmod b) = a.tmod b := IntWalk.i64_in _ (by omega)
  have q2 : IntKind.i64.wrap (a.tdiv b) = a.tdiv b := IntWalk.i64_in _ (by omega)
  have q3 : IntKind.i64.wrap (a.tdiv b - 1) = a.tdiv b - 1 := IntWalk.i64_in _ (by omega)
  clear h1 h2 h5 h6
  by_cases h : a.tmod b < 0
  · have H := Lib.hid (flo_t hb.1 h)
    clear hb ha
    go_enter Try.func75, Try.ntmps75
    go_wp2_with fail
    go_ret
    exact ⟨ret_i64 H.out.symm, rfl⟩
  · have H := Lib.hid (flo_f hb.1 h)
    have hd : decide (a.tmod b < 0) = false := decide_eq_false h
    clear hb ha h
    go_enter Try.func75, Try.ntmps75
    go_wp2_with fail
    go_ret
    exact ⟨ret_i64 H.out.symm, rfl⟩
end Go.Proofs.Ytalghiecjhfflaa

namespace Go.Proofs.Ytalghiecjhfflaa
open Go.RowKit Go.Shelf Go.Maps
attribute [local go_sem] Oper.semAt_some

set_option maxRecDepth 100000 in
theorem sameBw_any {w : World} {P : Nat} {y : Bw} (x : Bw) (h1 : Blk w P 78 #[.string y.nm, .int .i64 y.pr, .int .i64 y.mlo, .int .i64 y.mhi, .int .i64 y.slo, .int .i64 y.shi, .slice y.ca y.cv.length y.cc]) :
    Calls Try.prog 81 #[.agg #[.string x.nm, .int .i64 x.pr, .int .i64 x.mlo, .int .i64 x.mhi, .int .i64 x.slo, .int .i64 x.shi, .slice x.ca x.cv.length x.cc], .pointer (some ⟨P, 0, none⟩)] w fun e w' => e = .returned (.bool (x.nm.toList == y.nm.toList)) ∧ Below w.heap.size w w' := by
  have HB := Lib.hid ((Below.refl _ w).alloc (Nat.le_refl _) (.cells #[.string x.nm, .int .i64 x.pr, .int .i64 x.mlo, .int .i64 x.mhi, .int .i64 x.slo, .int .i64 x.shi, .slice x.ca x.cv.length x.cc] 78))
  have HN := Lib.hid ((h1.on HB.out).cell 0)
  clear h1
  go_enter Try.func81, Try.ntmps81
  have t0 := HN.out
  go_wp2_with fail
  go_ret
  exact ⟨rfl, HB.out⟩
set_option maxRecDepth 100000 in
set_option maxHeartbeats 1000000 in
theorem idxBw_any {w : World} {A : Option Addr} {c : Nat} {l : List Bw} {P : Nat} {z : Bw} (h : BwsIn w A l) (h1 : Blk w P 78 #[.string z.nm, .int .i64 z.pr, .int .i64 z.mlo, .int .i64 z.mhi, .int .i64 z.slo, .int .i64 z.shi, .slice z.ca z.cv.length z.cc]) :
    Calls Try.prog 100 #[.slice A l.length c, .func (.func 81) #[] #[.pointer (some ⟨P, 0, none⟩)]] w fun e w' => e = .returned (.int .i64 (idxL (fun y : Bw => y.nm.toList == z.nm.toList) l 0)) ∧ Below w.heap.size w w' := by
  have HI := Lib.hid h
  have hl := h.len
  have HC := Lib.hid (fun (x : Bw) (W : World) (hb : Below w.heap.size w W) => sameBw_any x (h1.on hb))
  have eg : ∀ args w, (callFunc 81 args).run Try.prog w = .ok (.enter 81 args) w := enters_of Try.func81 (by kernel_rfl) rfl
  clear h h1
  go_enter Try.func100, Try.ntmps100
  go_wp2_with fail
  go_loopw [8] (fun i W => ∃ k : Nat, k ≤ l.length ∧ i = .int .i64 k ∧ Hid (idxL (fun y : Bw => y.nm.toList == z.nm.toList) (l.drop k) k = idxL (fun y : Bw => y.nm.toList == z.nm.toList) l 0) ∧ Hid (Below w.heap.size w W)) (fun i _ => l.length - (intOf i).toNat)
  case atStart => exact ⟨0, by omega, rfl, rfl, Below.refl _ _⟩
  case round =>
    obtain ⟨k, hk, rfl, HR, HB⟩ := hrel
    by_cases hlt : k < l.length
    · obtain ⟨x, hx⟩ : ∃ x, l[k]? = some x := ⟨l[k], List.getElem?_eq_getElem hlt⟩
      obtain ⟨bb, o, rfl, _, c0, c1, c2, c3, c4, c5, c6⟩ := (HI.out.on HB.out).get hx
      have hd : l.drop k = x :: l.drop (k + 1) := drop_at hx
      have HD := Lib.hid (show idxL (fun y : Bw => y.nm.toList == z.nm.toList) l 0 = if (x.nm.toList == z.nm.toList) = true then (k : Int) else idxL (fun y : Bw => y.nm.toList == z.nm.toList) (l.drop (k + 1)) ((k : Int) + 1) by rw [← HR.out, hd, idxL])
      have HC1 := Lib.hid (HC.out x wr HB.out)
      clear hx hd HR
      generalize (x.nm.toList == z.nm.toList) = b at *
      cases b with
      | true =>
        have H := Lib.hid (show idxL (fun y : Bw => y.nm.toList == z.nm.toList) l 0 = k by rw [HD.out, if_pos rfl])
        clear HD
        go_wp2_with (first | (refine HC1.out.mono ?_; rintro e w1 ⟨rfl, hb⟩; have HB1 := Lib.hid (HB.out.trans (hb.mono HB.out.size)); clear hb) | fail)
        go_ret
        exact ⟨ret_i64 H.out.symm, HB1.out⟩
      | false =>
        have H := Lib.hid (show idxL (fun y : Bw => y.nm.toList == z.nm.toList) (l.drop (k + 1)) ((k + 1 : Nat) : Int) = idxL (fun y : Bw => y.nm.toList == z.nm.toList) l 0 by rw [HD.out, if_neg (by simp)]; rfl)
        clear HD
        go_wp2_with (first | (refine HC1.out.mono ?_; rintro e w1 ⟨rfl, hb⟩; have HB1 := Lib.hid (HB.out.trans (hb.mono HB.out.size)); clear hb) | fail)
        go_roundw
        case rel => exact ⟨k + 1, Nat.succ_le_of_lt hlt, by go_num, H, HB1⟩
        case measure => exact meas_one hlt
    · have H := Lib.hid (show idxL (fun y : Bw => y.nm.toList == z.nm.toList) l 0 = -1 by rw [← HR.out, List.drop_eq_nil_of_le (by omega)]; rfl)
      clear HR
      go_wp2_with fail
      go_ret
      exact ⟨ret_i64 H.out.symm, HB.out⟩
theorem contBw_any {w : World} {A : Option Addr} {n c : Nat} {l : List Bw} {P : Nat} {z : Bw} (hn : l.length = n) (h : BwsIn w A l) (h1 : Blk w P 78 #[.string z.nm, .int .i64 z.pr, .int .i64 z.mlo, .int .i64 z.mhi, .int .i64 z.slo, .int .i64 z.shi, .slice z.ca z.cv.length z.cc]) :
    Calls Try.prog 80 #[.slice A n c, .func (.func 81) #[] #[.pointer (some ⟨P, 0, none⟩)]] w fun e w' => e = .returned (.bool (l.any (fun y : Bw => y.nm.toList == z.nm.toList))) ∧ Below w.heap.size w w' := by
  subst hn
  have HC := Lib.hid (idxBw_any (c := c) h h1)
  have HE := Lib.hid (idxL_any (fun y : Bw => y.nm.toList == z.nm.toList) l 0 (Int.le_refl _))
  clear h h1
  go_enter Try.func80, Try.ntmps80
  go_wp2_with fail
  refine HC.out.mono ?_
  rintro e w1 ⟨rfl, hb⟩
  go_wp2_with fail
  go_ret
  exact ⟨ret_bool (by have := HE.out; simpa using this), hb⟩
theorem BwsIn.take {w : World} {A : Option Addr} {l : List Bw} (h : BwsIn w A l) (i : Nat) : BwsIn w A (l.take i) := ⟨RowAt.take h.at_ i, fun x hx => h.cv x (List.mem_of_mem_take hx), by have := h.len; rw [List.length_take]; omega, fun x hx => h.nm x (List.mem_of_mem_take hx)⟩
end Go.Proofs.Ytalghiecjhfflaa

namespace Go.Proofs.Ytalghiecjhfflaa
open Go.RowKit Go.Shelf Go.Maps
attribute [local go_sem] Oper.semAt_some

theorem within_one {w : World} (a b x : Int) {A : Option Addr} {c : Nat} (h : IntsIn w A [x]) :
    Calls Try.prog 48 #[.int .i64 a, .int .i64 b, .slice A 1 c] w fun e w' => e = .returned (.bool (inB x a b)) ∧ w' = w := by
  rw [← allB_one]; exact within_any (c := c) a b h
theorem curveE_7a {bef : Int} {x : Pt} {l : List Pt} (h : inB x.p 0 20 = false) : curveE bef (x :: l) = 7 := by simp [curveE, h]
theorem curveE_7b {bef : Int} {x : Pt} {l : List Pt} (h : inB x.a (-300) 300 = false) : curveE bef (x :: l) = 7 := by simp [curveE, h]
theorem curveE_2 {bef : Int} {x : Pt} {l : List Pt} (h1 : inB x.p 0 20 = true) (h2 : inB x.a (-300) 300 = true) (h : x.p ≤ bef) : curveE bef (x :: l) = 2 := by simp [curveE, h1, h2, h]
theorem curveE_0 {bef : Int} {x : Pt} {l : List Pt} (h1 : inB x.p 0 20 = true) (h2 : inB x.a (-300) 300 = true) (h : ¬ x.p ≤ bef) : curveE bef (x :: l) = curveE x.p l := by simp [curveE, h1, h2, h]
theorem two_allocs {w W : World} (h : Below w.heap.size w W) (o o' : Obj) : Below w.heap.size w ((W.alloc o).alloc o') := (h.alloc h.size _).alloc (by have := h.size; simp; omega) _
theorem three_allocs {w W : World} (h : Below w.heap.size w W) (o o' o'' : Obj) : Below w.heap.size w (((W.alloc o).alloc o').alloc o'') := (two_allocs h o o').alloc (by have := h.size; simp; omega) _
set_option maxRecDepth 100000 in
set_option maxHeartbeats 1000000 in
theorem curve_any {w : World} {A : Option Addr} {c : Nat} {l : List Pt} (h : PtsIn w A l) :
    Calls Try.prog 83 #[.slice A l.length c] w fun e w' => e = .returned (.int .i64 (curveE (-1) l)) ∧ Below w.heap.size w w' := by
  have HI := Lib.hid h
  have hl := h.len
  clear h
  go_enter Try.func83, Try.ntmps83
  go_wp2_with fail
  go_loopw [3, 8] (fun v i W => ∃ (k : Nat) (bef : Int), k ≤ l.length ∧ i = .int .i64 k ∧ v = .int .i64 bef ∧ Hid (curveE bef (l.drop k) = curveE (-1) l) ∧ Hid (Below w.heap.size w W)) (fun _ i _ => l.length - (intOf i).toNat)
  case atStart => exact ⟨0, -1, by omega, rfl, rfl, rfl, Below.refl _ _⟩
  case round =>
    obtain ⟨k, bef, hk, rfl, rfl, HR, HB⟩ := hrel
    by_cases hlt : k < l.length
    · obtain ⟨x, hx⟩ : ∃ x, l[k]? = some x := ⟨l[k], List.getElem?_eq_getElem hlt⟩
      obtain ⟨bb, o, rfl, _, c0, c1⟩ := pts_at (HI.out.on HB.out).at_ hx
      have HD := Lib.hid (show curveE bef (x :: l.drop (k + 1)) = curveE (-1) l by rw [← HR.out, drop_at hx])
      clear hx HR
      cases hz1 : inB x.p 0 20 with
      | false =>
        have H := Lib.hid (show curveE (-1) l = 7 by rw [← HD.out, curveE_7a hz1])
        have HZ1 := Lib.hid hz1
        clear HD hz1
        go_wp2_with (first
          | (go_at_call 48; (with_reducible refine (within_one 0 20 x.p (c := 1) (ints1_at (by simp))).mono ?_); rintro e w2 ⟨rfl, rfl⟩; rw [HZ1.out])
          | fail)
        go_ret
        exact ⟨ret_i64 H.out.symm, two_allocs HB.out _ _⟩
      | true =>
        have HZ1 := Lib.hid hz1
        cases hz2 : inB x.a (-300) 300 with
        | false =>
          have H := Lib.hid (show curveE (-1) l = 7 by rw [← HD.out, curveE_7b hz2])
          have HZ2 := Lib.hid hz2
          clear HD hz1 hz2
          go_wp2_with (first
            | (go_at_call 48; (with_reducible refine (within_one 0 20 x.p (c := 1) (ints1_at (by simp))).mono ?_); rintro e w2 ⟨rfl, rfl⟩; rw [HZ1.out])
            | (go_at_call 48; (with_reducible refine (within_one (-300) 300 x.a (c := 1) (ints1_at (by simp))).mono ?_); rintro e w2 ⟨rfl, rfl⟩; rw [HZ2.out])
            | fail)
          go_ret
          exact ⟨ret_i64 H.out.symm, three_allocs HB.out _ _ _⟩
        | true =>
          have HZ2 := Lib.hid hz2
          by_cases h3 : x.p ≤ bef
          · have H := Lib.hid (show curveE (-1) l = 2 by rw [← HD.out, curveE_2 hz1 hz2 h3])
            clear HD hz1 hz2
            go_wp2_with (first
              | (go_at_call 48; (with_reducible refine (within_one 0 20 x.p (c := 1) (ints1_at (by simp))).mono ?_); rintro e w2 ⟨rfl, rfl⟩; rw [HZ1.out])
              | (go_at_call 48; (with_reducible refine (within_one (-300) 300 x.a (c := 1) (ints1_at (by simp))).mono ?_); rintro e w2 ⟨rfl, rfl⟩; rw [HZ2.out])
              | fail)
            go_ret
            exact ⟨ret_i64 H.out.symm, three_allocs HB.out _ _ _⟩
          · have H := Lib.hid (show curveE x.p (l.drop (k + 1)) = curveE (-1) l by rw [← HD.out, curveE_0 hz1 hz2 h3])
            clear HD hz1 hz2
            go_wp2_with (first
              | (go_at_call 48; (with_reducible refine (within_one 0 20 x.p (c := 1) (ints1_at (by simp))).mono ?_); rintro e w2 ⟨rfl, rfl⟩; rw [HZ1.out])
              | (go_at_call 48; (with_reducible refine (within_one (-300) 300 x.a (c := 1) (ints1_at (by simp))).mono ?_); rintro e w2 ⟨rfl, rfl⟩; rw [HZ2.out])
              | fail)
            go_roundw
            case rel => exact ⟨k + 1, x.p, Nat.succ_le_of_lt hlt, by go_num, rfl, H, three_allocs HB.out _ _ _⟩
            case measure => exact meas_one hlt
    · have H := Lib.hid (show curveE (-1) l = 0 by rw [← HR.out, List.drop_eq_nil_of_le (by omega)]; rfl)
      clear HR
      go_wp2_with fail
      go_ret
      exact ⟨ret_i64 H.out.symm, HB.out⟩
end Go.Proofs.Ytalghiecjhfflaa
