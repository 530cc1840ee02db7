/- mould.after: contract. -/
import Derived.Test.YtljbjcnfkbmjkaaMdv
namespace Go.Proofs.Ytljbjcnfkbmjkaa
open Go.RowKit Go.Shelf
attribute [local go_sem] Oper.semAt_some

theorem minutes_any (m : Md) (p q : Int) (w : World) :
    Calls Try.prog 87 #[.agg #[.int .i64 m.rings, .int .i64 m.give, .int .i64 m.plo, .int .i64 m.phi, .int .i64 m.wlo, .int .i64 m.whi, .int .i64 m.st, .int .i64 m.shrink, .int .i64 m.skin, .int .i64 m.fill, .int .i64 m.gap, .int .i64 m.deep], .agg #[.int .i64 p, .int .i64 q]] w fun e w' => e = .returned (.func (.func 99) #[] #[.pointer (some ⟨w.heap.size, 0, none⟩), .pointer (some ⟨w.heap.size + 1, 0, none⟩)]) ∧ w' = (w.alloc (.cells #[.int .i64 m.rings, .int .i64 m.give, .int .i64 m.plo, .int .i64 m.phi, .int .i64 m.wlo, .int .i64 m.whi, .int .i64 m.st, .int .i64 m.shrink, .int .i64 m.skin, .int .i64 m.fill, .int .i64 m.gap, .int .i64 m.deep] 88)).alloc (.cells #[.int .i64 p, .int .i64 q] 98) := by
  go_enter Try.func87, Try.ntmps87
  go_wp2
  go_ret
  exact ⟨rfl, rfl⟩
/-- What 'last' holds behind some minutes. -/
def lastW (m : Md) (p q : Int) (pre : List (Fin 601)) : Nat → Int := match pre.getLast? with
  | none => fun _ => 0
  | some x => la (stW m p q x.1)
theorem lastW_snoc (m : Md) (p q : Int) (pre : List (Fin 601)) (x : Fin 601) : lastW m p q (pre ++ [x]) = la (stW m p q x.1) := by
  unfold lastW; rw [List.getLast?_append]; rfl

theorem Blk.grownB {W W' : World} {g B : Nat} {T : TypeId} {cs : Array Value} {row : Option Nat} (h : Blk W g T cs) (hg : W.grownBy W' row) (hr : ∀ r, row = some r → B ≤ r) (hlt : g < B) : Blk W' g T cs :=
  (hg.block g h.lt (fun e => by have := hr _ e.symm; omega)).trans h
theorem set8_keeps (W : World) (g : Nat) (b : Nat → Int) (B : Nat) : KeepsFrom B W (set8 W g b) :=
  (((((((((KeepsOthers.setCell W _ _).from B).trans ((KeepsOthers.setCell _ _ _).from B)).trans ((KeepsOthers.setCell _ _ _).from B)).trans ((KeepsOthers.setCell _ _ _).from B)).trans ((KeepsOthers.setCell _ _ _).from B)).trans ((KeepsOthers.setCell _ _ _).from B)).trans ((KeepsOthers.setCell _ _ _).from B)).trans ((KeepsOthers.setCell _ _ _).from B))
/-- Between two rounds of after. -/
structure AfI (w : World) (m : Md) (p q : Int) (s : Nat) (pre : List (Fin 601)) (W : World) : Prop where
  b1 : Blk W (w.heap.size + 1) 3 #[.int .i64 s]
  b3 : W8 W (w.heap.size + 1 + 1 + 1) (fun _ => 0)
  b4 : W8 W (w.heap.size + 1 + 1 + 1 + 1) (lastW m p q pre)
  b : Below w.heap.size w W
  le : ∀ x ∈ pre, x.1 ≤ s
theorem AfI.stays {w : World} {m : Md} {p q : Int} {s : Nat} {B : Nat} (hB : w.heap.size + 5 ≤ B) : StaysC B (AfI w m p q s) := by
  rintro pre W W' row ⟨h1, h3, h4, hb, hle⟩ hg hr
  exact ⟨h1.grownB hg hr (by omega), ⟨h3.bk.grownB hg hr (by omega)⟩, ⟨h4.bk.grownB hg hr (by omega)⟩, hb.grown hg hb.size (fun r e => by have := hr r e; omega), hle⟩
def AfX (w : World) (m : Md) (p q : Int) (s : Nat) (c : Code) (pre : List (Fin 601)) (W : World) : Prop := c = .exit 0 ∧ ∃ pre0 x, pre = pre0 ++ [x] ∧ s < x.1 ∧ AfI w m p q s pre0 W
theorem AfX.stays {w : World} {m : Md} {p q : Int} {s : Nat} {B : Nat} (hB : w.heap.size + 5 ≤ B) (c : Code) : StaysC B (AfX w m p q s c) := by
  rintro pre W W' row ⟨hc, pre0, x, e, hx, hI⟩ hg hr
  exact ⟨hc, pre0, x, e, hx, AfI.stays hB _ _ _ _ hI hg hr⟩
theorem stW_fix {m : Md} {p q : Int} {k : Nat} (h : stW m p q (k + 1) = stW m p q k) : ∀ j, stW m p q (k + j) = stW m p q k
  | 0 => rfl
  | j + 1 => by rw [← Nat.add_assoc, stW_succ, stW_fix h j, ← stW_succ, h]
theorem rng_last {k : Nat} (h : k < 601) : (rng (k + 1)).getLast? = some ⟨k, h⟩ := by rw [rng_succ h, List.getLast?_append]; rfl
theorem rng_mem {k : Nat} (h : k < 601) : (⟨k, h⟩ : Fin 601) ∈ rng (k + 1) := by rw [rng_succ h]; simp
theorem lastW_rng (m : Md) (p q : Int) {k : Nat} (h : k < 601) : lastW m p q (rng (k + 1)) = la (stW m p q k) := by rw [rng_succ h, lastW_snoc]
/-- What is left when the minutes are over, or when the loop was left. -/
theorem after_done {m : Md} {p q : Int} {s : Nat} (hs : s ≤ 600) {xs : List (Fin 601)} (hS : AllMin m p q xs) (hle : ∀ x ∈ xs, x.1 ≤ s) : lastW m p q xs = la (stW m p q s) := by
  obtain ⟨k, hk, rfl, h⟩ := hS
  have h1 := hle _ (rng_mem (k := k) (by omega))
  rw [lastW_rng m p q (by omega)]
  rcases h with rfl | h
  · rw [show s = 600 by have h2 : 600 ≤ s := h1; omega]
  · have h2 := stW_fix h (s - k)
    rw [show k + (s - k) = s by have h3 : k ≤ s := h1; omega] at h2
    rw [h2]
theorem after_stop {m : Md} {p q : Int} {s : Nat} {pre pre0 : List (Fin 601)} {x : Fin 601} (hS : SomeMin pre) (e : pre = pre0 ++ [x]) (hx : s < x.1) (hle : ∀ y ∈ pre0, y.1 ≤ s) : lastW m p q pre0 = la (stW m p q s) := by
  obtain ⟨k, hk, rfl⟩ := hS
  rw [rng_succ (by omega)] at e
  obtain ⟨rfl, e2⟩ := List.append_inj' e rfl
  simp only [List.cons.injEq, and_true] at e2
  have hxk : x.1 = k := by rw [← e2]
  cases k with
  | zero => omega
  | succ k =>
    have h1 : k ≤ s := hle _ (rng_mem (k := k) (by omega))
    rw [lastW_rng m p q (by omega), show s = k by omega]

set_option maxRecDepth 100000 in
set_option maxHeartbeats 4000000 in
theorem after_in {w : World} {m : Md} (hm : MdIn m) {p q : Int} (hp : 0 ≤ p ∧ p ≤ 2000) (hq : 0 ≤ q ∧ q ≤ 2000) {s : Nat} (hs : s ≤ 600) :
    CallsIn Fence.wide 10 Try.prog 61 #[.agg #[.int .i64 m.rings, .int .i64 m.give, .int .i64 m.plo, .int .i64 m.phi, .int .i64 m.wlo, .int .i64 m.whi, .int .i64 m.st, .int .i64 m.shrink, .int .i64 m.skin, .int .i64 m.fill, .int .i64 m.gap, .int .i64 m.deep], .int .i64 s, .agg #[.int .i64 p, .int .i64 q]] w fun e w' => e = .returned (.agg #[.int .i64 (la (stW m p q s) 0), .int .i64 (la (stW m p q s) 1), .int .i64 (la (stW m p q s) 2), .int .i64 (la (stW m p q s) 3), .int .i64 (la (stW m p q s) 4), .int .i64 (la (stW m p q s) 5), .int .i64 (la (stW m p q s) 6), .int .i64 (la (stW m p q s) 7)]) ∧ Below w.heap.size w w' := by
  have hro : Fence.wide.round = none := rfl
  have hn1 : 1 ≤ 10 := by decide
  have hs2 : (s : Int) ≤ 600 := by omega
  refine callsIn_of_wp_marks Try.func61 rfl trivial ?_ hro
  simp only [Try.ntmps61, List.size_toArray, List.length_cons, List.length_nil, Nat.reduceAdd, Nat.reduceSub, Array.replicate_succ, Array.replicate_zero, List.push_toArray, List.append_toArray, List.nil_append, List.cons_append]
  gi_wp2_with fail
  refine ⟨trivial, ?_⟩
  refine (callsIn_wide.2 (minutes_any _ _ _ _)).mono ?_
  rintro e w1 ⟨rfl, hw1⟩
  have hsz : w1.heap.size = w.heap.size + 7 := by rw [hw1]; simp
  have hb : Below w.heap.size w w1 := by rw [hw1]; exact (((((((Below.refl _ w).alloc (Nat.le_refl _) _).alloc (by simp) _).alloc (by simp; omega) _).alloc (by simp; omega) _).alloc (by simp; omega) _).alloc (by simp; omega) _).alloc (by simp; omega) _
  have e1 : Blk w1 (w.heap.size + 1) 3 #[.int .i64 s] := by rw [hw1]; exact (((((Blk.new1 w _ _ _).alloc _).alloc _).alloc _).alloc _).alloc _
  have e3 : W8 w1 (w.heap.size + 1 + 1 + 1) (fun _ => 0) := by rw [hw1]; exact ⟨(((Blk.new3 w _ _ _ _ _).alloc _).alloc _).alloc _⟩
  have e4 : W8 w1 (w.heap.size + 1 + 1 + 1 + 1) (fun _ => 0) := by rw [hw1]; exact ⟨((Blk.new4 w _ _ _ _ _ _).alloc _).alloc _⟩
  have e5 : Blk w1 (w.heap.size + 1 + 1 + 1 + 1 + 1) 88 #[.int .i64 m.rings, .int .i64 m.give, .int .i64 m.plo, .int .i64 m.phi, .int .i64 m.wlo, .int .i64 m.whi, .int .i64 m.st, .int .i64 m.shrink, .int .i64 m.skin, .int .i64 m.fill, .int .i64 m.gap, .int .i64 m.deep] := by
    rw [hw1]
    refine Blk.alloc ?_ _
    simpa using Blk.new (((((w.alloc _).alloc _).alloc _).alloc _).alloc _) 88 #[.int .i64 m.rings, .int .i64 m.give, .int .i64 m.plo, .int .i64 m.phi, .int .i64 m.wlo, .int .i64 m.whi, .int .i64 m.st, .int .i64 m.shrink, .int .i64 m.skin, .int .i64 m.fill, .int .i64 m.gap, .int .i64 m.deep]
  have e6 : Blk w1 (w.heap.size + 1 + 1 + 1 + 1 + 1 + 1) 98 #[.int .i64 p, .int .i64 q] := by
    rw [hw1]
    simpa using Blk.new ((((((w.alloc _).alloc _).alloc _).alloc _).alloc _).alloc _) 98 #[.int .i64 p, .int .i64 q]
  have HI0 := Lib.hid (show AfI w m p q s [] w1 from ⟨e1, e3, e4, hb, fun x hx => by cases hx⟩)
  have HB := Lib.hid hb
  have HST := Lib.hid (minutes_stops hm hp hq e5 e6 (L := w.heap.size + 1 + 1 + 1 + 1) (by omega) (by omega) (by omega) hb 9 (by decide))
  have HSZ := Lib.hid hsz
  clear e1 e3 e4 e5 e6 hb hsz
  gi_wp2_with fail
  rw [← hw1]
  clear hw1
  refine range_cells hro hn1 (gf := 99) (lb := #[.pointer (some ⟨w.heap.size + 1 + 1 + 1 + 1 + 1, 0, none⟩), .pointer (some ⟨w.heap.size + 1 + 1 + 1 + 1 + 1 + 1, 0, none⟩)]) rfl trivial (enters_of Try.func99 (by kernel_rfl) rfl)
    HST.out (Below.refl _ _) (fun _ => rfl) keepL_t (keepL_b HB.out.size) (AfI w m p q s) (AfX w m p q s) (AfI.stays (by have := HSZ.out; omega)) (AfX.stays (by have := HSZ.out; omega)) HI0.out ?round ?done ?stop
  case round =>
    intro l pre x W hI hlen hszW
    have HI := Lib.hid hI
    clear hI
    gi_wp2_with fail
    refine ⟨(KeepsOthers.alloc _ _).from _, ⟨(Below.refl _ W).alloc HI.out.b.size _, fun g T cs _ hb => hb.alloc _⟩, fun W2 hT => ?_⟩
    have HA := Lib.hid (AfI.stays (m := m) (p := p) (q := q) (s := s) (B := w1.heap.size) (by have := HSZ.out; omega) _ _ _ _ (AfI.stays (B := w1.heap.size) (by have := HSZ.out; omega) _ _ _ none HI.out (grown_of_below ((Below.refl _ W).alloc (Nat.le_refl _) (.cells #[.int .i64 (la (stW m p q x.1) 0), .int .i64 (la (stW m p q x.1) 1), .int .i64 (la (stW m p q x.1) 2), .int .i64 (la (stW m p q x.1) 3), .int .i64 (la (stW m p q x.1) 4), .int .i64 (la (stW m p q x.1) 5), .int .i64 (la (stW m p q x.1) 6), .int .i64 (la (stW m p q x.1) 7)] 90)) none) (fun r e => by cases e)) hT.grown (fun r e => by cases e; exact hT.low))
    have HN := Lib.hid (W8.mk (hT.cells (Blk.new W 90 #[.int .i64 (la (stW m p q x.1) 0), .int .i64 (la (stW m p q x.1) 1), .int .i64 (la (stW m p q x.1) 2), .int .i64 (la (stW m p q x.1) 3), .int .i64 (la (stW m p q x.1) 4), .int .i64 (la (stW m p q x.1) 5), .int .i64 (la (stW m p q x.1) 6), .int .i64 (la (stW m p q x.1) 7)])))
    have hs1 : W2.cell? ⟨w.heap.size + 1, 0, none⟩ = some (.int .i64 s) := HA.out.b1.cell 0
    obtain ⟨x0, x1, x2, x3, x4, x5, x6, x7⟩ := HN.out.cells
    obtain ⟨f0, f1, f2, f3, f4, f5, f6, f7⟩ := HA.out.b4.frozen
    obtain ⟨y0, y1, y2, y3, y4, y5, y6, y7⟩ := HA.out.b4.cells
    clear HI hT
    by_cases hx : x.1 ≤ s
    · have hx2 : ¬ ((s : Int) < (x.1 : Int)) := by omega
      gi_wp2_with fail
      refine ⟨set8_keeps _ _ _ _, ⟨set8_below (Below.refl _ W2) (by omega) _, fun g T cs hg hb => set8_blk hb hg _⟩, ?_⟩
      refine ⟨set8_blk HA.out.b1 (by omega) _, ⟨set8_blk HA.out.b3.bk (by omega) _⟩, ?_, set8_below HA.out.b (by omega) _, ?_⟩
      · rw [lastW_snoc]; exact set8_w8 HA.out.b4 _
      · intro y hy
        rcases List.mem_append.1 hy with hy | hy
        · exact HA.out.le y hy
        · rw [List.mem_singleton.1 hy]; exact hx
    · have hx2 : (s : Int) < (x.1 : Int) := by omega
      gi_wp2_with fail
      exact ⟨KeepsFrom.refl _ _, rfl, pre, x, rfl, by omega, HA.out⟩
  case done =>
    intro D xs W hD hS hI hK
    have HK := Lib.hid hK
    have HI := Lib.hid hI
    have HL := Lib.hid (after_done hs hS hI.le)
    have h4 := hI.b4
    rw [HL.out] at h4
    obtain ⟨x0, x1, x2, x3, x4, x5, x6, x7⟩ := h4.cells
    obtain ⟨f0, f1, f2, f3, f4, f5, f6, f7⟩ := hI.b3.frozen
    obtain ⟨y0, y1, y2, y3, y4, y5, y6, y7⟩ := hI.b3.cells
    clear hI hK hS h4
    gi_wp2_with fail
    have HK2 := Lib.hid ((set8_keeps W (w.heap.size + 1 + 1 + 1) (la (stW m p q s)) 0).same D _ (Nat.zero_le _) HK.out rfl)
    have h3 := Lib.hid (W8.mk ((set8_w8 HI.out.b3 (la (stW m p q s))).bk.grownB (grownBy_putObj' _ D (.deferred none)) (B := D) (fun r e => by cases e; exact Nat.le_refl _) (by have := HSZ.out; omega)))
    refine ⟨by simp, .inl ⟨_, _, rfl, run_takeDeferred HK2.out, ?_⟩⟩
    obtain ⟨z0, z1, z2, z3, z4, z5, z6, z7⟩ := h3.out.cells
    refine ⟨.agg #[.int .i64 (la (stW m p q s) 0), .int .i64 (la (stW m p q s) 1), .int .i64 (la (stW m p q s) 2), .int .i64 (la (stW m p q s) 3), .int .i64 (la (stW m p q s) 4), .int .i64 (la (stW m p q s) 5), .int .i64 (la (stW m p q s) 6), .int .i64 (la (stW m p q s) 7)], ?_, rfl, (set8_below HI.out.b (by omega) _).trans (belowK_b (w := w) (Nat.le_refl _) _ D _ _ (by have := HSZ.out; omega) HK2.out rfl rfl)⟩
    simp [results, Try.results61, go_sem, *]
  case stop =>
    rintro D c pre W hD hS ⟨rfl, pre0, x, e, hx, hI⟩ hK
    have HK := Lib.hid hK
    have HI := Lib.hid hI
    have HL := Lib.hid (after_stop (m := m) (p := p) (q := q) hS e hx hI.le)
    have h4 := hI.b4
    rw [HL.out] at h4
    obtain ⟨x0, x1, x2, x3, x4, x5, x6, x7⟩ := h4.cells
    obtain ⟨f0, f1, f2, f3, f4, f5, f6, f7⟩ := hI.b3.frozen
    obtain ⟨y0, y1, y2, y3, y4, y5, y6, y7⟩ := hI.b3.cells
    clear hI hK hS h4 e hx
    gi_wp2_with fail
    have HK2 := Lib.hid ((set8_keeps W (w.heap.size + 1 + 1 + 1) (la (stW m p q s)) 0).same D _ (Nat.zero_le _) HK.out rfl)
    have h3 := Lib.hid (W8.mk ((set8_w8 HI.out.b3 (la (stW m p q s))).bk.grownB (grownBy_putObj' _ D (.deferred none)) (B := D) (fun r e => by cases e; exact Nat.le_refl _) (by have := HSZ.out; omega)))
    refine ⟨by simp, .inl ⟨_, _, rfl, run_takeDeferred HK2.out, ?_⟩⟩
    obtain ⟨z0, z1, z2, z3, z4, z5, z6, z7⟩ := h3.out.cells
    refine ⟨.agg #[.int .i64 (la (stW m p q s) 0), .int .i64 (la (stW m p q s) 1), .int .i64 (la (stW m p q s) 2), .int .i64 (la (stW m p q s) 3), .int .i64 (la (stW m p q s) 4), .int .i64 (la (stW m p q s) 5), .int .i64 (la (stW m p q s) 6), .int .i64 (la (stW m p q s) 7)], ?_, rfl, (set8_below HI.out.b (by omega) _).trans (belowK_b (w := w) (Nat.le_refl _) _ D _ _ (by have := HSZ.out; omega) HK2.out rfl rfl)⟩
    simp [results, Try.results61, go_sem, *]
end Go.Proofs.Ytljbjcnfkbmjkaa
