/- mould.minutes: its iterator yields the minutes until the warmth stays. -/
import Derived.Test.YtljbjcnfkbmjkaaGe
namespace Go.Proofs.Ytljbjcnfkbmjkaa
open Go.RowKit Go.Shelf
attribute [local go_sem] Oper.semAt_some

/-- Eight cells stored, one behind another. -/
abbrev set8 (W : World) (g : Nat) (b : Nat → Int) : World :=
  (((((((W.setCell ⟨g, 0, none⟩ (.int .i64 (b 0))).setCell ⟨g, 1, none⟩ (.int .i64 (b 1))).setCell ⟨g, 2, none⟩ (.int .i64 (b 2))).setCell ⟨g, 3, none⟩ (.int .i64 (b 3))).setCell ⟨g, 4, none⟩ (.int .i64 (b 4))).setCell ⟨g, 5, none⟩ (.int .i64 (b 5))).setCell ⟨g, 6, none⟩ (.int .i64 (b 6))).setCell ⟨g, 7, none⟩ (.int .i64 (b 7))
theorem set8_w8 {W : World} {g : Nat} {a : Nat → Int} (h : W8 W g a) (b : Nat → Int) : W8 (set8 W g b) g b :=
  (((((((((h.set_ (k := 0) (by omega) (b 0)).set_ (k := 1) (by omega) (b 1)).set_ (k := 2) (by omega) (b 2)).set_ (k := 3) (by omega) (b 3)).set_ (k := 4) (by omega) (b 4)).set_ (k := 5) (by omega) (b 5)).set_ (k := 6) (by omega) (b 6)).set_ (k := 7) (by omega) (b 7))).eq (fun j hj => by
    match j, hj with
    | 0, _ => rfl
    | 1, _ => rfl
    | 2, _ => rfl
    | 3, _ => rfl
    | 4, _ => rfl
    | 5, _ => rfl
    | 6, _ => rfl
    | 7, _ => rfl)
theorem set8_j {β : Type} {B : Nat} {J : β → World → Prop} (h : StaysC B J) {s : β} {W : World} (hs : J s W) {g : Nat} (hg : B ≤ g) (b : Nat → Int) : J s (set8 W g b) :=
  h.set_ (h.set_ (h.set_ (h.set_ (h.set_ (h.set_ (h.set_ (h.set_ hs hg _ _) hg _ _) hg _ _) hg _ _) hg _ _) hg _ _) hg _ _) hg _ _
theorem set8_blk {W : World} {g g' : Nat} {T : TypeId} {cs : Array Value} (h : Blk W g' T cs) (hn : g' ≠ g) (b : Nat → Int) : Blk (set8 W g b) g' T cs :=
  (((((((h.far hn _).far hn _).far hn _).far hn _).far hn _).far hn _).far hn _).far hn _
theorem set8_below {w W : World} {B g : Nat} (h : Below B w W) (hg : B ≤ g) (b : Nat → Int) : Below B w (set8 W g b) :=
  below_set (below_set (below_set (below_set (below_set (below_set (below_set (below_set h hg) hg) hg) hg) hg) hg) hg) hg
/-- What lies in memory while the minutes go by. -/
structure MnI (wB : World) (B1 B2 L NB : Nat) (m : Md) (p q : Int) (a : Nat → Int) (W : World) : Prop where
  b1 : Blk W B1 88 #[.int .i64 m.rings, .int .i64 m.give, .int .i64 m.plo, .int .i64 m.phi, .int .i64 m.wlo, .int .i64 m.whi, .int .i64 m.st, .int .i64 m.shrink, .int .i64 m.skin, .int .i64 m.fill, .int .i64 m.gap, .int .i64 m.deep]
  b2 : Blk W B2 98 #[.int .i64 p, .int .i64 q]
  nb : W8 W NB a
  b : Below wB.heap.size wB W
  l1 : B1 < NB
  l2 : B2 < NB
  l3 : L < NB
  l4 : wB.heap.size ≤ NB
theorem MnI.on {wB W W' : World} {B1 B2 L NB : Nat} {m : Md} {p q : Int} {a : Nat → Int} (h : MnI wB B1 B2 L NB m p q a W) (hb : Below W.heap.size W W') : MnI wB B1 B2 L NB m p q a W' :=
  ⟨h.b1.on hb, h.b2.on hb, h.nb.on hb, h.b.trans (hb.mono h.b.size), h.l1, h.l2, h.l3, h.l4⟩
theorem MnI.eq {wB W : World} {B1 B2 L NB : Nat} {m : Md} {p q : Int} {a b : Nat → Int} (h : MnI wB B1 B2 L NB m p q a W) (e : ∀ j, j < 8 → a j = b j) : MnI wB B1 B2 L NB m p q b W := ⟨h.b1, h.b2, h.nb.eq e, h.b, h.l1, h.l2, h.l3, h.l4⟩
theorem MnI.put {wB W : World} {B1 B2 L NB : Nat} {m : Md} {p q : Int} {a : Nat → Int} (h : MnI wB B1 B2 L NB m p q a W) {k : Nat} (hk : k < 8) (v : Int) : MnI wB B1 B2 L NB m p q (put8 a k v) (W.setCell ⟨NB, k, none⟩ (.int .i64 v)) :=
  ⟨h.b1.far (by have := h.l1; simp; omega) _, h.b2.far (by have := h.l2; simp; omega) _, h.nb.set_ hk v, below_set h.b h.l4, h.l1, h.l2, h.l3, h.l4⟩
theorem MnI.puts {wB W : World} {B1 B2 L NB : Nat} {m : Md} {p q : Int} {a : Nat → Int} (h : MnI wB B1 B2 L NB m p q a W) (b : Nat → Int) : MnI wB B1 B2 L NB m p q b (set8 W NB b) :=
  ⟨set8_blk h.b1 (by have := h.l1; omega) b, set8_blk h.b2 (by have := h.l2; omega) b, set8_w8 h.nb b, set8_below h.b h.l4 b, h.l1, h.l2, h.l3, h.l4⟩
theorem MnI.keep {wB W W' : World} {B1 B2 L NB : Nat} {m : Md} {p q : Int} {a : Nat → Int} (h : MnI wB B1 B2 L NB m p q a W) (h1 : B1 ≠ L) (h2 : B2 ≠ L) (hk : KeepL wB.heap.size L W W') : MnI wB B1 B2 L NB m p q a W' :=
  ⟨hk.2 _ _ _ h1 h.b1, hk.2 _ _ _ h2 h.b2, ⟨hk.2 _ _ _ (by have := h.l3; omega) h.nb.bk⟩, h.b.trans hk.1, h.l1, h.l2, h.l3, h.l4⟩
/-- k rings have their warmth. -/
def fillA (p : Int) (k j : Nat) : Int := if j < k then p else 0
theorem fillA_put (p : Int) (k j : Nat) : put8 (fillA p k) k p j = fillA p (k + 1) j := by
  unfold put8 fillA
  by_cases h1 : j = k
  · subst h1; rw [if_pos rfl, if_pos (by omega)]
  · rw [if_neg h1]
    by_cases h2 : j < k
    · rw [if_pos h2, if_pos (by omega)]
    · rw [if_neg h2, if_neg (by omega)]
theorem fillA_end (p : Int) (k j : Nat) : fillA p k j = la (List.replicate k p) j := by
  unfold fillA la
  rw [List.getElem?_replicate]
  split <;> rfl

set_option maxRecDepth 100000 in
set_option maxHeartbeats 4000000 in
theorem minutes_stops {wB w0 : World} {m : Md} (hm : MdIn m) {p q : Int} (hp : 0 ≤ p ∧ p ≤ 2000) (hq : 0 ≤ q ∧ q ≤ 2000) {B1 B2 L : Nat} (h1 : Blk w0 B1 88 #[.int .i64 m.rings, .int .i64 m.give, .int .i64 m.plo, .int .i64 m.phi, .int .i64 m.wlo, .int .i64 m.whi, .int .i64 m.st, .int .i64 m.shrink, .int .i64 m.skin, .int .i64 m.fill, .int .i64 m.gap, .int .i64 m.deep]) (h2 : Blk w0 B2 98 #[.int .i64 p, .int .i64 q])
    (n1 : B1 ≠ L) (n2 : B2 ≠ L) (hL : L < w0.heap.size) (hw0 : Below wB.heap.size wB w0) (n : Nat) (hn : 3 ≤ n) :
    SeqC Fence.wide n Try.prog 99 #[.pointer (some ⟨B1, 0, none⟩), .pointer (some ⟨B2, 0, none⟩)] (encMin m p q) (KeepL wB.heap.size L) (AllMin m p q) SomeMin 601 w0 := fun lo J Jx W hW hJ hJx hY h0 => by
  have hkr := kR_eq hm
  have hk8 := (kR_le hm).2
  have hrg := hm.rings
  have HI : Hid (MnI wB B1 B2 L W.heap.size m p q (fillA p 0) (W.alloc (.cells #[.int .i64 ((fun (_ : Nat) => (0 : Int)) 0), .int .i64 ((fun (_ : Nat) => (0 : Int)) 1), .int .i64 ((fun (_ : Nat) => (0 : Int)) 2), .int .i64 ((fun (_ : Nat) => (0 : Int)) 3), .int .i64 ((fun (_ : Nat) => (0 : Int)) 4), .int .i64 ((fun (_ : Nat) => (0 : Int)) 5), .int .i64 ((fun (_ : Nat) => (0 : Int)) 6), .int .i64 ((fun (_ : Nat) => (0 : Int)) 7)] 90))) :=
    ⟨(h1.on hW).alloc _, (h2.on hW).alloc _, ⟨Blk.new W _ _⟩, (hw0.trans (hW.mono hw0.size)).alloc (by have := hw0.size; have := hW.size; omega) _, by have := h1.lt; have := hW.size; omega, by have := h2.lt; have := hW.size; omega, by have := hW.size; omega, by have := hw0.size; have := hW.size; omega⟩
  have HJ0 := Lib.hid (hJ.below h0 ((Below.refl _ W).alloc (Nat.le_refl _) (.cells #[.int .i64 ((fun (_ : Nat) => (0 : Int)) 0), .int .i64 ((fun (_ : Nat) => (0 : Int)) 1), .int .i64 ((fun (_ : Nat) => (0 : Int)) 2), .int .i64 ((fun (_ : Nat) => (0 : Int)) 3), .int .i64 ((fun (_ : Nat) => (0 : Int)) 4), .int .i64 ((fun (_ : Nat) => (0 : Int)) 5), .int .i64 ((fun (_ : Nat) => (0 : Int)) 6), .int .i64 ((fun (_ : Nat) => (0 : Int)) 7)] 90)))
  have HJ := Lib.hid hJ
  have HY := Lib.hid hY
  obtain ⟨d0, -, -, -, -, -, -, -, -, -, -, -⟩ := (show MdBk wB B1 88 m _ from ⟨HI.out.b1, HI.out.b⟩).cells
  clear h1 h2 hW hw0 hY h0 hL hJ
  refine callsIn_of_wp Try.func99 rfl trivial ?_ rfl
  simp only [Try.ntmps99, List.size_toArray, List.length_cons, List.length_nil, Nat.reduceAdd, Nat.reduceSub, Array.replicate_succ, Array.replicate_zero, List.push_toArray, List.append_toArray, List.nil_append, List.cons_append]
  gi_wp2_with fail
  gi_loopw [11] (fun i wr => ∃ k : Nat, k ≤ kR m ∧ i = .int .i64 k ∧ Hid (MnI wB B1 B2 L W.heap.size m p q (fillA p k) wr) ∧ Hid (J [] wr)) (fun i _ => kR m - (intOf i).toNat)
  case atStart => exact ⟨0, Nat.zero_le _, rfl, HI, HJ0⟩
  case round =>
    obtain ⟨k, hkl, rfl, HI, HJr⟩ := hrel
    clear d0
    obtain ⟨d0, -, -, -, -, -, -, -, -, -, -, -⟩ := (show MdBk wB B1 88 m wr from ⟨HI.out.b1, HI.out.b⟩).cells
    obtain ⟨s0, s1, -, -, -⟩ := HI.out.b2.two
    by_cases hlt : k < kR m
    · have c3 : wr.cell? ⟨W.heap.size, k, none⟩ = some (.int .i64 (fillA p k k)) := HI.out.nb.cell (by omega)
      have f3 := HI.out.nb.bk.frozen k
      have hk88 : (k : Int) < 8 := by omega
      have hkk8 : k < 8 := by omega
      have hkr2 : (k : Int) < m.rings := by omega
      gi_wp2_with fail
      have HI2 : Hid (MnI wB B1 B2 L W.heap.size m p q (fillA p (k + 1)) (wr.setCell ⟨W.heap.size, k, none⟩ (.int .i64 p))) := (HI.out.put hkk8 p).eq (fun j _ => fillA_put p k j)
      have HJ2 : Hid (J [] (wr.setCell ⟨W.heap.size, k, none⟩ (.int .i64 p))) := HJ.out.set_ HJr.out (Nat.le_refl _) _ _
      go_roundw
      case rel => exact ⟨k + 1, Nat.succ_le_of_lt hlt, by go_num, HI2, HJ2⟩
      case measure => exact meas_one hlt
    · obtain rfl : k = kR m := Nat.le_antisymm hkl (Nat.le_of_not_lt hlt)
      have hn2 : ¬ ((kR m : Int) < m.rings) := by omega
      have HI2 : Hid (MnI wB B1 B2 L W.heap.size m p q (la (stW m p q 0)) wr) := HI.out.eq (fun j _ => by rw [stW_zero]; exact fillA_end p _ j)
      clear HI
      gi_wp2_with fail
      gi_loopw [19] (fun i wi => ∃ k : Nat, k ≤ 601 ∧ i = .int .i64 k ∧ Hid (MnI wB B1 B2 L W.heap.size m p q (la (stW m p q k)) wi) ∧ Hid (J (rng k) wi)) (fun i _ => 601 - (intOf i).toNat)
      case atStart => exact ⟨0, Nat.zero_le _, rfl, HI2, HJr⟩
      case round =>
        obtain ⟨k, hkl, rfl, HI, HJi⟩ := hrel
        clear d0 s0 s1
        obtain ⟨d0, d1, d2, d3, d4, d5, d6, d7, d8, d9, d10, d11⟩ := (show MdBk wB B1 88 m wr from ⟨HI.out.b1, HI.out.b⟩).cells
        obtain ⟨s0, s1, -, -, -⟩ := HI.out.b2.two
        obtain ⟨x0, x1, x2, x3, x4, x5, x6, x7⟩ := HI.out.nb.cells
        by_cases hlt : k < 601
        · have hlen : (rng k).length < 601 := Nat.lt_of_le_of_lt (rng_len k) hlt
          obtain ⟨fn, tmps, assign, body, hy, hR⟩ := HY.out _ ⟨k, hlt⟩ wr HJi.out hlen
          dsimp only [encMin] at hy
          have HRR := Lib.hid hR
          have hk600 : (k : Int) < 601 := by omega
          clear hR hlen
          gi_wp2_with fail
          refine ⟨fun _ => by omega, ?_⟩
          refine HRR.out.mono ?_
          rintro e W3 (⟨rfl, hJ3, hk3⟩ | ⟨rfl, hJx3⟩)
          · have HJ3 := Lib.hid hJ3
            have HI3 := Lib.hid (HI.out.keep n1 n2 hk3)
            clear hJ3 hk3 d0 d1 d2 d3 d4 d5 d6 d7 d8 d9 d10 d11 s0 s1 x0 x1 x2 x3 x4 x5 x6 x7 hy HRR
            obtain ⟨d0, d1, d2, d3, d4, d5, d6, d7, d8, d9, d10, d11⟩ := (show MdBk wB B1 88 m W3 from ⟨HI3.out.b1, HI3.out.b⟩).cells
            obtain ⟨s0, s1, -, -, -⟩ := HI3.out.b2.two
            obtain ⟨x0, x1, x2, x3, x4, x5, x6, x7⟩ := HI3.out.nb.cells
            gi_wp2_with fail
            refine ⟨trivial, fun _ => by omega, ?_⟩
            refine (callsIn_wide.2 (later_any hm (stW_length m p q k) (stW_in hm hp hq k) hq)).mono ?_
            rintro e w4 ⟨rfl, hb4⟩
            rw [← stW_succ]
            have HI4 := Lib.hid ((HI3.out.on hb4).on ((Below.refl _ w4).alloc (Nat.le_refl _) (.cells #[.int .i64 (la (stW m p q (k + 1)) 0), .int .i64 (la (stW m p q (k + 1)) 1), .int .i64 (la (stW m p q (k + 1)) 2), .int .i64 (la (stW m p q (k + 1)) 3), .int .i64 (la (stW m p q (k + 1)) 4), .int .i64 (la (stW m p q (k + 1)) 5), .int .i64 (la (stW m p q (k + 1)) 6), .int .i64 (la (stW m p q (k + 1)) 7)] 90)))
            have HJ4 := Lib.hid (HJ.out.below HJ3.out (hb4.trans (((Below.refl _ w4).alloc (Nat.le_refl _) (.cells #[.int .i64 (la (stW m p q (k + 1)) 0), .int .i64 (la (stW m p q (k + 1)) 1), .int .i64 (la (stW m p q (k + 1)) 2), .int .i64 (la (stW m p q (k + 1)) 3), .int .i64 (la (stW m p q (k + 1)) 4), .int .i64 (la (stW m p q (k + 1)) 5), .int .i64 (la (stW m p q (k + 1)) 6), .int .i64 (la (stW m p q (k + 1)) 7)] 90)).mono hb4.size)))
            have HX := Lib.hid (W8.mk (Blk.new w4 90 #[.int .i64 (la (stW m p q (k + 1)) 0), .int .i64 (la (stW m p q (k + 1)) 1), .int .i64 (la (stW m p q (k + 1)) 2), .int .i64 (la (stW m p q (k + 1)) 3), .int .i64 (la (stW m p q (k + 1)) 4), .int .i64 (la (stW m p q (k + 1)) 5), .int .i64 (la (stW m p q (k + 1)) 6), .int .i64 (la (stW m p q (k + 1)) 7)]))
            clear d0 d1 d2 d3 d4 d5 d6 d7 d8 d9 d10 d11 s0 s1 x0 x1 x2 x3 x4 x5 x6 x7
            obtain ⟨x0, x1, x2, x3, x4, x5, x6, x7⟩ := HI4.out.nb.cells
            obtain ⟨f0, f1, f2, f3, f4, f5, f6, f7⟩ := HI4.out.nb.frozen
            obtain ⟨y0, y1, y2, y3, y4, y5, y6, y7⟩ := HX.out.cells
            obtain ⟨r, hr, hiff⟩ := w8_eql (la (stW m p q (k + 1))) (la (stW m p q k)) (fun j _ => la_in (stW_in hm hp hq (k + 1)) j) (fun j _ => la_in (stW_in hm hp hq k) j)
            have HIFF := Lib.hid hiff
            have hg := @run_eqGuard_agg Try.prog
            have hgg := w8_guard
            clear hb4 hiff
            cases r with
            | true =>
              gi_wp2_with fail
              refine bodyPost_ret (results_none rfl _ _ _) rfl ?_
              exact ⟨⟨_, rfl⟩, .inl ⟨rng (k + 1), ⟨k, by omega, rfl, .inr (la_inj (by rw [stW_length, stW_length]) (by rw [stW_length]; exact hk8) (HIFF.out.1 (by simp)))⟩, by rw [rng_succ hlt]; exact HJ4.out⟩⟩
            | false =>
              gi_wp2_with fail
              have HI5 : Hid (MnI wB B1 B2 L W.heap.size m p q (la (stW m p q (k + 1))) (set8 (w4.alloc (.cells #[.int .i64 (la (stW m p q (k + 1)) 0), .int .i64 (la (stW m p q (k + 1)) 1), .int .i64 (la (stW m p q (k + 1)) 2), .int .i64 (la (stW m p q (k + 1)) 3), .int .i64 (la (stW m p q (k + 1)) 4), .int .i64 (la (stW m p q (k + 1)) 5), .int .i64 (la (stW m p q (k + 1)) 6), .int .i64 (la (stW m p q (k + 1)) 7)] 90)) W.heap.size (la (stW m p q (k + 1))))) := HI4.out.puts _
              have HJ5 : Hid (J (rng (k + 1)) (set8 (w4.alloc (.cells #[.int .i64 (la (stW m p q (k + 1)) 0), .int .i64 (la (stW m p q (k + 1)) 1), .int .i64 (la (stW m p q (k + 1)) 2), .int .i64 (la (stW m p q (k + 1)) 3), .int .i64 (la (stW m p q (k + 1)) 4), .int .i64 (la (stW m p q (k + 1)) 5), .int .i64 (la (stW m p q (k + 1)) 6), .int .i64 (la (stW m p q (k + 1)) 7)] 90)) W.heap.size (la (stW m p q (k + 1))))) := by
                show J _ _
                rw [rng_succ hlt]; exact set8_j HJ.out HJ4.out (Nat.le_refl _) _
              go_roundw
              case rel => exact ⟨k + 1, Nat.succ_le_of_lt hlt, by go_num, HI5, HJ5⟩
              case measure => exact meas_one hlt
          · have HJ3 := Lib.hid hJx3
            clear hJx3
            gi_wp2_with fail
            refine bodyPost_ret (results_none rfl _ _ _) rfl ?_
            exact ⟨⟨_, rfl⟩, .inr ⟨_, ⟨k, by omega, by rw [rng_succ hlt]⟩, HJ3.out⟩⟩
        · obtain rfl : k = 601 := by omega
          gi_wp2_with fail
          go_end0
          exact ⟨⟨_, rfl⟩, .inl ⟨_, ⟨600, Nat.le_refl _, rfl, .inl rfl⟩, HJi.out⟩⟩
end Go.Proofs.Ytljbjcnfkbmjkaa
