/- mould.topUp's closure: contract. -/
import Derived.Test.YtljbjcnfkbmjkaaMdF
import Derived.Test.YtljbjcnfkbmjkaaGa
namespace Go.Proofs.Ytljbjcnfkbmjkaa
open Go.RowKit Go.Shelf Go.Maps
attribute [local go_sem] Oper.semAt_some

/-- What topUp's boxes hold. -/
structure TuI (B b : Nat) (m : Md) (o : List Int) (a h p : Int) (W : World) : Prop where
  v : Blk W B 88 #[.int .i64 m.rings, .int .i64 m.give, .int .i64 m.plo, .int .i64 m.phi, .int .i64 m.wlo, .int .i64 m.whi, .int .i64 m.st, .int .i64 m.shrink, .int .i64 m.skin, .int .i64 m.fill, .int .i64 m.gap, .int .i64 m.deep]
  s : Blk W (B + 1) 105 #[.map (some b)]
  r : Blk W (B + 1 + 1) 120 #[.int .i64 0, .int .i64 0]
  f : Blk W (B + 1 + 1 + 1) 120 #[.int .i64 h, .int .i64 p]
  fr : Blk W (B + 1 + 1 + 1 + 1) 3 #[.int .i64 a]
  mp : MapAt W b o
  lb : b < B
theorem TuI.on {B b : Nat} {m : Md} {o : List Int} {a h p : Int} {W W' : World} (t : TuI B b m o a h p W) (hb : Below W.heap.size W W') : TuI B b m o a h p W' :=
  ⟨t.v.on hb, t.s.on hb, t.r.on hb, t.f.on hb, t.fr.on hb, t.mp.on hb, t.lb⟩
theorem TuI.grown {B b : Nat} {m : Md} {o : List Int} {a h p : Int} {W W' : World} {r : Nat} (t : TuI B b m o a h p W) (hg : W.grownBy W' (some r)) (hr : W.heap.size ≤ r) : TuI B b m o a h p W' :=
  t.on ((Below.refl _ W).grown hg (Nat.le_refl _) (fun k e => by cases e; exact hr))
theorem ranges_heap {H : Type} {P : Program} {k : TypeId} {R : Value → Option (DataW H × List MemPlace)} {w w' : World} {b r n : Nat} {D : DataW H} {left : Lit → Bool} {cnt : Nat} (h : w.ranges P k R b r n D left cnt)
    (hb : w'.heap[b]? = w.heap[b]?) (hr : w'.heap[r]? = w.heap[r]?) : w'.ranges P k R b r n D left cnt := by
  obtain ⟨es, clock, since, seen, c0, h1, h2, h3, h4, h5, h6⟩ := h
  exact ⟨es, clock, since, seen, c0, hb.trans h1, h2, h3, h4, hr.trans h5, h6⟩
theorem ranges_set {H : Type} {P : Program} {k : TypeId} {R : Value → Option (DataW H × List MemPlace)} {W : World} {b r n B : Nat} {D : DataW H} {left : Lit → Bool} {cnt : Nat} (h : W.ranges P k R b r n D left cnt)
    (hb : b < B) (hr : B + 1 + 1 + 1 + 1 < r) (v : Int) : (W.setCell ⟨B + 1 + 1 + 1, 0, none⟩ (.int .i64 v)).ranges P k R b r n D left cnt :=
  h.kept (grown_set _ _ _ _) (by simp; omega) (by simp; omega)
theorem sumF_le2 {f : Nat → Int → Int} {left : Lit → Bool} : ∀ (k : Nat) (o : List Int), (∀ r x, r < k + o.length → 0 ≤ f r x) → 0 ≤ sumF f left k o ∧ sumF f left k o ≤ fullF f k o
  | _, [], _ => ⟨by simp [sumF], by simp [sumF, fullF]⟩
  | k, x :: xs, hf => by
    have h1 := sumF_le2 (f := f) (left := left) (k + 1) xs (fun r x h => hf r x (by simp only [List.length_cons]; omega))
    have h2 := hf k x (by simp)
    simp only [sumF, fullF]
    by_cases hx : 0 ≤ x
    · by_cases hl : left (.int .i64 (k : Int)) = false
      · rw [if_pos ⟨hx, hl⟩, if_pos hx]; omega
      · rw [if_neg (fun h => hl h.2), if_pos hx]; omega
    · rw [if_neg (fun h => hx h.1), if_neg hx]; omega
theorem grow_le {m : Md} (hm : MdIn m) {o : List Int} (ho : o.length = kR m) {a n : Int} (han : a ≤ n + 1) (left : Lit → Bool) : 0 ≤ sumF (growF m a n) left 0 o ∧ sumF (growF m a n) left 0 o ≤ 24000 := by
  have h1 := sumF_le2 (f := growF m a n) (left := left) 0 o (fun r x hr => by
    unfold growF
    split
    · exact (shrV_nonneg hm (by omega)).1
    · exact Int.le_refl _)
  rw [grow_full ho han] at h1
  have h2 := gM_bounds hm o n
  have h3 := gM_bounds hm o (a - 1)
  omega
theorem TuI.keep {B b : Nat} {m : Md} {o : List Int} {a h p : Int} {W W' : World} {R : Nat} (t : TuI B b m o a h p W) (hg : W.grownBy W' (some R)) (hR : B + 1 + 1 + 1 + 1 < R) : TuI B b m o a h p W' :=
  ⟨(hg.block _ t.v.lt (by simp; omega)).trans t.v, (hg.block _ t.s.lt (by simp; omega)).trans t.s, (hg.block _ t.r.lt (by simp; omega)).trans t.r, (hg.block _ t.f.lt (by simp; omega)).trans t.f, (hg.block _ t.fr.lt (by simp; omega)).trans t.fr,
    t.mp.grown hg (by have := t.lb; simp; omega), t.lb⟩
theorem TuI.put {B b : Nat} {m : Md} {o : List Int} {a h p : Int} {W : World} (t : TuI B b m o a h p W) (h' : Int) : TuI B b m o a h' p (W.setCell ⟨B + 1 + 1 + 1, 0, none⟩ (.int .i64 h')) :=
  ⟨t.v.far (by simp; omega) _, t.s.far (by simp) _, t.r.far (by simp) _, t.f.set_ 0 _, t.fr.far (by simp) _, t.mp.far t.f, t.lb⟩
theorem TuI.putA {B b : Nat} {m : Md} {o : List Int} {a h p : Int} {W : World} (t : TuI B b m o a h p W) (a' : Int) : TuI B b m o a' h p (W.setCell ⟨B + 1 + 1 + 1 + 1, 0, none⟩ (.int .i64 a')) :=
  ⟨t.v.far (by simp; omega) _, t.s.far (by simp) _, t.r.far (by simp) _, t.f.far (by simp) _, t.fr.set_ 0 _, t.mp.far t.fr, t.lb⟩
set_option maxRecDepth 100000 in
set_option maxHeartbeats 2000000 in
theorem grow_any {w : World} {B b : Nat} {m : Md} {o : List Int} {a h p n : Int} (hm : MdIn m) (ho : o.length = kR m) (ht : TuI B b m o a h p w) (hh : 0 ≤ h ∧ h ≤ 24000) (ha : 0 ≤ a) (han : a ≤ n + 1) (hn : n ≤ 600) :
    Calls Try.prog 93 #[.int .i64 n, .pointer (some ⟨B + 1, 0, none⟩), .pointer (some ⟨B + 1 + 1 + 1 + 1, 0, none⟩), .pointer (some ⟨B + 1 + 1 + 1, 0, none⟩), .pointer (some ⟨B, 0, none⟩)] w fun e w' => e = .returned (.tuple #[]) ∧ TuI B b m o (n + 1) (h + (gM m o n - gM m o (a - 1))) p w' ∧ Below B w w' := by
  obtain ⟨D, hown, hrep⟩ := ht.mp
  have HO := Lib.hid hown
  have HR := Lib.hid hrep
  have HT := Lib.hid ht
  have x0 := ht.s.cell 0
  have hls := ht.s.lt
  have hlB := ht.v.lt
  have hlR := ht.fr.lt
  clear hown hrep ht
  go_enter Try.func93, Try.ntmps93
  go_wp2_with (first | (at_range; refine wpList_range_own _ rfl _ 105 rfl 3 3 (int_keyed Try.underlying3) Try.underlying105 _ b _ _ rfl HO.out ?_; intro w4 hrg4 hg4 hs4) | fail)
  have HB4 := Lib.hid ((Below.refl _ w).grown hg4 (Nat.le_refl _) (fun k e => by cases e))
  have HG4 := Lib.hid hrg4
  have HT4 := Lib.hid (HT.out.on HB4.out)
  clear hrg4 hg4 x0 hls
  go_frame
  go_loopw [] (fun wr => ∃ (left : Lit → Bool) (cnt : Nat), Hid (wr.ranges Try.prog 3 (plainElem Try.prog 3) b w.heap.size (size D) D left cnt) ∧ Hid (TuI B b m o a (h + sumF (growF m a n) left 0 o) p wr) ∧ Hid (Below B w wr))
    (fun wr => wr.rangeLeft b w.heap.size)
  case atStart => exact ⟨_, _, HG4.out, by rw [sumF_start _ 0 o (fun r x hr hx => (HR.out.has_ _).2 ⟨r, x, by omega, hr, hx⟩), Int.add_zero]; exact HT4.out, HB4.out.mono (Nat.le_of_lt hlB)⟩
  case round =>
    obtain ⟨left, cnt, HG, HT1, HB1⟩ := hrel
    clear HT4 HG4
    have hgl := grow_le hm ho han left
    go_wp2_with (first
      | (at_next; refine wpList_next_ranges_ii _ rfl _ rfl 3 3 .i64 .i64 (int_keyed Try.underlying3) Try.underlying3 Try.underlying3 b w.heap.size _ _ _ _ rfl HG.out ?_ ?_)
      | fail)
    · intro hc0 hl0
      have ht := HT1.out
      rw [sumF_end _ hl0, grow_full ho han] at ht
      have HT2 := Lib.hid ht
      have hw1 : IntKind.i64.wrap (n + 1) = n + 1 := IntWalk.i64_in _ (by omega)
      have x0 := HT2.out.fr.cell 0
      have f0 := HT2.out.fr.frozen 0
      have hlt := HT2.out.fr.lt
      clear ht HG
      go_wp2_with fail
      go_end0
      exact ⟨rfl, HT2.out.putA _, below_set HB1.out (by omega)⟩
    · intro x c w5 cnt1 hwx hwc hlx hat hrg1 hlt hg1 hs1 hen
      obtain ⟨r, y, rfl, hry, hy0⟩ := (HR.out.has_ x).1 (has_true_of_atKey hat)
      have hcy : c = y := by
        have h1 := HR.out.at_ r y hry hy0 (.lit (.int .i64 0))
        rw [hat] at h1
        simpa using h1
      subst hcy
      have hst := sumF_step (growF m a n) (left := left) 0 o r hry hy0 (by rw [Nat.zero_add]; exact hlx)
      rw [Nat.zero_add] at hst
      have hrk : r < kR m := by rw [← ho]; exact (List.getElem?_eq_some_iff.1 hry).1
      have HST := Lib.hid hst
      have HG1 := Lib.hid hrg1
      have HB2 := Lib.hid (HB1.out.grown hg1 (Nat.le_trans (Nat.le_of_lt hlB) HB1.out.size) (fun k e => by cases e; exact Nat.le_of_lt hlB))
      have HT2 := Lib.hid (HT1.out.keep hg1 hlR)
      have hm1 := hrg1.left_eq
      have hm0 := HG.out.left_eq
      clear hrg1 hg1 hat hlx hst
      have x0 := HT2.out.fr.cell 0
      have hlf := HT2.out.fr.lt
      by_cases hac : a ≤ c
      · by_cases hcn : c ≤ n
        · rw [growF, if_pos ⟨hac, hcn⟩] at HST
          have hsb := shrV_nonneg hm hrk
          have HC := Lib.hid (fun W => shrinks_any hm hrk W)
          have y0 := HT2.out.f.cell 0
          have g0 := HT2.out.f.frozen 0
          have hlF := HT2.out.f.lt
          have hw1 : IntKind.i64.wrap (h + sumF (growF m a n) left 0 o + shrV m r) = h + sumF (growF m a n) left 0 o + shrV m r := IntWalk.i64_in _ (by omega)
          obtain ⟨z0, z1, z2, z3, z4, z5, z6, z7, z8, z9, z10, z11⟩ := (MdBk.cells ⟨HT2.out.v, Below.refl _ _⟩)
          have hlV := HT2.out.v.lt
          have HTD := Lib.hid (HT2.out.on (Below.refl _ _).drew)
          go_wp2_with fail
          go_region_law (first | (go_simp; refine (HC.out _).mono ?_; rintro e w6 ⟨rfl, hb6⟩; have HT6 := Lib.hid (HTD.out.on hb6); have HB6 := Lib.hid (HB2.out.drew.trans (hb6.mono (Nat.le_trans (Nat.le_of_lt hlB) (HB2.out.drew.size)))); have HG6 := Lib.hid (ranges_heap HG1.out (hb6.block _ (Nat.lt_of_lt_of_le (Nat.lt_of_lt_of_le HT2.out.lb (Nat.le_of_lt HT2.out.v.lt)) (Nat.le_refl _))) (hb6.block _ HG1.out.lt)); have y6 := HT6.out.f.cell 0; have g6 := HT6.out.f.frozen 0; have hl6 := HT6.out.f.lt; clear hb6) | fail)
          all_goals (have HG7 := Lib.hid (ranges_set HG6.out HT2.out.lb hlR (h + sumF (growF m a n) left 0 o + shrV m r)))
          all_goals (have HT7 := Lib.hid (HT6.out.put (h + sumF (growF m a n) left 0 o + shrV m r)))
          all_goals (have HB7 := Lib.hid (below_set (g := B + 1 + 1 + 1) (k := 0) (v := .int .i64 (h + sumF (growF m a n) left 0 o + shrV m r)) HB6.out (by omega)))
          all_goals (have hm7 := HG7.out.left_eq)
          all_goals go_wp2_with fail
          all_goals go_roundw
          case rel => exact ⟨_, _, HG7, by rw [HST.out, ← Int.add_assoc]; exact HT7.out, HB7⟩
          case measure => rw [hm7, hm0]; exact hlt
          case rel => exact ⟨_, _, HG7, by rw [HST.out, ← Int.add_assoc]; exact HT7.out, HB7⟩
          case measure => rw [hm7, hm0]; exact hlt
          case rel => exact ⟨_, _, HG7, by rw [HST.out, ← Int.add_assoc]; exact HT7.out, HB7⟩
          case measure => rw [hm7, hm0]; exact hlt
        · rw [growF, if_neg (by omega), Int.add_zero] at HST
          go_wp2_with fail
          go_roundw
          case rel => exact ⟨_, _, HG1, by rw [HST.out]; exact HT2.out, HB2⟩
          case measure => rw [hm1, hm0]; exact hlt
      · rw [growF, if_neg (by omega), Int.add_zero] at HST
        go_wp2_with fail
        go_roundw
        case rel => exact ⟨_, _, HG1, by rw [HST.out]; exact HT2.out, HB2⟩
        case measure => rw [hm1, hm0]; exact hlt
end Go.Proofs.Ytljbjcnfkbmjkaa
