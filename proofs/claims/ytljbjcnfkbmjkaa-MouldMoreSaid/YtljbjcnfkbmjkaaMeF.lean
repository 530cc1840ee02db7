/- mould.Fewest: contract. -/
import Derived.Test.YtljbjcnfkbmjkaaMe8
import Derived.Test.YtljbjcnfkbmjkaaMeA
import Derived.Test.YtljbjcnfkbmjkaaMeD
import Derived.Test.YtljbjcnfkbmjkaaMd7
import Derived.Test.YtljbjcnfkbmjkaaGa
namespace Go.Proofs.Ytljbjcnfkbmjkaa
open Go.RowKit Go.Shelf Go.Maps
attribute [local go_sem] Oper.semAt_some

theorem MapAt.heap {W W' : World} {b : Nat} {o : List Int} (h : MapAt W b o) (e : W'.heap[b]? = W.heap[b]?) : MapAt W' b o := by
  obtain ⟨D, ⟨es, clock, hh, r⟩, hr⟩ := h
  exact ⟨D, ⟨es, clock, e.trans hh, r⟩, hr⟩
theorem late_pl {m : Md} (hm : MdIn m) {L : Int} (hL : L ≤ 600) {k : Nat} (h0 : ∀ x ∈ lateL m.gap k L, 0 ≤ x) : PlOk (lateL m.gap k L) := by
  refine ⟨(lateL_gaps m.gap k L).asc hm.gap.1, fun x hx => ⟨h0 x hx, ?_⟩⟩
  obtain ⟨i, hi, rfl⟩ := List.mem_iff_getElem.1 hx
  rw [lateL_length] at hi
  have h2 := lateL_get m.gap k L i _ (List.getElem?_eq_getElem (by rw [lateL_length]; exact hi))
  have h3 : 0 ≤ ((k : Int) - 1 - i) * m.gap := Int.mul_nonneg (by omega) (by have := hm.gap; omega)
  omega
def lenV : Value → Nat
  | .slice _ n _ => n
  | _ => 0
/-- The next topping: k of them are later. -/
def nextT (m : Md) (L : Int) (k : Nat) : Int := L - k * m.gap
theorem nextT_succ (m : Md) (L : Int) (k : Nat) : nextT m L k - m.gap = nextT m L (k + 1) := by
  unfold nextT
  rw [show ((k + 1 : Nat) : Int) * m.gap = k * m.gap + m.gap by rw [Int.natCast_add, Int.add_mul]; simp]
  omega
theorem nextT_le {m : Md} (hm : MdIn m) {L : Int} (hL : L ≤ 600) (k : Nat) : nextT m L k ≤ 600 := by
  unfold nextT
  have : 0 ≤ (k : Int) * m.gap := Int.mul_nonneg (by omega) (by have := hm.gap; omega)
  omega
theorem late_cons (m : Md) (L : Int) (k : Nat) : nextT m L k :: lateL m.gap k L = lateL m.gap (k + 1) L := (lateL_cons _ _ _).symm
/-- Where the loop over the toppings stands. -/
structure FeI (w : World) (m : Md) (a b : List Int) (V X cm hm B : Nat) (L : Int) (k : Nat) (v : Value) (W : World) : Prop where
  vw : MdBk w V 88 m W
  x : Blk W X 106 #[.map (some cm), .map (some hm)]
  mh : MapAt W hm b
  own : IntsOut B W v (lateL m.gap k L)
  nil : lateL m.gap k L = [] → v = .slice none 0 0
  k40 : k ≤ 40
  pos : ∀ x ∈ lateL m.gap k L, 0 ≤ x
  few : fewR m = fewL m b (42 - k) (lateL m.gap k L) (nextT m L k)
  lV : V < B
  lX : X < B
  lh : hm < B
  lw : w.heap.size ≤ B
  lB : B ≤ W.heap.size
theorem FeI.on {w W W' : World} {m : Md} {a b : List Int} {V X cm hm B : Nat} {L : Int} {k : Nat} {v : Value} (t : FeI w m a b V X cm hm B L k v W) (hb : Below W.heap.size W W') : FeI w m a b V X cm hm B L k v W' :=
  ⟨t.vw.on hb, t.x.on hb, t.mh.on hb, own_below t.own hb, t.nil, t.k40, t.pos, t.few, t.lV, t.lX, t.lh, t.lw, Nat.le_trans t.lB hb.size⟩
theorem FeI.next {w W W' : World} {m : Md} {a b : List Int} {V X cm hm B : Nat} {L : Int} {k : Nat} {v v' : Value} (t : FeI w m a b V X cm hm B L k v W) (hb : Below B W W') (hv : IntsOut B W' v' (nextT m L k :: lateL m.gap k L)) (h0 : 0 ≤ nextT m L k) (hk : k ≠ 40) (hd : ¬ hollM m b (lateL m.gap k L) ≤ m.deep) : FeI w m a b V X cm hm B L (k + 1) v' W' := by
  have hpos : ∀ x ∈ lateL m.gap (k + 1) L, 0 ≤ x := by
    intro x hx
    rw [← late_cons] at hx
    rcases List.mem_cons.1 hx with rfl | hx
    · exact h0
    · exact t.pos x hx
  have hfew : fewR m = fewL m b (42 - (k + 1)) (lateL m.gap (k + 1) L) (nextT m L (k + 1)) := by
    have h1 := t.few
    rw [show 42 - k = (42 - (k + 1)) + 1 by have := t.k40; omega, fewL, if_neg hd, if_neg (by rw [lateL_length]; omega), late_cons, nextT_succ] at h1
    exact h1
  exact ⟨⟨t.vw.bk.below hb t.lV, t.vw.b.trans (hb.mono t.lw)⟩, t.x.below hb t.lX, t.mh.heap (hb.block _ t.lh), by rw [← late_cons]; exact hv, (fun e => by rw [← late_cons] at e; cases e), (by have := t.k40; omega), hpos, hfew, t.lV, t.lX, t.lh, t.lw, Nat.le_trans t.lB hb.size⟩
theorem FeI.done {w W : World} {m : Md} {a b : List Int} {V X cm hm B : Nat} {L : Int} {k : Nat} {v : Value} (t : FeI w m a b V X cm hm B L k v W) (hd : hollM m b (lateL m.gap k L) ≤ m.deep) : fewR m = (lateL m.gap k L, 0) := by
  have h1 := t.few
  rw [show 42 - k = (42 - (k + 1)) + 1 by have := t.k40; omega, fewL, if_pos hd] at h1
  exact h1
theorem FeI.fail {w W : World} {m : Md} {a b : List Int} {V X cm hm B : Nat} {L : Int} {k : Nat} {v : Value} (t : FeI w m a b V X cm hm B L k v W) (hd : ¬ hollM m b (lateL m.gap k L) ≤ m.deep) (h : nextT m L k < 0 ∨ k = 40) : fewR m = ([], 9) := by
  have h1 := t.few
  rw [show 42 - k = (42 - (k + 1)) + 1 by have := t.k40; omega, fewL, if_neg hd, if_pos (by rw [lateL_length]; exact h)] at h1
  exact h1
theorem fewR_bad {m : Md} (h : checkM m ≠ 0) : fewR m = ([], checkM m) := if_pos h
theorem fewR_never {m : Md} (h : checkM m = 0) {b : List Int} (hb : wh m true = b) (hn : never b = true) : fewR m = ([], 9) := by
  unfold fewR
  rw [if_neg (fun h2 => h2 h), hb, if_pos hn]
theorem fewR_good {m : Md} (h : checkM m = 0) {a b : List Int} (ha : wh m false = a) (hb : wh m true = b) (hn : never b = false) {L : Int} (hL : lastAt m a 601 = L) : fewR m = fewL m b (42 - 0) (lateL m.gap 0 L) (nextT m L 0) := by
  unfold fewR
  rw [if_neg (fun h2 => h2 h), hb, ha, hL, if_neg (by rw [hn]; decide), show nextT m L 0 = L by simp [nextT], show lateL m.gap 0 L = [] from rfl]
set_option maxRecDepth 100000 in
set_option maxHeartbeats 4000000 in
theorem fewest_any (m : Md) (w : World) :
    Calls Try.prog 33 #[.agg #[.int .i64 m.rings, .int .i64 m.give, .int .i64 m.plo, .int .i64 m.phi, .int .i64 m.wlo, .int .i64 m.whi, .int .i64 m.st, .int .i64 m.shrink, .int .i64 m.skin, .int .i64 m.fill, .int .i64 m.gap, .int .i64 m.deep]] w fun e w' => ∃ v, e = .returned (.tuple #[v, .int .i64 (fewR m).2]) ∧ IntsOut w.heap.size w' v (fewR m).1 ∧ Below w.heap.size w w' := by
  have HM := Lib.hid (MdBk.new w 25 m)
  by_cases hck : checkM m = 0
  · have hok := checkM_ok.1 hck
    have hkr := kR_eq hok.toMdIn
    have hk8 := (kR_le hok.toMdIn).2
    have hla := wh_length m false
    have hlb := wh_length m true
    have HE := Lib.hid (fun (W : World) => ends_wh (w := W) hok.toMdIn)
    have HG := Lib.hid (fun (a b : List Int) (ha : wh m false = a) (hb : wh m true = b) => fewR_good hck ha hb)
    have HN := Lib.hid (fun (b : List Int) (hb : wh m true = b) => fewR_never hck hb)
    obtain ⟨a, ha⟩ : ∃ a, wh m false = a := ⟨_, rfl⟩
    obtain ⟨b, hb⟩ : ∃ b, wh m true = b := ⟨_, rfl⟩
    have HG2 := Lib.hid (HG.out a b ha hb)
    have HN2 := Lib.hid (HN.out b hb)
    rw [ha] at hla HE
    rw [hb] at hlb HE
    clear HG HN ha hb
    cases hnb : never b with
    | true =>
      have HR := Lib.hid (HN2.out hnb)
      clear HG2 HN2
      go_enter Try.func33, Try.ntmps33
      obtain ⟨c0, c1, c2, c3, c4, c5, c6, c7, c8, c9, c10, c11⟩ := HM.out.cells
      go_wp2_with (first
        | (go_at_call 18; refine (check_any m _).mono ?_; rw [hck]; rintro e w1 ⟨rfl, hb1⟩; clear c0 c1 c2 c3 c4 c5 c6 c7 c8 c9 c10 c11; have HM1 := Lib.hid (HM.out.on hb1); obtain ⟨c0, c1, c2, c3, c4, c5, c6, c7, c8, c9, c10, c11⟩ := HM1.out.cells; clear hb1)
        | (go_at_call 64; refine (HE.out _).mono ?_; rintro e w2 ⟨cm, hm, rfl, hc, hh, hb2⟩; clear c0 c1 c2 c3 c4 c5 c6 c7 c8 c9 c10 c11; have hV2 := (Blk.new w1 88 #[.int .i64 m.rings, .int .i64 m.give, .int .i64 m.plo, .int .i64 m.phi, .int .i64 m.wlo, .int .i64 m.whi, .int .i64 m.st, .int .i64 m.shrink, .int .i64 m.skin, .int .i64 m.fill, .int .i64 m.gap, .int .i64 m.deep]).on hb2; have HB2 := Lib.hid ((HM1.out.b.alloc HM1.out.b.size (.cells #[.int .i64 m.rings, .int .i64 m.give, .int .i64 m.plo, .int .i64 m.phi, .int .i64 m.wlo, .int .i64 m.whi, .int .i64 m.st, .int .i64 m.shrink, .int .i64 m.skin, .int .i64 m.fill, .int .i64 m.gap, .int .i64 m.deep] 88)).trans (hb2.mono (by have := HM1.out.b.size; simp; omega))); have hvl := hV2.lt; obtain ⟨c0, c1, c2, c3, c4, c5, c6, c7, c8, c9, c10, c11⟩ := (MdBk.cells (w := w2) ⟨hV2, Below.refl _ _⟩); have HH := Lib.hid hh; clear hc hh hb2 hV2)
        | (go_at_call 66; refine (complete_any (b := cm) hok.toMdIn hlb (HH.out.on ((Below.refl _ w2).alloc (Nat.le_refl _) _))).mono ?_; rw [never_all, hnb]; rintro e w4 ⟨rfl, hb4⟩; have HB4 := Lib.hid ((HB2.out.alloc HB2.out.size (.cells #[.map (some cm), .map (some hm)] 106)).trans (hb4.mono (by have := HB2.out.size; simp; omega))); clear hb4)
        | fail)
      refine bodyPost_ret (v := .tuple #[.slice none 0 0, .int .i64 9]) (by simp [results, Try.results33, go_sem]) rfl ⟨.slice none 0 0, by rw [HR.out], by rw [HR.out]; exact IntsOut.nil _ _, HB4.out⟩
    | false =>
      obtain ⟨L, hL⟩ : ∃ L, lastAt m a 601 = L := ⟨_, rfl⟩
      have hLb := lastAt_b m a hL
      have HFW := Lib.hid (HG2.out hnb hL)
      have HLA := Lib.hid (fun (W : World) (b1 c1 : Nat) => latest_any (w := W) (b := b1) (cc := c1) hL)
      clear HG2 HN2 hL
      go_enter Try.func33, Try.ntmps33
      obtain ⟨c0, c1, c2, c3, c4, c5, c6, c7, c8, c9, c10, c11⟩ := HM.out.cells
      go_wp2_with (first
        | (go_at_call 18; refine (check_any m _).mono ?_; rw [hck]; rintro e w1 ⟨rfl, hb1⟩; clear c0 c1 c2 c3 c4 c5 c6 c7 c8 c9 c10 c11; have HM1 := Lib.hid (HM.out.on hb1); obtain ⟨c0, c1, c2, c3, c4, c5, c6, c7, c8, c9, c10, c11⟩ := HM1.out.cells; clear hb1)
        | (go_at_call 64; refine (HE.out _).mono ?_; rintro e w2 ⟨cm, hm, rfl, hc, hh, hb2⟩; clear c0 c1 c2 c3 c4 c5 c6 c7 c8 c9 c10 c11; have hV2 := (Blk.new w1 88 #[.int .i64 m.rings, .int .i64 m.give, .int .i64 m.plo, .int .i64 m.phi, .int .i64 m.wlo, .int .i64 m.whi, .int .i64 m.st, .int .i64 m.shrink, .int .i64 m.skin, .int .i64 m.fill, .int .i64 m.gap, .int .i64 m.deep]).on hb2; have HB2 := Lib.hid ((HM1.out.b.alloc HM1.out.b.size (.cells #[.int .i64 m.rings, .int .i64 m.give, .int .i64 m.plo, .int .i64 m.phi, .int .i64 m.wlo, .int .i64 m.whi, .int .i64 m.st, .int .i64 m.shrink, .int .i64 m.skin, .int .i64 m.fill, .int .i64 m.gap, .int .i64 m.deep] 88)).trans (hb2.mono (by have := HM1.out.b.size; simp; omega))); have hvl := hV2.lt; have HV2 := Lib.hid hV2; obtain ⟨c0, c1, c2, c3, c4, c5, c6, c7, c8, c9, c10, c11⟩ := (MdBk.cells (w := w2) ⟨hV2, Below.refl _ _⟩); have HC := Lib.hid hc; have HH := Lib.hid hh; clear hc hh hb2 hV2)
        | (go_at_call 66; refine (complete_any (b := cm) hok.toMdIn hlb (HH.out.on ((Below.refl _ w2).alloc (Nat.le_refl _) _))).mono ?_; rw [never_all, hnb]; rintro e w4 ⟨rfl, hb4⟩; have HB24 := Lib.hid (((Below.refl _ w2).alloc (Nat.le_refl _) (.cells #[.map (some cm), .map (some hm)] 106)).trans (hb4.mono (by simp))); have HB4 := Lib.hid (HB2.out.trans (HB24.out.mono HB2.out.size)); have hX4 := (Blk.new w2 106 #[.map (some cm), .map (some hm)]).on hb4; have HX4 := Lib.hid hX4; have hV4 := HV2.out.on HB24.out; have hvl4 := hV4.lt; have hxl4 := hX4.lt; clear c0 c1 c2 c3 c4 c5 c6 c7 c8 c9 c10 c11; obtain ⟨c0, c1, c2, c3, c4, c5, c6, c7, c8, c9, c10, c11⟩ := (MdBk.cells (w := w4) ⟨hV4, Below.refl _ _⟩); have d0 := hX4.cell 0; have d1 := hX4.cell 1; have HV4 := Lib.hid hV4; clear hb4 hX4 hV4)
        | (go_at_call 80; refine (HLA.out _ _ _ (HC.out.on HB24.out) (by omega)).mono ?_; rintro e w5 ⟨rfl, hb5⟩; have hV5 := HV4.out.on hb5; have hX5 := HX4.out.on hb5; have hH5 := (HH.out.on HB24.out).on hb5; have hB5 := HB4.out.trans (hb5.mono HB4.out.size); have HI : Hid (FeI w m a b w1.heap.size w2.heap.size cm hm w5.heap.size L 0 (.slice none 0 0) w5) := ⟨⟨hV5, hB5⟩, hX5, hH5, IntsOut.nil _ _, fun _ => rfl, by omega, by simp [lateL], HFW.out, hV5.lt, hX5.lt, hH5.lt, hB5.size, Nat.le_refl _⟩; clear hb5 hV5 hX5 hH5 hB5 c0 c1 c2 c3 c4 c5 c6 c7 c8 c9 c10 c11 d0 d1)
        | fail)
      generalize hV : w1.heap.size = V at *
      generalize hX : w2.heap.size = X at *
      generalize hB : w5.heap.size = B at *
      clear hV hX hB hvl hvl4 hxl4 HV4 HX4 HV2 HB24 HB4 HB2 HH HC HM1 HM HE HLA HFW hck
      have HOK := Lib.hid hok
      go_loopw [7, 8] (fun x y W => ∃ (k : Nat), y = .int .i64 (nextT m L k) ∧ Hid (FeI w m a b V X cm hm B L k x W)) (fun x _ _ => 41 - lenV x)
      case atStart => exact ⟨0, by simp [nextT], HI⟩
      case round =>
        obtain ⟨k, rfl, HF⟩ := hrel
        clear HI
        obtain ⟨A, c, rfl, hin⟩ := HF.out.own.in_
        have hk40 := HF.out.k40
        have hnle := nextT_le HOK.out.toMdIn (show L ≤ 600 by omega) k
        have hgap := HOK.out.gap
        have hns := nextT_succ m L k
        have HPK := Lib.hid (late_pl HOK.out.toMdIn (show L ≤ 600 by omega) HF.out.pos)
        have HT := Lib.hid (fun (W' : World) (h : FeI w m a b V X cm hm B L k (.slice A (lateL m.gap k L).length c) W') => top_any (c := c) HOK.out.toMdIn hlb h.mh HPK.out (by obtain ⟨A2, c2, e, h2⟩ := h.own.in_; cases e; exact h2))
        rw [lateL_length] at HF HT
        rw [lateL_length]
        have HL := Lib.hid (fun (W : World) (h : FeI w m a b V X cm hm B L k (.slice A k c) W) => show W.cell? ⟨V, 0, none⟩ = some (.int .i64 m.rings) ∧ W.cell? ⟨V, 1, none⟩ = some (.int .i64 m.give) ∧ W.cell? ⟨V, 2, none⟩ = some (.int .i64 m.plo) ∧ W.cell? ⟨V, 3, none⟩ = some (.int .i64 m.phi) ∧ W.cell? ⟨V, 4, none⟩ = some (.int .i64 m.wlo) ∧ W.cell? ⟨V, 5, none⟩ = some (.int .i64 m.whi) ∧ W.cell? ⟨V, 6, none⟩ = some (.int .i64 m.st) ∧ W.cell? ⟨V, 7, none⟩ = some (.int .i64 m.shrink) ∧ W.cell? ⟨V, 8, none⟩ = some (.int .i64 m.skin) ∧ W.cell? ⟨V, 9, none⟩ = some (.int .i64 m.fill) ∧ W.cell? ⟨V, 10, none⟩ = some (.int .i64 m.gap) ∧ W.cell? ⟨V, 11, none⟩ = some (.int .i64 m.deep) ∧ W.cell? ⟨X, 0, none⟩ = some (.map (some cm)) ∧ W.cell? ⟨X, 1, none⟩ = some (.map (some hm)) ∧ V < W.heap.size ∧ FeI w m a b V X cm hm B L k (.slice A k c) W from ⟨h.vw.bk.cell 0, h.vw.bk.cell 1, h.vw.bk.cell 2, h.vw.bk.cell 3, h.vw.bk.cell 4, h.vw.bk.cell 5, h.vw.bk.cell 6, h.vw.bk.cell 7, h.vw.bk.cell 8, h.vw.bk.cell 9, h.vw.bk.cell 10, h.vw.bk.cell 11, h.x.cell 0, h.x.cell 1, h.vw.bk.lt, h⟩)
        have if0 : ∀ (p q : Int) (W' : World), (Instr.field 120 (.agg #[.int .i64 p, .int .i64 q]) 0).run Try.prog W' = .ok (.int .i64 p) W' := fun _ _ _ => by kernel_rfl
        by_cases hd : m.deep < hollM m b (lateL m.gap k L)
        · go_wp2_with fail
          go_region_held3 (fun W => W.cell? ⟨V, 0, none⟩ = some (.int .i64 m.rings) ∧ W.cell? ⟨V, 1, none⟩ = some (.int .i64 m.give) ∧ W.cell? ⟨V, 2, none⟩ = some (.int .i64 m.plo) ∧ W.cell? ⟨V, 3, none⟩ = some (.int .i64 m.phi) ∧ W.cell? ⟨V, 4, none⟩ = some (.int .i64 m.wlo) ∧ W.cell? ⟨V, 5, none⟩ = some (.int .i64 m.whi) ∧ W.cell? ⟨V, 6, none⟩ = some (.int .i64 m.st) ∧ W.cell? ⟨V, 7, none⟩ = some (.int .i64 m.shrink) ∧ W.cell? ⟨V, 8, none⟩ = some (.int .i64 m.skin) ∧ W.cell? ⟨V, 9, none⟩ = some (.int .i64 m.fill) ∧ W.cell? ⟨V, 10, none⟩ = some (.int .i64 m.gap) ∧ W.cell? ⟨V, 11, none⟩ = some (.int .i64 m.deep) ∧ W.cell? ⟨X, 0, none⟩ = some (.map (some cm)) ∧ W.cell? ⟨X, 1, none⟩ = some (.map (some hm)) ∧ V < W.heap.size ∧ FeI w m a b V X cm hm B L k (.slice A k c) W)
            (first | assumption | exact HL.out _ (HF.out.on (Below.refl _ _).drew) | (go_split_ands; exact HL.out _ (by first | assumption | exact FeI.on (by assumption) (by assumption) | exact FeI.on (by assumption) (Below.refl _ _).drew | exact FeI.on (by assumption) (below_drewN' (Below.refl _ _) _))))
            (first | (go_at_call 76; go_split_ands; (with_reducible refine (HT.out _ (by assumption)).mono ?_); rintro e w7 ⟨rfl, hb7⟩) | fail)
          rename_i hfin
          obtain ⟨-, -, -, -, -, -, -, -, -, -, -, -, -, -, -, hf⟩ := hfin
          have HF7 := Lib.hid hf
          have hvc := hf.vw.bk.cell 10
          have hvl := hf.vw.bk.lt
          clear hf HT HL
          by_cases hn : nextT m L k < 0
          · have HR := Lib.hid (HF7.out.fail (by omega) (.inl hn))
            go_wp2_with fail
            refine bodyPost_ret (v := .tuple #[.slice none 0 0, .int .i64 9]) (by simp [results, Try.results33, go_sem]) rfl ⟨.slice none 0 0, by rw [HR.out], by rw [HR.out]; exact IntsOut.nil _ _, HF7.out.vw.b⟩
          · by_cases hk : k = 40
            · have HR := Lib.hid (HF7.out.fail (by omega) (.inr hk))
              have hki : ((k : Nat) : Int) = 40 := by omega
              clear hk
              go_wp2_with fail
              refine bodyPost_ret (v := .tuple #[.slice none 0 0, .int .i64 9]) (by simp [results, Try.results33, go_sem]) rfl ⟨.slice none 0 0, by rw [HR.out], by rw [HR.out]; exact IntsOut.nil _ _, HF7.out.vw.b⟩
            · have hki : ¬ ((k : Nat) : Int) = 40 := by omega
              have hki2 : (((k : Nat) : Int) == 40) = false := by simpa using hki
              have HFA := Lib.hid (HF7.out.on ((Below.refl _ w7).alloc (Nat.le_refl _) (.cells #[.int .i64 (nextT m L k)] 3)))
              have HIN := Lib.hid (insert_any (x := nextT m L k) (vb := w7.heap.size) HFA.out.own HFA.out.lB (Blk.new _ _ _) (fun e => by have h1 := (World.ownsRow.lt HF7.out.own _ e).2; omega) (by rw [lateL_length]; exact hk40) HFA.out.nil)
              have hw1 : IntKind.i64.wrap (nextT m L k - m.gap) = nextT m L (k + 1) := by rw [IntWalk.i64_in _ (by omega)]; exact hns
              have HNX := Lib.hid (fun (W' : World) (v' : Value) (hb : Below B _ W') (hv : IntsOut B W' v' (nextT m L k :: lateL m.gap k L)) => HFA.out.next hb hv (by omega) hk (by omega))
              clear hk hvc
              go_wp2_with (first
                | (go_at_call 81; refine HIN.out.mono ?_; rintro e w8 ⟨v', rfl, hv8, hb8⟩; have HF8 := Lib.hid (HNX.out _ _ hb8 hv8); have hvc := HF8.out.vw.bk.cell 10; have hvl8 := HF8.out.vw.bk.lt; clear hb8 hv8)
                | fail)
              go_roundw
              case rel => exact ⟨k + 1, rfl, HF8⟩
              case measure =>
                obtain ⟨A', c', rfl, _⟩ := HF8.out.own.in_
                simp only [lenV, lateL_length]
                omega
        · go_wp2_with fail
          go_region_held3 (fun W => W.cell? ⟨V, 0, none⟩ = some (.int .i64 m.rings) ∧ W.cell? ⟨V, 1, none⟩ = some (.int .i64 m.give) ∧ W.cell? ⟨V, 2, none⟩ = some (.int .i64 m.plo) ∧ W.cell? ⟨V, 3, none⟩ = some (.int .i64 m.phi) ∧ W.cell? ⟨V, 4, none⟩ = some (.int .i64 m.wlo) ∧ W.cell? ⟨V, 5, none⟩ = some (.int .i64 m.whi) ∧ W.cell? ⟨V, 6, none⟩ = some (.int .i64 m.st) ∧ W.cell? ⟨V, 7, none⟩ = some (.int .i64 m.shrink) ∧ W.cell? ⟨V, 8, none⟩ = some (.int .i64 m.skin) ∧ W.cell? ⟨V, 9, none⟩ = some (.int .i64 m.fill) ∧ W.cell? ⟨V, 10, none⟩ = some (.int .i64 m.gap) ∧ W.cell? ⟨V, 11, none⟩ = some (.int .i64 m.deep) ∧ W.cell? ⟨X, 0, none⟩ = some (.map (some cm)) ∧ W.cell? ⟨X, 1, none⟩ = some (.map (some hm)) ∧ V < W.heap.size ∧ FeI w m a b V X cm hm B L k (.slice A k c) W)
            (first | assumption | exact HL.out _ (HF.out.on (Below.refl _ _).drew) | (go_split_ands; exact HL.out _ (by first | assumption | exact FeI.on (by assumption) (by assumption) | exact FeI.on (by assumption) (Below.refl _ _).drew | exact FeI.on (by assumption) (below_drewN' (Below.refl _ _) _))))
            (first | (go_at_call 76; go_split_ands; (with_reducible refine (HT.out _ (by assumption)).mono ?_); rintro e w7 ⟨rfl, hb7⟩) | fail)
          rename_i hfin
          obtain ⟨-, -, -, -, -, -, -, -, -, -, -, -, -, -, -, hf⟩ := hfin
          have HF7 := Lib.hid hf
          have hvc := hf.vw.bk.cell 10
          have hvl := hf.vw.bk.lt
          clear hf HT HL
          have HR := Lib.hid (HF7.out.done (by omega))
          go_wp2_with fail
          refine bodyPost_ret (v := .tuple #[.slice A k c, .int .i64 0]) (by simp [results, Try.results33, go_sem]) rfl ⟨.slice A k c, by rw [HR.out], by rw [HR.out]; exact own_base HF7.out.own HF7.out.lw, HF7.out.vw.b⟩
  · have HR := Lib.hid (fewR_bad hck)
    have hz : (checkM m != 0) = true := by simpa using hck
    have HC := Lib.hid (fun W : World => check_any m W)
    generalize checkM m = z at *
    go_enter Try.func33, Try.ntmps33
    obtain ⟨c0, c1, c2, c3, c4, c5, c6, c7, c8, c9, c10, c11⟩ := HM.out.cells
    go_wp2_with (first
      | (go_at_call 18; refine (HC.out _).mono ?_; rintro e w1 ⟨rfl, hb1⟩; have HM1 := Lib.hid (HM.out.on hb1); clear hb1)
      | fail)
    refine bodyPost_ret (v := .tuple #[.slice none 0 0, .int .i64 z]) (by simp [results, Try.results33, go_sem]) rfl ⟨.slice none 0 0, by rw [HR.out], by rw [HR.out]; exact IntsOut.nil _ _, HM1.out.b⟩
end Go.Proofs.Ytljbjcnfkbmjkaa
