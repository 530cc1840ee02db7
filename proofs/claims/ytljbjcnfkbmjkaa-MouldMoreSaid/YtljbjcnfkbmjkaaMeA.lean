/- mould.topUp: contract. -/
import Derived.Test.YtljbjcnfkbmjkaaMe9
namespace Go.Proofs.Ytljbjcnfkbmjkaa
open Go.RowKit Go.Shelf Go.Maps
attribute [local go_sem] Oper.semAt_some

/-- From which minute on rings have not been looked at ahead of the topping k. -/
def fromK (l : List Int) : Nat → Int
  | 0 => 0
  | k + 1 => (l[k]?).getD 0 + 1
/-- A plan that can be poured in its order. -/
structure PlOk (l : List Int) : Prop where
  asc : Asc l
  rng : ∀ t ∈ l, 0 ≤ t ∧ t ≤ 600
theorem fromK_succ {l : List Int} {k : Nat} {x : Int} (hx : l[k]? = some x) : fromK l (k + 1) = x + 1 := by simp [fromK, hx]
theorem fromK_le {l : List Int} (h : PlOk l) {k : Nat} {x : Int} (hx : l[k]? = some x) : 0 ≤ fromK l k ∧ fromK l k ≤ x + 1 := by
  have hr := h.rng x (List.mem_of_getElem? hx)
  cases k with
  | zero => simp only [fromK]; omega
  | succ k =>
    have hk := (List.getElem?_eq_some_iff.1 hx).1
    have hy : l[k]? = some l[k] := List.getElem?_eq_getElem (by omega)
    rw [fromK_succ hy]
    have h2 := h.rng _ (List.mem_of_getElem? hy)
    have h3 : l[k] < l[k + 1] := (List.pairwise_iff_getElem.1 h.asc) k (k + 1) (by omega) hk (by omega)
    rw [(List.getElem?_eq_some_iff.1 hx).2] at h3
    omega
theorem fromK_last {l : List Int} (h : PlOk l) {k : Nat} (hk : k ≤ l.length) : 0 ≤ fromK l k ∧ fromK l k ≤ 601 ∧ ∀ x ∈ l.take k, x ≤ fromK l k - 1 := by
  cases k with
  | zero => simp [fromK]
  | succ k =>
    have hy : l[k]? = some l[k] := List.getElem?_eq_getElem (by omega)
    rw [fromK_succ hy]
    have h2 := h.rng _ (List.mem_of_getElem? hy)
    refine ⟨by omega, by omega, fun x hx => ?_⟩
    obtain ⟨i, hi, rfl⟩ := List.mem_iff_getElem.1 hx
    rw [List.getElem_take]
    rw [List.length_take] at hi
    by_cases hik : i = k
    · subst hik; omega
    · have h3 := (List.pairwise_iff_getElem.1 h.asc) i k (by omega) (by omega) (by omega)
      omega
/-- What toppings have poured, and the hollow that there is, ahead of the topping k. -/
def pK (m : Md) (o l : List Int) (k : Nat) : Int := pourL m.fill (gM m o) 0 (l.take k)
def hK (m : Md) (o l : List Int) (k : Nat) : Int := gM m o (fromK l k - 1) - pK m o l k
theorem hK_bounds {m : Md} (hm : MdIn m) {o l : List Int} (h : PlOk l) {k : Nat} (hk : k ≤ l.length) : 0 ≤ pK m o l k ∧ pK m o l k ≤ 24000 ∧ 0 ≤ hK m o l k ∧ hK m o l k ≤ 24000 := by
  have h1 := pourM_bounds hm o (l.take k)
  have h2 := gM_bounds hm o (fromK l k - 1)
  have h3 := pourL_last hm (w := o) (l := l.take k) (p := 0) (t := fromK l k - 1) h2.1 (fromK_last h hk).2.2
  unfold pourM at h1
  unfold hK pK
  omega
theorem hK_step {m : Md} (hm : MdIn m) {o l : List Int} (h : PlOk l) {k : Nat} {x : Int} (hx : l[k]? = some x) :
    hK m o l k + (gM m o x - gM m o (fromK l k - 1)) = gM m o x - pK m o l k ∧ pK m o l k + min m.fill (gM m o x - pK m o l k) = pK m o l (k + 1) ∧ gM m o x - pK m o l k - min m.fill (gM m o x - pK m o l k) = hK m o l (k + 1) := by
  have hk := (List.getElem?_eq_some_iff.1 hx).1
  have hb := hK_bounds hm (o := o) h (Nat.le_of_lt hk)
  have h1 := pour_step hm (w := o) (p := pK m o l k) (t := x) hb.1
  have h2 : pK m o l (k + 1) = min (pK m o l k + m.fill) (gM m o x) := pourL_take hx
  refine ⟨by unfold hK; omega, by rw [h2]; exact h1.1, ?_⟩
  unfold hK
  rw [fromK_succ hx, h2, show x + 1 - 1 = x by omega]
  exact h1.2
theorem hK_end {m : Md} {o l : List Int} : hK m o l l.length + (gM m o 600 - gM m o (fromK l l.length - 1)) = hollM m o l ∧ pK m o l l.length = pourM m o l := by
  unfold hollM pourM hK pK
  rw [List.take_of_length_le (Nat.le_refl _)]
  omega
theorem hK_zero (m : Md) (o l : List Int) : hK m o l 0 = 0 ∧ pK m o l 0 = 0 := by
  have h : pK m o l 0 = 0 := rfl
  refine ⟨?_, h⟩
  unfold hK
  rw [h, gM_neg (by simp [fromK])]; rfl
theorem fill_num {f g p h' p' : Int} (h1 : p + min f (g - p) = p') (h2 : g - p - min f (g - p) = h') (b1 : 0 ≤ p' ∧ p' ≤ 24000) (b2 : 0 ≤ h' ∧ h' ≤ 24000) :
    wrap64 (g - p - if g - p < f then g - p else f) = h' ∧ wrap64 (p + if g - p < f then g - p else f) = p' := by
  have e : (if g - p < f then g - p else f) = min f (g - p) := by split <;> omega
  rw [e, h1, h2]
  exact ⟨IntWalk.wrap64_in _ (by omega), IntWalk.wrap64_in _ (by omega)⟩
theorem TuI.putP {B b : Nat} {m : Md} {o : List Int} {a h p : Int} {W : World} (t : TuI B b m o a h p W) (p' : Int) : TuI B b m o a h p' (W.setCell ⟨B + 1 + 1 + 1, 1, none⟩ (.int .i64 p')) :=
  ⟨t.v.far (by simp; omega) _, t.s.far (by simp) _, t.r.far (by simp) _, t.f.set_ 1 _, t.fr.far (by simp) _, t.mp.far t.f, t.lb⟩
set_option maxRecDepth 100000 in
set_option maxHeartbeats 2000000 in
theorem top_any {w : World} {b : Nat} {m : Md} {o l : List Int} {A : Option Addr} {c : Nat} (hm : MdIn m) (ho : o.length = kR m) (hp : MapAt w b o) (hl : PlOk l) (hi : IntsIn w A l) :
    Calls Try.prog 76 #[.agg #[.int .i64 m.rings, .int .i64 m.give, .int .i64 m.plo, .int .i64 m.phi, .int .i64 m.wlo, .int .i64 m.whi, .int .i64 m.st, .int .i64 m.shrink, .int .i64 m.skin, .int .i64 m.fill, .int .i64 m.gap, .int .i64 m.deep], .map (some b), .slice A l.length c] w fun e w' => e = .returned (.agg #[.int .i64 (hollM m o l), .int .i64 (pourM m o l)]) ∧ Below w.heap.size w w' := by
  have HI := Lib.hid hi
  have HP := Lib.hid hl
  have hlen := hi.len
  have hbl := hp.lt
  have eg : ∀ args w, (callFunc 93 args).run Try.prog w = .ok (.enter 93 args) w := enters_of Try.func93 (by kernel_rfl) rfl
  have HMP := Lib.hid hp
  clear hi hl hp
  go_enter Try.func76, Try.ntmps76
  go_wp2_with fail
  have HT0 : Hid (TuI w.heap.size b m o (fromK l 0) (hK m o l 0) (pK m o l 0) (((((w.alloc (.cells #[.int .i64 m.rings, .int .i64 m.give, .int .i64 m.plo, .int .i64 m.phi, .int .i64 m.wlo, .int .i64 m.whi, .int .i64 m.st, .int .i64 m.shrink, .int .i64 m.skin, .int .i64 m.fill, .int .i64 m.gap, .int .i64 m.deep] 88)).alloc (.cells #[.map (some b)] 105)).alloc (.cells #[.int .i64 0, .int .i64 0] 120)).alloc (.cells #[.int .i64 0, .int .i64 0] 120)).alloc (.cells #[.int .i64 0] 3))) := by
    rw [(hK_zero m o l).1, (hK_zero m o l).2]
    exact ⟨((((Blk.new w _ _).alloc _).alloc _).alloc _).alloc _, (((Blk.new1 w _ _ _).alloc _).alloc _).alloc _, ((Blk.new2 w _ _ _ _).alloc _).alloc _, (Blk.new3 w _ _ _ _ _).alloc _, Blk.new4 w _ _ _ _ _ _, HMP.out.on (((((Below.refl _ w).alloc (Nat.le_refl _) _).alloc (by simp) _).alloc (by simp; omega) _).alloc (by simp; omega) _ |>.alloc (by simp; omega) _), hbl⟩
  have HB0 : Hid (Below w.heap.size w (((((w.alloc (.cells #[.int .i64 m.rings, .int .i64 m.give, .int .i64 m.plo, .int .i64 m.phi, .int .i64 m.wlo, .int .i64 m.whi, .int .i64 m.st, .int .i64 m.shrink, .int .i64 m.skin, .int .i64 m.fill, .int .i64 m.gap, .int .i64 m.deep] 88)).alloc (.cells #[.map (some b)] 105)).alloc (.cells #[.int .i64 0, .int .i64 0] 120)).alloc (.cells #[.int .i64 0, .int .i64 0] 120)).alloc (.cells #[.int .i64 0] 3))) :=
    ((((Below.refl _ w).alloc (Nat.le_refl _) _).alloc (by simp) _).alloc (by simp; omega) _).alloc (by simp; omega) _ |>.alloc (by simp; omega) _
  go_loopw [16] (fun i W => ∃ k : Nat, k ≤ l.length ∧ i = .int .i64 k ∧ Hid (TuI w.heap.size b m o (fromK l k) (hK m o l k) (pK m o l k) W) ∧ Hid (Below w.heap.size w W)) (fun i _ => l.length - (intOf i).toNat)
  case atStart => exact ⟨0, by omega, rfl, HT0, HB0⟩
  case round =>
    obtain ⟨k, hk, rfl, HT, HB⟩ := hrel
    clear HT0 HB0
    by_cases hlt : k < l.length
    · obtain ⟨x, hx⟩ : ∃ x, l[k]? = some x := ⟨l[k], List.getElem?_eq_getElem hlt⟩
      obtain ⟨bb, of, rfl, hbb, cx⟩ := ints_at (HI.out.on HB.out).at_ hx
      obtain ⟨q1, q2⟩ := fromK_le HP.out hx
      obtain ⟨q3, q4, q5, q6⟩ := hK_bounds hm (o := o) HP.out hk
      obtain ⟨q7, q8, q9⟩ := hK_step hm (o := o) HP.out hx
      have hxr := HP.out.rng x (List.mem_of_getElem? hx)
      have HX := Lib.hid (fromK_succ hx)
      have hgr := grow_any (n := x) hm ho HT.out ⟨q5, q6⟩ q1 q2 hxr.2
      rw [q7] at hgr
      have HGR := Lib.hid hgr
      have hfl := hm.fill
      clear hgr hx q1 q2 q7
      go_wp2_with (first | (go_at_call 93; refine HGR.out.mono ?_; rintro e w1 ⟨rfl, ht1, hb1⟩; have HT1 := Lib.hid ht1; have HB1 := Lib.hid (HB.out.trans hb1); have c9 := ht1.v.cell 9; have lV := ht1.v.lt; have lF := ht1.f.lt; have d0 := ht1.f.cell 0; have d1 := ht1.f.cell 1; have e0 := ht1.f.frozen 0; have e1 := ht1.f.frozen 1; clear ht1 hb1) | fail)
      have hb2 := hK_bounds hm (o := o) HP.out (k := k + 1) hlt
      obtain ⟨n1, n2⟩ := fill_num q8 q9 ⟨hb2.1, hb2.2.1⟩ ⟨hb2.2.2.1, hb2.2.2.2⟩
      rw [n1, n2]
      rw [← HX.out] at HT1
      go_roundw
      case rel => exact ⟨k + 1, Nat.succ_le_of_lt hlt, by go_num, (HT1.out.put _).putP _, below_set (below_set HB1.out (by omega)) (by omega)⟩
      case measure => exact meas_one hlt
    · obtain rfl : k = l.length := by omega
      obtain ⟨q1, q2, -⟩ := fromK_last HP.out (Nat.le_refl l.length)
      obtain ⟨q3, q4, q5, q6⟩ := hK_bounds hm (o := o) HP.out (Nat.le_refl l.length)
      have hgr := grow_any (n := 600) hm ho HT.out ⟨q5, q6⟩ q1 q2 (by omega)
      rw [hK_end.1, hK_end.2] at hgr
      have HGR := Lib.hid hgr
      clear hgr
      go_wp2_with (first | (go_at_call 93; refine HGR.out.mono ?_; rintro e w1 ⟨rfl, ht1, hb1⟩; have HT1 := Lib.hid ht1; have HB1 := Lib.hid (HB.out.trans hb1); have lF := ht1.f.lt; have lR := ht1.r.lt; have d0 := ht1.f.cell 0; have d1 := ht1.f.cell 1; have e0 := ht1.r.frozen 0; have e1 := ht1.r.frozen 1; have r0 := ht1.r.cell 0; have r1 := ht1.r.cell 1; clear ht1 hb1) | fail)
      have s0 := (HT1.out.r.set_ 0 (.int .i64 (hollM m o l))).cell 0
      have s1 := ((HT1.out.r.set_ 0 (.int .i64 (hollM m o l))).set_ 1 (.int .i64 (pourM m o l))).cell 1
      refine bodyPost_ret (v := .agg #[.int .i64 (hollM m o l), .int .i64 (pourM m o l)]) (by simp at s0 s1; simp [results, Try.results76, go_sem, s0, s1]) rfl ⟨rfl, ?_⟩
      exact below_set (below_set HB1.out (by omega)) (by omega)
end Go.Proofs.Ytljbjcnfkbmjkaa
