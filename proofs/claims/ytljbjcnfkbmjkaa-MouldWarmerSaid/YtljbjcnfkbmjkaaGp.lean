/- Layer mould, a part: regions of the law. No statement is proved here. -/
import Derived.Test.YtljbjcnfkbmjkaaGg
import Derived.Test.YtljbjcnfkbmjkaaMeH
import Derived.Test.YtljbjcnfkbmjkaaMg5
import Derived.Test.YtljbjcnfkbmjkaaGa
import Derived.Test.YtljbjcnfkbmjkaaGi
import Derived.Test.YtljbjcnfkbmjkaaMgr
namespace Go.Proofs.Ytljbjcnfkbmjkaa
open Go.RowKit Go.Shelf Go.Maps

theorem spn_same (x y : Int) (W : World) : (binOp .neq 23 (.agg #[.int .i64 x, .int .i64 y]) (.agg #[.int .i64 x, .int .i64 y])).run Try.prog W = .ok (.bool false) W := by
  have := span_neq (x, y) (x, y) W
  simpa using this
theorem zip_get {a b : List Int} {k : Nat} {x y : Int} (h1 : a[k]? = some x) (h2 : b[k]? = some y) : (zipS a b)[k]? = some (x, y) := by
  unfold zipS
  rw [List.getElem?_zipWith, h1, h2]
theorem never_step {b : List Int} {k : Nat} {y : Int} (h : b[k]? = some y) : never (b.take (k + 1)) = (never (b.take k) || decide (y < 0)) := by
  unfold never
  rw [List.take_add_one, h, List.any_append]
  simp
theorem warm_ok {m : Md} (h : checkM m = 0) {N : Nat} (hN : N ≤ 600) : warmR m (N : Int) = (zipS (warmL m false N) (warmL m true N), 0) := by
  unfold warmR
  rw [if_neg (fun h2 => h2 h), if_pos (inB_iff.2 ⟨by omega, by omega⟩), Int.toNat_natCast]
theorem skin_ok {m : Md} (h : checkM m = 0) {a b : List Int} (ha : wh m false = a) (hb : wh m true = b) {N : Nat} (hN : N ≤ 600) : skinR m (N : Int) = ((setN b N, setN a N), 0) := by
  unfold skinR
  rw [if_neg (fun h2 => h2 h), if_pos (inB_iff.2 ⟨by omega, by omega⟩), ha, hb]
section
variable {m : Md}
set_option maxRecDepth 100000 in
theorem warm_law (h : checkM m = 0) {N : Nat} (hN : N ≤ 600) (W : World) :
    Calls Try.prog 23 #[.agg #[.int .i64 m.rings, .int .i64 m.give, .int .i64 m.plo, .int .i64 m.phi, .int .i64 m.wlo, .int .i64 m.whi, .int .i64 m.st, .int .i64 m.shrink, .int .i64 m.skin, .int .i64 m.fill, .int .i64 m.gap, .int .i64 m.deep], .int .i64 (N : Int)] W fun e w' => ∃ A c, e = .returned (.tuple #[.slice A (kR m) c, .int .i64 0]) ∧ SpansIn w' A (zipS (warmL m false N) (warmL m true N)) ∧ Below W.heap.size W w' :=
  (mwarm_any m N W).mono fun e w' ⟨v, he, hv, hb⟩ => by
    rw [warm_ok h hN] at he hv
    obtain ⟨A, c, rfl, hin⟩ := SpansOut.in_ hv
    rw [zip_length (by rw [warmL_length, warmL_length]), warmL_length] at he
    exact ⟨A, c, he, hin, hb⟩
theorem skin_law (h : checkM m = 0) {a b : List Int} (ha : wh m false = a) (hb : wh m true = b) {N : Nat} (hN : N ≤ 600) (W : World) :
    Calls Try.prog 29 #[.agg #[.int .i64 m.rings, .int .i64 m.give, .int .i64 m.plo, .int .i64 m.phi, .int .i64 m.wlo, .int .i64 m.whi, .int .i64 m.st, .int .i64 m.shrink, .int .i64 m.skin, .int .i64 m.fill, .int .i64 m.gap, .int .i64 m.deep], .int .i64 (N : Int)] W fun e w' => e = .returned (.tuple #[.agg #[.int .i64 (setN b N), .int .i64 (setN a N)], .int .i64 0]) ∧ Below W.heap.size W w' :=
  (mskin_any m N W).mono fun e w' ⟨he, hb2⟩ => by
    rw [skin_ok h ha hb hN] at he
    exact ⟨he, hb2⟩
set_option maxRecDepth 100000 in
theorem cool_law (hok : MdOk m) (b : Bool) {N : Nat} (hN : N ≤ 600) (W : World) (A1 : Option Addr) (d1 : Nat) (A2 : Option Addr) (d2 : Nat) (hp : IntsIn W A1 (samP m b)) (hq : IntsIn W A2 (samW m b N)) :
    Calls Try.prog 20 #[.agg #[.int .i64 m.rings, .int .i64 m.give, .int .i64 m.plo, .int .i64 m.phi, .int .i64 m.wlo, .int .i64 m.whi, .int .i64 m.st, .int .i64 m.shrink, .int .i64 m.skin, .int .i64 m.fill, .int .i64 m.gap, .int .i64 m.deep], .agg #[.slice A1 (kR m) d1, .slice A2 N d2]] W fun e w' => ∃ A c, e = .returned (.tuple #[.slice A (kR m) c, .int .i64 0]) ∧ IntsIn w' A (warmL m b N) ∧ Below W.heap.size W w' := by
  have h := cool_any (c1 := d1) (c2 := d2) m hp hq
  rw [same_cool hok b hN, samP_length, samW_length] at h
  refine h.mono fun e w' ⟨v, he, hv, hb⟩ => ?_
  obtain ⟨A, c, rfl, hin⟩ := IntsOut.in_ hv
  rw [warmL_length] at he
  exact ⟨A, c, he, hin, hb⟩
theorem sets_good (h : checkM m = 0) {a b : List Int} (ha : wh m false = a) (hb : wh m true = b) (hn : never b = false) (W : World) :
    Calls Try.prog 27 #[.agg #[.int .i64 m.rings, .int .i64 m.give, .int .i64 m.plo, .int .i64 m.phi, .int .i64 m.wlo, .int .i64 m.whi, .int .i64 m.st, .int .i64 m.shrink, .int .i64 m.skin, .int .i64 m.fill, .int .i64 m.gap, .int .i64 m.deep]] W fun e w' => ∃ A c, e = .returned (.tuple #[.slice A (kR m) c, .int .i64 0]) ∧ SpansIn w' A (zipS a b) ∧ Below W.heap.size W w' :=
  (msets_any m W).mono fun e w' ⟨v, he, hv, hb2⟩ => by
    rw [setsR_good h ha hb hn] at he hv
    obtain ⟨A, c, rfl, hin⟩ := SpansOut.in_ hv
    have hla : a.length = kR m := by rw [← ha, wh_length]
    have hlb : b.length = kR m := by rw [← hb, wh_length]
    rw [zip_length (by rw [hla, hlb]), hla] at he
    exact ⟨A, c, he, hin, hb2⟩
theorem sets_never (h : checkM m = 0) {b : List Int} (hb : wh m true = b) (hn : never b = true) (W : World) :
    Calls Try.prog 27 #[.agg #[.int .i64 m.rings, .int .i64 m.give, .int .i64 m.plo, .int .i64 m.phi, .int .i64 m.wlo, .int .i64 m.whi, .int .i64 m.st, .int .i64 m.shrink, .int .i64 m.skin, .int .i64 m.fill, .int .i64 m.gap, .int .i64 m.deep]] W fun e w' => ∃ A c, e = .returned (.tuple #[.slice A 0 c, .int .i64 9]) ∧ Below W.heap.size W w' :=
  (msets_any m W).mono fun e w' ⟨v, he, hv, hb2⟩ => by
    rw [show setsR m = ([], 9) by unfold setsR; rw [if_neg (fun h2 => h2 h), hb, if_pos hn]] at he hv
    obtain ⟨A, c, rfl, hin⟩ := SpansOut.in_ hv
    exact ⟨A, c, he, hb2⟩
end
end Go.Proofs.Ytljbjcnfkbmjkaa

namespace Go.Proofs.Ytljbjcnfkbmjkaa
open Go.RowKit Go.Shelf Go.Maps

theorem truth_in {m : Md} {ps ws : List Int} (hl : ps.length = kR m) (hw : ws.length ≤ 600) (hp : ∀ x ∈ ps, m.plo ≤ x ∧ x ≤ m.phi) (hq : ∀ x ∈ ws, m.wlo ≤ x ∧ x ≤ m.whi) : truthE m ps ws = 0 := by
  unfold truthE
  rw [if_neg (by omega), if_pos (List.all_eq_true.2 fun x hx => inB_iff.2 (hp x hx)), if_pos (List.all_eq_true.2 fun x hx => inB_iff.2 (hq x hx))]
section
variable {m : Md} {N : Nat} {tp tw : List Int}
/-- A truth of a mould, in numbers. -/
structure TrOk (m : Md) (N : Nat) (tp tw : List Int) : Prop where
  lp : tp.length = kR m
  lw : tw.length = N
  n : N ≤ 600
  p : ∀ x ∈ tp, m.plo ≤ x ∧ x ≤ m.phi
  q : ∀ x ∈ tw, m.wlo ≤ x ∧ x ≤ m.whi
theorem TrOk.tr (hok : MdOk m) (hN : N ≤ 600) (ps ws : List Int) : TrOk m N (trL m.plo m.phi ps (kR m)) (trL m.wlo m.whi ws N) :=
  ⟨trL_length _ _ _ _, trL_length _ _ _ _, hN, trL_rng hok.pour _ _, trL_rng hok.wall _ _⟩
theorem TrOk.err (h : TrOk m N tp tw) : truthE m tp tw = 0 := truth_in h.lp (by rw [h.lw]; exact h.n) h.p h.q
set_option maxRecDepth 100000 in
theorem cool_tr (hok : MdOk m) (h : TrOk m N tp tw) (W : World) (A1 : Option Addr) (d1 : Nat) (A2 : Option Addr) (d2 : Nat) (hp : IntsIn W A1 tp) (hq : IntsIn W A2 tw) :
    Calls Try.prog 20 #[.agg #[.int .i64 m.rings, .int .i64 m.give, .int .i64 m.plo, .int .i64 m.phi, .int .i64 m.wlo, .int .i64 m.whi, .int .i64 m.st, .int .i64 m.shrink, .int .i64 m.skin, .int .i64 m.fill, .int .i64 m.gap, .int .i64 m.deep], .agg #[.slice A1 (kR m) d1, .slice A2 N d2]] W fun e w' => ∃ A c, e = .returned (.tuple #[.slice A (kR m) c, .int .i64 0]) ∧ IntsIn w' A (afterL m.give tp tw) ∧ Below W.heap.size W w' := by
  have h2 := cool_any (c1 := d1) (c2 := d2) m hp hq
  rw [coolR_ok (checkM_ok.2 hok) h.err, h.lp, h.lw] at h2
  refine h2.mono fun e w' ⟨v, he, hv, hb⟩ => ?_
  obtain ⟨A, c, rfl, hin⟩ := IntsOut.in_ hv
  rw [afterL_length, h.lp] at he
  exact ⟨A, c, he, hin, hb⟩
theorem when_tr (hok : MdOk m) (h : TrOk m N tp tw) (W : World) (A1 : Option Addr) (d1 : Nat) (A2 : Option Addr) (d2 : Nat) (hp : IntsIn W A1 tp) (hq : IntsIn W A2 tw) :
    Calls Try.prog 40 #[.agg #[.int .i64 m.rings, .int .i64 m.give, .int .i64 m.plo, .int .i64 m.phi, .int .i64 m.wlo, .int .i64 m.whi, .int .i64 m.st, .int .i64 m.shrink, .int .i64 m.skin, .int .i64 m.fill, .int .i64 m.gap, .int .i64 m.deep], .agg #[.slice A1 (kR m) d1, .slice A2 N d2]] W fun e w' => ∃ A c, e = .returned (.slice A (kR m) c) ∧ IntsIn w' A (whenM m tp tw) ∧ Below W.heap.size W w' := by
  have hk := kR_le hok.toMdIn
  have h1 := hok.plo; have h2 := hok.phi; have h3 := hok.wlo; have h4 := hok.whi
  have hh := rwhen_any (c1 := d1) (c2 := d2) m hok.toMdIn hp hq (by rw [h.lp]; omega) (by rw [h.lp]; omega) (by rw [h.lw]; exact h.n) (fun x hx => by have := h.p x hx; omega) (fun x hx => by have := h.q x hx; omega)
  rw [whenM_length, h.lp, h.lw] at hh
  exact hh
theorem truth_law (hok : MdOk m) {w : World} {Y1 Y2 : Option Addr} {c1 c2 : Nat} {ps ws : List Int} (hp : U16In w Y1 ps) (hq : U16In w Y2 ws) (hN : N ≤ 600) {W : World} (hb : Below w.heap.size w W) :
    Calls Try.prog 38 #[.agg #[.int .i64 m.rings, .int .i64 m.give, .int .i64 m.plo, .int .i64 m.phi, .int .i64 m.wlo, .int .i64 m.whi, .int .i64 m.st, .int .i64 m.shrink, .int .i64 m.skin, .int .i64 m.fill, .int .i64 m.gap, .int .i64 m.deep], .int .i64 (N : Int), .agg #[.slice Y1 ps.length c1, .slice Y2 ws.length c2]] W fun e w' => ∃ B1 d1 B2 d2, e = .returned (.agg #[.slice B1 (kR m) d1, .slice B2 N d2]) ∧ IntsIn w' B1 (trL m.plo m.phi ps (kR m)) ∧ IntsIn w' B2 (trL m.wlo m.whi ws N) ∧ Below W.heap.size W w' :=
  ltruth_any hok N hN (hp.on hb) (hq.on hb)
end
theorem when_ab {m : Md} (hok : MdOk m) {a b tp tw : List Int} {N : Nat} (ha : wh m false = a) (hb : wh m true = b) (h : TrOk m N tp tw) (hN : N = 600) : Wle a (whenM m tp tw) ∧ Wle (whenM m tp tw) b := by
  have h2 := when_between hok.toMdIn h.lp (by rw [h.lw]; exact hN) h.p h.q
  rw [ha, hb] at h2
  exact h2
theorem after_ab {m : Md} (hok : MdOk m) {tp tw : List Int} {N : Nat} (h : TrOk m N tp tw) : Lle (warmL m false N) (afterL m.give tp tw) ∧ Lle (afterL m.give tp tw) (warmL m true N) := by
  have h2 := after_between hok.toMdIn h.lp h.p h.q
  rw [h.lw] at h2
  exact h2
/-- The mould, and the turns. -/
structure LtA (w : World) (m : Md) (Y1 : Option Addr) (n1 c1 : Nat) (Y2 : Option Addr) (n2 c2 : Nat) (W : World) : Prop where
  bm : MdBk w w.heap.size 25 m W
  y : Blk W (w.heap.size + 1) 58 #[.slice Y1 n1 c1, .slice Y2 n2 c2]
theorem LtA.on {w W W' : World} {m : Md} {Y1 Y2 : Option Addr} {n1 c1 n2 c2 : Nat} (h : LtA w m Y1 n1 c1 Y2 n2 c2 W) (hb : Below W.heap.size W W') : LtA w m Y1 n1 c1 Y2 n2 c2 W' := ⟨h.bm.on hb, h.y.on hb⟩
theorem LtA.new (w : World) (m : Md) (Y1 : Option Addr) (n1 c1 : Nat) (Y2 : Option Addr) (n2 c2 : Nat) : LtA w m Y1 n1 c1 Y2 n2 c2 ((w.alloc (.cells #[.int .i64 m.rings, .int .i64 m.give, .int .i64 m.plo, .int .i64 m.phi, .int .i64 m.wlo, .int .i64 m.whi, .int .i64 m.st, .int .i64 m.shrink, .int .i64 m.skin, .int .i64 m.fill, .int .i64 m.gap, .int .i64 m.deep] 25)).alloc (.cells #[.slice Y1 n1 c1, .slice Y2 n2 c2] 58)) :=
  ⟨⟨(Blk.new w _ _).alloc _, ((Below.refl _ w).alloc (Nat.le_refl _) _).alloc (by simp) _⟩, Blk.new1 w _ _ _⟩
/-- Each number is in its range. -/
theorem lle_in {lo l hi : List Int} (h1 : Lle lo l) (h2 : Lle l hi) {k : Nat} {x p q : Int} (hx : l[k]? = some x) (hp : lo[k]? = some p) (hq : hi[k]? = some q) : inB x p q = true := inB_iff.2 ⟨h1.get hp hx, h2.get hx hq⟩
theorem wle_in {lo l hi : List Int} (h1 : Wle lo l) (h2 : Wle l hi) {k : Nat} {x p q : Int} (hx : l[k]? = some x) (hp : lo[k]? = some p) (hq : hi[k]? = some q) (h0 : 0 ≤ q) : inB x p q = true := by
  have h3 := h1.get hp hx
  have h4 := h2.get hx hq
  exact inB_iff.2 ⟨by omega, by omega⟩
end Go.Proofs.Ytljbjcnfkbmjkaa

namespace Go.Proofs.Ytljbjcnfkbmjkaa
open Go.RowKit Go.Shelf

/-- A list that is warmer by turns, as far as it can be. -/
def upL (hi : Int) (tp l : List Int) (n : Nat) : List Int := (List.range n).map fun i => min hi ((tp[i]?).getD 0 + turnV l i)
theorem upL_length (hi : Int) (tp l : List Int) (n : Nat) : (upL hi tp l n).length = n := by simp [upL]
theorem upL_succ {hi : Int} {tp l : List Int} {n : Nat} {x : Int} (hx : tp[n]? = some x) : upL hi tp l (n + 1) = upL hi tp l n ++ [min hi (x + turnV l n)] := by simp [upL, List.range_succ, hx]
theorem upL_get {hi : Int} {tp l : List Int} {n i : Nat} {x y : Int} (hx : tp[i]? = some x) (hy : (upL hi tp l n)[i]? = some y) : y = min hi (x + turnV l i) := by
  unfold upL at hy
  rw [List.getElem?_map] at hy
  obtain ⟨j, hj, rfl⟩ := Option.map_eq_some_iff.1 hy
  obtain ⟨h1, h2⟩ := List.getElem?_eq_some_iff.1 hj
  simp at h2
  subst h2
  rw [hx]; rfl
theorem upL_rng {lo hi : Int} (h : lo ≤ hi) {tp l : List Int} {n : Nat} (hn : tp.length = n) (ht : ∀ x ∈ tp, lo ≤ x ∧ x ≤ hi) (hl : ∀ z ∈ l, 0 ≤ z ∧ z ≤ 65535) : ∀ x ∈ upL hi tp l n, lo ≤ x ∧ x ≤ hi := by
  intro y hy
  obtain ⟨i, hi', rfl⟩ := List.mem_iff_getElem.1 hy
  have h1 : i < tp.length := by rw [upL_length] at hi'; omega
  have h2 := upL_get (l := l) (hi := hi) (n := n) (List.getElem?_eq_getElem h1) (List.getElem?_eq_getElem hi')
  have h3 := ht _ (List.getElem_mem h1)
  have h4 := turnV_rng hl i
  omega
theorem upL_le {hi : Int} {tp l : List Int} {n : Nat} (hn : tp.length = n) (ht : ∀ x ∈ tp, x ≤ hi) (hl : ∀ z ∈ l, 0 ≤ z ∧ z ≤ 65535) : Lle tp (upL hi tp l n) :=
  Lle.of_get (by rw [upL_length]; exact hn) fun i a b ha hb => by
    have h2 := upL_get ha hb
    have h3 := ht _ (List.mem_of_getElem? ha)
    have h4 := turnV_rng hl i
    omega
/-- The mould, the turns, a truth, and a warmer one. -/
structure TwC (w : World) (m : Md) (Y1 : Option Addr) (n1 c1 : Nat) (Y2 : Option Addr) (n2 c2 : Nat) (Y3 : Option Addr) (n3 c3 : Nat) (Y4 : Option Addr) (n4 c4 : Nat) (T : Nat) (B1 : Option Addr) (k1 d1 : Nat) (tp : List Int) (B2 : Option Addr) (k2 d2 : Nat) (tw : List Int) (v1 v2 : Value) (W : World) : Prop where
  b0 : MdBk w w.heap.size 25 m W
  y : Blk W (w.heap.size + 1) 73 #[.slice Y1 n1 c1, .slice Y2 n2 c2, .slice Y3 n3 c3, .slice Y4 n4 c4]
  t : Blk W T 28 #[.slice B1 k1 d1, .slice B2 k2 d2]
  u : Blk W (T + 1) 28 #[v1, v2]
  i1 : IntsAt W T B1 tp
  i2 : IntsAt W T B2 tw
  hT : w.heap.size + 1 < T
section
variable {w W W' : World} {m : Md} {Y1 Y2 Y3 Y4 : Option Addr} {n1 c1 n2 c2 n3 c3 n4 c4 T : Nat} {B1 B2 : Option Addr} {k1 d1 k2 d2 : Nat} {tp tw : List Int} {v1 v2 : Value}
theorem TwC.below (h : TwC w m Y1 n1 c1 Y2 n2 c2 Y3 n3 c3 Y4 n4 c4 T B1 k1 d1 tp B2 k2 d2 tw v1 v2 W) {B : Nat} (hb : Below B W W') (hB : T + 1 + 1 ≤ B) : TwC w m Y1 n1 c1 Y2 n2 c2 Y3 n3 c3 Y4 n4 c4 T B1 k1 d1 tp B2 k2 d2 tw v1 v2 W' := by
  have hT := h.hT
  exact ⟨⟨h.b0.bk.below hb (by omega), h.b0.b.trans (hb.mono (by omega))⟩, h.y.below hb (by omega), h.t.below hb (by omega), h.u.below hb (by omega), RowAt.below h.i1 hb (by omega), RowAt.below h.i2 hb (by omega), hT⟩
theorem TwC.sz (h : TwC w m Y1 n1 c1 Y2 n2 c2 Y3 n3 c3 Y4 n4 c4 T B1 k1 d1 tp B2 k2 d2 tw v1 v2 W) : T + 1 + 1 ≤ W.heap.size := h.u.lt
theorem TwC.on (h : TwC w m Y1 n1 c1 Y2 n2 c2 Y3 n3 c3 Y4 n4 c4 T B1 k1 d1 tp B2 k2 d2 tw v1 v2 W) (hb : Below W.heap.size W W') : TwC w m Y1 n1 c1 Y2 n2 c2 Y3 n3 c3 Y4 n4 c4 T B1 k1 d1 tp B2 k2 d2 tw v1 v2 W' := h.below hb h.sz
theorem TwC.low (h : TwC w m Y1 n1 c1 Y2 n2 c2 Y3 n3 c3 Y4 n4 c4 T B1 k1 d1 tp B2 k2 d2 tw v1 v2 W) (hb : Below (T + 1) W W') {v1' v2' : Value} (hu : Blk W' (T + 1) 28 #[v1', v2']) : TwC w m Y1 n1 c1 Y2 n2 c2 Y3 n3 c3 Y4 n4 c4 T B1 k1 d1 tp B2 k2 d2 tw v1' v2' W' := by
  have hT := h.hT
  exact ⟨⟨h.b0.bk.below hb (by omega), h.b0.b.trans (hb.mono (by omega))⟩, h.y.below hb (by omega), h.t.below hb (by omega), hu, RowAt.below h.i1 hb (by omega), RowAt.below h.i2 hb (by omega), hT⟩
theorem TwC.put0 (h : TwC w m Y1 n1 c1 Y2 n2 c2 Y3 n3 c3 Y4 n4 c4 T B1 k1 d1 tp B2 k2 d2 tw v1 v2 W) (v : Value) : TwC w m Y1 n1 c1 Y2 n2 c2 Y3 n3 c3 Y4 n4 c4 T B1 k1 d1 tp B2 k2 d2 tw v v2 (W.setCell ⟨T + 1, 0, none⟩ v) :=
  h.low (below_set (Below.refl _ W) (Nat.le_refl _)) (h.u.set_ 0 v)
theorem TwC.put1 (h : TwC w m Y1 n1 c1 Y2 n2 c2 Y3 n3 c3 Y4 n4 c4 T B1 k1 d1 tp B2 k2 d2 tw v1 v2 W) (v : Value) : TwC w m Y1 n1 c1 Y2 n2 c2 Y3 n3 c3 Y4 n4 c4 T B1 k1 d1 tp B2 k2 d2 tw v1 v (W.setCell ⟨T + 1, 1, none⟩ v) :=
  h.low (below_set (Below.refl _ W) (Nat.le_refl _)) (h.u.set_ 1 v)
end
structure TwB1 (w : World) (m : Md) (Y1 : Option Addr) (n1 c1 : Nat) (Y2 : Option Addr) (n2 c2 : Nat) (Y3 : Option Addr) (n3 c3 : Nat) (Y4 : Option Addr) (n4 c4 : Nat) (T : Nat) (B1 : Option Addr) (k1 d1 : Nat) (tp : List Int) (B2 : Option Addr) (k2 d2 : Nat) (tw : List Int) (v : Value) (l : List Int) (W : World) : Prop where
  c : TwC w m Y1 n1 c1 Y2 n2 c2 Y3 n3 c3 Y4 n4 c4 T B1 k1 d1 tp B2 k2 d2 tw v (.slice none 0 0) W
  o : IntsOut (T + 1 + 1) W v l
structure TwD (w : World) (m : Md) (Y1 : Option Addr) (n1 c1 : Nat) (Y2 : Option Addr) (n2 c2 : Nat) (Y3 : Option Addr) (n3 c3 : Nat) (Y4 : Option Addr) (n4 c4 : Nat) (T : Nat) (B1 : Option Addr) (k1 d1 : Nat) (tp : List Int) (B2 : Option Addr) (k2 d2 : Nat) (tw : List Int) (B : Nat) (vf : Value) (l1 : List Int) (v : Value) (W : World) : Prop where
  c : TwC w m Y1 n1 c1 Y2 n2 c2 Y3 n3 c3 Y4 n4 c4 T B1 k1 d1 tp B2 k2 d2 tw vf v W
  o1 : IntsOut (T + 1 + 1) W vf l1
  lt : ∀ r, vf.ownBlock = some r → r < B
  lb : T + 1 + 1 ≤ B
  sz : B ≤ W.heap.size
structure TwB2 (w : World) (m : Md) (Y1 : Option Addr) (n1 c1 : Nat) (Y2 : Option Addr) (n2 c2 : Nat) (Y3 : Option Addr) (n3 c3 : Nat) (Y4 : Option Addr) (n4 c4 : Nat) (T : Nat) (B1 : Option Addr) (k1 d1 : Nat) (tp : List Int) (B2 : Option Addr) (k2 d2 : Nat) (tw : List Int) (B : Nat) (vf : Value) (l1 : List Int) (v : Value) (l : List Int) (W : World) : Prop where
  d : TwD w m Y1 n1 c1 Y2 n2 c2 Y3 n3 c3 Y4 n4 c4 T B1 k1 d1 tp B2 k2 d2 tw B vf l1 v W
  o2 : IntsOut B W v l
section
variable {w W W' : World} {m : Md} {Y1 Y2 Y3 Y4 : Option Addr} {n1 c1 n2 c2 n3 c3 n4 c4 T : Nat} {B1 B2 : Option Addr} {k1 d1 k2 d2 B : Nat} {tp tw l1 l : List Int} {vf v : Value}
theorem TwB1.on (h : TwB1 w m Y1 n1 c1 Y2 n2 c2 Y3 n3 c3 Y4 n4 c4 T B1 k1 d1 tp B2 k2 d2 tw v l W) (hb : Below W.heap.size W W') : TwB1 w m Y1 n1 c1 Y2 n2 c2 Y3 n3 c3 Y4 n4 c4 T B1 k1 d1 tp B2 k2 d2 tw v l W' := ⟨h.c.on hb, own_below h.o hb⟩
theorem TwD.below (h : TwD w m Y1 n1 c1 Y2 n2 c2 Y3 n3 c3 Y4 n4 c4 T B1 k1 d1 tp B2 k2 d2 tw B vf l1 v W) (hb : Below B W W') : TwD w m Y1 n1 c1 Y2 n2 c2 Y3 n3 c3 Y4 n4 c4 T B1 k1 d1 tp B2 k2 d2 tw B vf l1 v W' :=
  ⟨h.c.below hb h.lb, own_keep h.o1 hb h.lt, h.lt, h.lb, Nat.le_trans h.sz hb.size⟩
theorem TwD.put (h : TwD w m Y1 n1 c1 Y2 n2 c2 Y3 n3 c3 Y4 n4 c4 T B1 k1 d1 tp B2 k2 d2 tw B vf l1 v W) (v' : Value) : TwD w m Y1 n1 c1 Y2 n2 c2 Y3 n3 c3 Y4 n4 c4 T B1 k1 d1 tp B2 k2 d2 tw B vf l1 v' (W.setCell ⟨T + 1, 1, none⟩ v') :=
  ⟨h.c.put1 v', own_set h.o1 (by omega), h.lt, h.lb, by simpa using h.sz⟩
theorem TwB2.on (h : TwB2 w m Y1 n1 c1 Y2 n2 c2 Y3 n3 c3 Y4 n4 c4 T B1 k1 d1 tp B2 k2 d2 tw B vf l1 v l W) (hb : Below W.heap.size W W') : TwB2 w m Y1 n1 c1 Y2 n2 c2 Y3 n3 c3 Y4 n4 c4 T B1 k1 d1 tp B2 k2 d2 tw B vf l1 v l W' :=
  ⟨h.d.below (hb.mono h.d.sz), own_below h.o2 hb⟩
theorem TwB1.turn (h : TwB1 w m Y1 n1 c1 Y2 n2 c2 Y3 n3 c3 Y4 n4 c4 T B1 k1 d1 tp B2 k2 d2 tw v l W) : TwB2 w m Y1 n1 c1 Y2 n2 c2 Y3 n3 c3 Y4 n4 c4 T B1 k1 d1 tp B2 k2 d2 tw W.heap.size v l (.slice none 0 0) [] W :=
  ⟨⟨h.c, h.o, fun r e => (World.ownsRow.lt h.o r e).2, h.c.sz, Nat.le_refl _⟩, IntsOut.nil _ _⟩
end
end Go.Proofs.Ytljbjcnfkbmjkaa

namespace Go.Proofs.Ytljbjcnfkbmjkaa
open Go.RowKit Go.Shelf Go.Maps
attribute [local go_sem] Oper.semAt_some

/-- What each operation leaves. -/
def lm9R (w : World) (m : Md) (A : Option Addr) (c k : Nat) (Y3 : Option Addr) (n3 c3 : Nat) (bb oo k1 d1 : Nat) (T : Nat) (x : Int) (qs l : List Int) : Nat → Value → World → Prop
  | 0, v, _ => v = .pointer (some ⟨T + 1, 0, none⟩)
  | 1, v, _ => v = .slice A l.length c
  | 2, v, _ => v = .pointer (some ⟨w.heap.size, 2, none⟩)
  | 3, v, _ => v = .pointer (some ⟨w.heap.size, 3, none⟩)
  | 4, v, _ => v = .int .i64 m.phi
  | 5, v, _ => v = .pointer (some ⟨T, 0, none⟩)
  | 6, v, _ => v = .slice (some ⟨bb, oo, none⟩) k1 d1
  | 7, v, _ => v = .int .i64 (k : Int)
  | 8, v, _ => v = .pointer (some ⟨bb, oo + k, none⟩)
  | 9, v, _ => v = .int .i64 x
  | 10, v, _ => v = .pointer (some ⟨w.heap.size + 1, 2, none⟩)
  | 11, v, _ => v = .pointer (some ⟨w.heap.size + 1, 2, none⟩)
  | 12, v, _ => v = .slice Y3 n3 c3
  | 13, v, _ => v = .int .i64 (k : Int)
  | 14, v, _ => v = .int .i64 (turnV qs k)
  | 15, v, _ => v = .int .i64 (x + turnV qs k)
  | 16, v, _ => v = .int .i64 (min m.phi (x + turnV qs k))
  | 17, v, W => ∃ g_17, v = .slice (some ⟨g_17, 0, none⟩) 1 1 ∧ Blk W g_17 3 #[.int .i64 (min m.phi (x + turnV qs k))] ∧ T + 1 + 1 ≤ g_17 ∧ (.slice A l.length c : Value).ownBlock ≠ some g_17
  | 18, v, W => ∃ g_18 cap_18, v = .slice (some ⟨g_18, 0, none⟩) (l.length + 1) cap_18 ∧ IntsOut (T + 1 + 1) W (.slice (some ⟨g_18, 0, none⟩) (l.length + 1) cap_18) (l ++ [(min m.phi (x + turnV qs k))])
  | 19, v, _ => v = .pointer (some ⟨T + 1, 0, none⟩)
  | 20, _, _ => True
  | _, _, _ => True
theorem lm9R_on (w : World) (m : Md) (A : Option Addr) (c k : Nat) (Y3 : Option Addr) (n3 c3 : Nat) (bb oo k1 d1 : Nat) (T : Nat) (x : Int) (qs l : List Int) : ∀ i, i < 21 → ∀ v W W', lm9R w m A c k Y3 n3 c3 bb oo k1 d1 T x qs l i v W → Below W.heap.size W W' → lm9R w m A c k Y3 n3 c3 bb oo k1 d1 T x qs l i v W' := by
  iterate 21 (refine all_succ ?_ ?_)
  · exact all_zero
  · exact fun _ _ _ h _ => h
  · exact fun _ _ _ h _ => h
  · exact fun _ _ _ h _ => h
  · exact fun _ _ _ h _ => h
  · exact fun _ _ _ h _ => h
  · exact fun _ _ _ h _ => h
  · exact fun _ _ _ h _ => h
  · exact fun _ _ _ h _ => h
  · exact fun _ _ _ h _ => h
  · exact fun _ _ _ h _ => h
  · exact fun _ _ _ h _ => h
  · exact fun _ _ _ h _ => h
  · exact fun _ _ _ h _ => h
  · exact fun _ _ _ h _ => h
  · exact fun _ _ _ h _ => h
  · exact fun _ _ _ h _ => h
  · exact fun _ _ _ h _ => h
  · rintro v W W' ⟨g_17, e, h0, h1, h2⟩ hb; exact ⟨g_17, e, h0.on hb, h1, h2⟩
  · rintro v W W' ⟨g_18, cap_18, e, h0⟩ hb; exact ⟨g_18, cap_18, e, (own_below h0 hb)⟩
  · exact fun _ _ _ h _ => h
  · exact fun _ _ _ h _ => h
set_option maxRecDepth 100000 in
set_option maxHeartbeats 8000000 in
theorem lm9_region {w : World} {m : Md} {Y1 : Option Addr} {n1 c1 : Nat} {Y2 : Option Addr} {n2 c2 : Nat} {Y3 : Option Addr} {n3 c3 : Nat} {Y4 : Option Addr} {n4 c4 : Nat} {T : Nat} {bb oo : Nat} {k1 d1 : Nat} {tp : List Int} {B2 : Option Addr} {k2 d2 : Nat} {tw : List Int} {A : Option Addr} {c k : Nat} {x : Int} {qs l : List Int} (hx : tp[k]? = some x) (hx0 : 0 ≤ x ∧ x ≤ 2000) (hkk : (k : Int) < k1) (hq : U16In w Y3 qs) (ht : 0 ≤ turnV qs k ∧ turnV qs k ≤ 65535) (HT : Hid (∀ W, U16In W Y3 qs → Calls Try.prog 47 #[.slice Y3 n3 c3, .int .i64 (k : Int)] W fun e w' => e = .returned (.int .i64 (turnV qs k)) ∧ w' = W)) (hl : l.length < 1000000) {Q : Exit → Act → World → Prop} {s0 s1 s2 s4 s6 s7 s11 s12 s13 s14 s15 s16 s17 s18 s19 s20 s21 s22 s23 s24 s25 s26 s27 s28 s29 s30 s31 s32 s33 s34 s35 s36 s37 s38 s59 s60 s61 s62 s63 s64 s65 s66 s67 s68 s69 s70 s71 s72 s73 s74 s75 s76 s77 s78 s79 s80 s81 s82 s83 s84 s85 s86 s87 s88 s89 s90 s91 s92 s93 s94 s95 s96 s97 s98 s99 s100 s101 s102 s103 s104 s105 s106 s107 s108 s109 s110 s111 s112 s113 s114 s115 s116 s117 s118 s119 s120 s121 s122 s123 s124 s125 s126 s127 s128 s129 s130 s131 s132 s133 s134 s135 s136 s137 s138 s139 s140 s141 s142 s143 s144 s145 s146 s147 s148 s149 s150 s151 s152 s153 s154 s155 s156 s157 s158 s159 s160 s161 s162 s163 s164 s165 s166 s167 s168 s169 s39 s40 s41 s42 s43 s44 s45 s46 s47 s48 s49 s50 s51 s52 s53 s54 s55 s56 s57 s58 : Value} {W0 : World} (HL : Hid ((TwB1 w m Y1 n1 c1 Y2 n2 c2 Y3 n3 c3 Y4 n4 c4 T (some ⟨bb, oo, none⟩) k1 d1 tp B2 k2 d2 tw (.slice A l.length c) l) W0))
    (HQ : Hid (∀ (u : Nat → Value) (W : World), (fun W => ∃ v2 : Value, TwB1 w m Y1 n1 c1 Y2 n2 c2 Y3 n3 c3 Y4 n4 c4 T (some ⟨bb, oo, none⟩) k1 d1 tp B2 k2 d2 tw v2 (l ++ [(min m.phi (x + turnV qs k))]) W) W → Q .normal ⟨#[s0, s1, s2, .pointer (some ⟨w.heap.size, 0, none⟩), s4, .pointer (some ⟨w.heap.size + 1, 0, none⟩), s6, s7, .pointer (some ⟨T, 0, none⟩), .pointer (some ⟨T + 1, 0, none⟩), .int .i64 (k : Int), s11, s12, s13, s14, s15, s16, s17, s18, s19, s20, s21, s22, s23, s24, s25, s26, s27, s28, s29, s30, s31, s32, s33, s34, s35, s36, s37, s38, u 0, u 1, u 2, u 3, u 4, u 5, u 6, u 7, u 8, u 9, u 10, u 11, u 12, u 13, u 14, u 15, u 16, u 17, u 18, u 19, s59, s60, s61, s62, s63, s64, s65, s66, s67, s68, s69, s70, s71, s72, s73, s74, s75, s76, s77, s78, s79, s80, s81, s82, s83, s84, s85, s86, s87, s88, s89, s90, s91, s92, s93, s94, s95, s96, s97, s98, s99, s100, s101, s102, s103, s104, s105, s106, s107, s108, s109, s110, s111, s112, s113, s114, s115, s116, s117, s118, s119, s120, s121, s122, s123, s124, s125, s126, s127, s128, s129, s130, s131, s132, s133, s134, s135, s136, s137, s138, s139, s140, s141, s142, s143, s144, s145, s146, s147, s148, s149, s150, s151, s152, s153, s154, s155, s156, s157, s158, s159, s160, s161, s162, s163, s164, s165, s166, s167, s168, s169], []⟩ W)) :
    Code.wp Try.prog ((Try.f13.body.bind (regionAt 9)).getD .skip) Q ⟨#[s0, s1, s2, .pointer (some ⟨w.heap.size, 0, none⟩), s4, .pointer (some ⟨w.heap.size + 1, 0, none⟩), s6, s7, .pointer (some ⟨T, 0, none⟩), .pointer (some ⟨T + 1, 0, none⟩), .int .i64 (k : Int), s11, s12, s13, s14, s15, s16, s17, s18, s19, s20, s21, s22, s23, s24, s25, s26, s27, s28, s29, s30, s31, s32, s33, s34, s35, s36, s37, s38, s39, s40, s41, s42, s43, s44, s45, s46, s47, s48, s49, s50, s51, s52, s53, s54, s55, s56, s57, s58, s59, s60, s61, s62, s63, s64, s65, s66, s67, s68, s69, s70, s71, s72, s73, s74, s75, s76, s77, s78, s79, s80, s81, s82, s83, s84, s85, s86, s87, s88, s89, s90, s91, s92, s93, s94, s95, s96, s97, s98, s99, s100, s101, s102, s103, s104, s105, s106, s107, s108, s109, s110, s111, s112, s113, s114, s115, s116, s117, s118, s119, s120, s121, s122, s123, s124, s125, s126, s127, s128, s129, s130, s131, s132, s133, s134, s135, s136, s137, s138, s139, s140, s141, s142, s143, s144, s145, s146, s147, s148, s149, s150, s151, s152, s153, s154, s155, s156, s157, s158, s159, s160, s161, s162, s163, s164, s165, s166, s167, s168, s169], []⟩ W0 := by
  conv => arg 2; whnf
  refine wp_region_spec2 (by kernel_rfl) 21 (by kernel_rfl) (fun u => ⟨#[s0, s1, s2, .pointer (some ⟨w.heap.size, 0, none⟩), s4, .pointer (some ⟨w.heap.size + 1, 0, none⟩), s6, s7, .pointer (some ⟨T, 0, none⟩), .pointer (some ⟨T + 1, 0, none⟩), .int .i64 (k : Int), s11, s12, s13, s14, s15, s16, s17, s18, s19, s20, s21, s22, s23, s24, s25, s26, s27, s28, s29, s30, s31, s32, s33, s34, s35, s36, s37, s38, u 0, u 1, u 2, u 3, u 4, u 5, u 6, u 7, u 8, u 9, u 10, u 11, u 12, u 13, u 14, u 15, u 16, u 17, u 18, u 19, s59, s60, s61, s62, s63, s64, s65, s66, s67, s68, s69, s70, s71, s72, s73, s74, s75, s76, s77, s78, s79, s80, s81, s82, s83, s84, s85, s86, s87, s88, s89, s90, s91, s92, s93, s94, s95, s96, s97, s98, s99, s100, s101, s102, s103, s104, s105, s106, s107, s108, s109, s110, s111, s112, s113, s114, s115, s116, s117, s118, s119, s120, s121, s122, s123, s124, s125, s126, s127, s128, s129, s130, s131, s132, s133, s134, s135, s136, s137, s138, s139, s140, s141, s142, s143, s144, s145, s146, s147, s148, s149, s150, s151, s152, s153, s154, s155, s156, s157, s158, s159, s160, s161, s162, s163, s164, s165, s166, s167, s168, s169], []⟩) (fun i => if i = 0 then s39 else if i = 1 then s40 else if i = 2 then s41 else if i = 3 then s42 else if i = 4 then s43 else if i = 5 then s44 else if i = 6 then s45 else if i = 7 then s46 else if i = 8 then s47 else if i = 9 then s48 else if i = 10 then s49 else if i = 11 then s50 else if i = 12 then s51 else if i = 13 then s52 else if i = 14 then s53 else if i = 15 then s54 else if i = 16 then s55 else if i = 17 then s56 else if i = 18 then s57 else if i = 19 then s58 else undef) (fun L W => Hid (sel2 (L 18) (L 20) ((TwB1 w m Y1 n1 c1 Y2 n2 c2 Y3 n3 c3 Y4 n4 c4 T (some ⟨bb, oo, none⟩) k1 d1 tp B2 k2 d2 tw (.slice A l.length c) l)) ((TwC w m Y1 n1 c1 Y2 n2 c2 Y3 n3 c3 Y4 n4 c4 T (some ⟨bb, oo, none⟩) k1 d1 tp B2 k2 d2 tw (.slice A l.length c) (.slice none 0 0))) ((fun W => ∃ v2 : Value, TwB1 w m Y1 n1 c1 Y2 n2 c2 Y3 n3 c3 Y4 n4 c4 T (some ⟨bb, oo, none⟩) k1 d1 tp B2 k2 d2 tw v2 (l ++ [(min m.phi (x + turnV qs k))]) W)) W)) (lm9R w m A c k Y3 n3 c3 bb oo k1 d1 T x qs l) (by kernel_rfl) ((fun (W : World) (W' : World) (h : (TwB1 w m Y1 n1 c1 Y2 n2 c2 Y3 n3 c3 Y4 n4 c4 T (some ⟨bb, oo, none⟩) k1 d1 tp B2 k2 d2 tw (.slice A l.length c) l) W) (hb : Below W.heap.size W W') => h.on hb) _ _ HL.out (Below.refl _ _).drew) (by decide +kernel) ?_ ?_
  · iterate 21 (refine all_succ ?_ ?_)
    · exact all_zero
    · intro L u W hB hi hC hd K hK
      have HK := Lib.hid hK; clear hK
      refine wpOp_of rfl (by rfl) ?_
      go_simp
      exact k_of (HK.out (.pointer (some ⟨T + 1, 0, none⟩)) _ rfl hB (fun _ _ _ _ h => h)) (by kernel_rfl)
    · intro L u W hB hi hC hd K hK
      have HK := Lib.hid hK; clear hK
      have h18 : L 18 = false := by
        cases h : L 18 with
        | false => rfl
        | true => exact absurd (hC 18 (by decide) h 1 (by decide +kernel)) (by rw [hi]; decide)
      have h20 : L 20 = false := by
        cases h : L 20 with
        | false => rfl
        | true => exact absurd (hC 20 (by decide) h 1 (by decide +kernel)) (by rw [hi]; decide)
      have hM : (TwB1 w m Y1 n1 c1 Y2 n2 c2 Y3 n3 c3 Y4 n4 c4 T (some ⟨bb, oo, none⟩) k1 d1 tp B2 k2 d2 tw (.slice A l.length c) l) W := by
        have h := hB.out
        rw [h18, h20] at h
        exact h
      have hN : ∀ W', (TwB1 w m Y1 n1 c1 Y2 n2 c2 Y3 n3 c3 Y4 n4 c4 T (some ⟨bb, oo, none⟩) k1 d1 tp B2 k2 d2 tw (.slice A l.length c) l) W' → Hid (sel2 (setL L 1 18) (setL L 1 20) ((TwB1 w m Y1 n1 c1 Y2 n2 c2 Y3 n3 c3 Y4 n4 c4 T (some ⟨bb, oo, none⟩) k1 d1 tp B2 k2 d2 tw (.slice A l.length c) l)) ((TwC w m Y1 n1 c1 Y2 n2 c2 Y3 n3 c3 Y4 n4 c4 T (some ⟨bb, oo, none⟩) k1 d1 tp B2 k2 d2 tw (.slice A l.length c) (.slice none 0 0))) ((fun W => ∃ v2 : Value, TwB1 w m Y1 n1 c1 Y2 n2 c2 Y3 n3 c3 Y4 n4 c4 T (some ⟨bb, oo, none⟩) k1 d1 tp B2 k2 d2 tw v2 (l ++ [(min m.phi (x + turnV qs k))]) W)) W') := fun W' h => by
        show Hid (sel2 (L 18) (L 20) ((TwB1 w m Y1 n1 c1 Y2 n2 c2 Y3 n3 c3 Y4 n4 c4 T (some ⟨bb, oo, none⟩) k1 d1 tp B2 k2 d2 tw (.slice A l.length c) l)) ((TwC w m Y1 n1 c1 Y2 n2 c2 Y3 n3 c3 Y4 n4 c4 T (some ⟨bb, oo, none⟩) k1 d1 tp B2 k2 d2 tw (.slice A l.length c) (.slice none 0 0))) ((fun W => ∃ v2 : Value, TwB1 w m Y1 n1 c1 Y2 n2 c2 Y3 n3 c3 Y4 n4 c4 T (some ⟨bb, oo, none⟩) k1 d1 tp B2 k2 d2 tw v2 (l ++ [(min m.phi (x + turnV qs k))]) W)) W')
        rw [h18, h20]
        exact h
      clear hB
      have hB := Lib.hid hM
      clear hM
      have e0 : u 0 = .pointer (some ⟨T + 1, 0, none⟩) := (hd 0 (by decide +kernel)).2
      refine wpOp_of rfl (by rfl) ?_
      have t0 := hB.out.c.u.cell 0; have t1 := hB.out.c.u.cell 1
      go_simp
      exact k_of (HK.out (.slice A l.length c) _ rfl (hN _ hB.out) (fun _ _ _ _ h => h)) (by rw [← u1_eq e0]; kernel_rfl)
    · intro L u W hB hi hC hd K hK
      have HK := Lib.hid hK; clear hK
      refine wpOp_of rfl (by rfl) ?_
      go_simp
      exact k_of (HK.out (.pointer (some ⟨w.heap.size, 2, none⟩)) _ rfl hB (fun _ _ _ _ h => h)) (by kernel_rfl)
    · intro L u W hB hi hC hd K hK
      have HK := Lib.hid hK; clear hK
      have e2 : u 2 = .pointer (some ⟨w.heap.size, 2, none⟩) := (hd 2 (by decide +kernel)).2
      refine wpOp_of rfl (by rfl) ?_
      go_simp
      exact k_of (HK.out (.pointer (some ⟨w.heap.size, 3, none⟩)) _ rfl hB (fun _ _ _ _ h => h)) (by rw [← u1_eq e2]; kernel_rfl)
    · intro L u W hB hi hC hd K hK
      have HK := Lib.hid hK; clear hK
      have h18 : L 18 = false := by
        cases h : L 18 with
        | false => rfl
        | true => exact absurd (hC 16 (by decide) (hC 17 (by decide) (hC 18 (by decide) h 17 (by decide +kernel)) 16 (by decide +kernel)) 4 (by decide +kernel)) (by rw [hi]; decide)
      have h20 : L 20 = false := by
        cases h : L 20 with
        | false => rfl
        | true => exact absurd (hC 20 (by decide) h 4 (by decide +kernel)) (by rw [hi]; decide)
      have hM : (TwB1 w m Y1 n1 c1 Y2 n2 c2 Y3 n3 c3 Y4 n4 c4 T (some ⟨bb, oo, none⟩) k1 d1 tp B2 k2 d2 tw (.slice A l.length c) l) W := by
        have h := hB.out
        rw [h18, h20] at h
        exact h
      have hN : ∀ W', (TwB1 w m Y1 n1 c1 Y2 n2 c2 Y3 n3 c3 Y4 n4 c4 T (some ⟨bb, oo, none⟩) k1 d1 tp B2 k2 d2 tw (.slice A l.length c) l) W' → Hid (sel2 (setL L 4 18) (setL L 4 20) ((TwB1 w m Y1 n1 c1 Y2 n2 c2 Y3 n3 c3 Y4 n4 c4 T (some ⟨bb, oo, none⟩) k1 d1 tp B2 k2 d2 tw (.slice A l.length c) l)) ((TwC w m Y1 n1 c1 Y2 n2 c2 Y3 n3 c3 Y4 n4 c4 T (some ⟨bb, oo, none⟩) k1 d1 tp B2 k2 d2 tw (.slice A l.length c) (.slice none 0 0))) ((fun W => ∃ v2 : Value, TwB1 w m Y1 n1 c1 Y2 n2 c2 Y3 n3 c3 Y4 n4 c4 T (some ⟨bb, oo, none⟩) k1 d1 tp B2 k2 d2 tw v2 (l ++ [(min m.phi (x + turnV qs k))]) W)) W') := fun W' h => by
        show Hid (sel2 (L 18) (L 20) ((TwB1 w m Y1 n1 c1 Y2 n2 c2 Y3 n3 c3 Y4 n4 c4 T (some ⟨bb, oo, none⟩) k1 d1 tp B2 k2 d2 tw (.slice A l.length c) l)) ((TwC w m Y1 n1 c1 Y2 n2 c2 Y3 n3 c3 Y4 n4 c4 T (some ⟨bb, oo, none⟩) k1 d1 tp B2 k2 d2 tw (.slice A l.length c) (.slice none 0 0))) ((fun W => ∃ v2 : Value, TwB1 w m Y1 n1 c1 Y2 n2 c2 Y3 n3 c3 Y4 n4 c4 T (some ⟨bb, oo, none⟩) k1 d1 tp B2 k2 d2 tw v2 (l ++ [(min m.phi (x + turnV qs k))]) W)) W')
        rw [h18, h20]
        exact h
      clear hB
      have hB := Lib.hid hM
      clear hM
      have e3 : u 3 = .pointer (some ⟨w.heap.size, 3, none⟩) := (hd 3 (by decide +kernel)).2
      refine wpOp_of rfl (by rfl) ?_
      have c3 := hB.out.c.b0.bk.cell 3
      go_simp
      exact k_of (HK.out (.int .i64 m.phi) _ rfl (hN _ hB.out) (fun _ _ _ _ h => h)) (by rw [← u1_eq e3]; kernel_rfl)
    · intro L u W hB hi hC hd K hK
      have HK := Lib.hid hK; clear hK
      refine wpOp_of rfl (by rfl) ?_
      go_simp
      exact k_of (HK.out (.pointer (some ⟨T, 0, none⟩)) _ rfl hB (fun _ _ _ _ h => h)) (by kernel_rfl)
    · intro L u W hB hi hC hd K hK
      have HK := Lib.hid hK; clear hK
      have h18 : L 18 = false := by
        cases h : L 18 with
        | false => rfl
        | true => exact absurd (hC 8 (by decide) (hC 9 (by decide) (hC 15 (by decide) (hC 16 (by decide) (hC 17 (by decide) (hC 18 (by decide) h 17 (by decide +kernel)) 16 (by decide +kernel)) 15 (by decide +kernel)) 9 (by decide +kernel)) 8 (by decide +kernel)) 6 (by decide +kernel)) (by rw [hi]; decide)
      have h20 : L 20 = false := by
        cases h : L 20 with
        | false => rfl
        | true => exact absurd (hC 20 (by decide) h 6 (by decide +kernel)) (by rw [hi]; decide)
      have hM : (TwB1 w m Y1 n1 c1 Y2 n2 c2 Y3 n3 c3 Y4 n4 c4 T (some ⟨bb, oo, none⟩) k1 d1 tp B2 k2 d2 tw (.slice A l.length c) l) W := by
        have h := hB.out
        rw [h18, h20] at h
        exact h
      have hN : ∀ W', (TwB1 w m Y1 n1 c1 Y2 n2 c2 Y3 n3 c3 Y4 n4 c4 T (some ⟨bb, oo, none⟩) k1 d1 tp B2 k2 d2 tw (.slice A l.length c) l) W' → Hid (sel2 (setL L 6 18) (setL L 6 20) ((TwB1 w m Y1 n1 c1 Y2 n2 c2 Y3 n3 c3 Y4 n4 c4 T (some ⟨bb, oo, none⟩) k1 d1 tp B2 k2 d2 tw (.slice A l.length c) l)) ((TwC w m Y1 n1 c1 Y2 n2 c2 Y3 n3 c3 Y4 n4 c4 T (some ⟨bb, oo, none⟩) k1 d1 tp B2 k2 d2 tw (.slice A l.length c) (.slice none 0 0))) ((fun W => ∃ v2 : Value, TwB1 w m Y1 n1 c1 Y2 n2 c2 Y3 n3 c3 Y4 n4 c4 T (some ⟨bb, oo, none⟩) k1 d1 tp B2 k2 d2 tw v2 (l ++ [(min m.phi (x + turnV qs k))]) W)) W') := fun W' h => by
        show Hid (sel2 (L 18) (L 20) ((TwB1 w m Y1 n1 c1 Y2 n2 c2 Y3 n3 c3 Y4 n4 c4 T (some ⟨bb, oo, none⟩) k1 d1 tp B2 k2 d2 tw (.slice A l.length c) l)) ((TwC w m Y1 n1 c1 Y2 n2 c2 Y3 n3 c3 Y4 n4 c4 T (some ⟨bb, oo, none⟩) k1 d1 tp B2 k2 d2 tw (.slice A l.length c) (.slice none 0 0))) ((fun W => ∃ v2 : Value, TwB1 w m Y1 n1 c1 Y2 n2 c2 Y3 n3 c3 Y4 n4 c4 T (some ⟨bb, oo, none⟩) k1 d1 tp B2 k2 d2 tw v2 (l ++ [(min m.phi (x + turnV qs k))]) W)) W')
        rw [h18, h20]
        exact h
      clear hB
      have hB := Lib.hid hM
      clear hM
      have e5 : u 5 = .pointer (some ⟨T, 0, none⟩) := (hd 5 (by decide +kernel)).2
      refine wpOp_of rfl (by rfl) ?_
      have t0 := hB.out.c.t.cell 0; have t1 := hB.out.c.t.cell 1
      go_simp
      exact k_of (HK.out (.slice (some ⟨bb, oo, none⟩) k1 d1) _ rfl (hN _ hB.out) (fun _ _ _ _ h => h)) (by rw [← u1_eq e5]; kernel_rfl)
    · intro L u W hB hi hC hd K hK
      have HK := Lib.hid hK; clear hK
      refine wpOp_of rfl (by rfl) ?_
      go_simp
      exact k_of (HK.out (.int .i64 (k : Int)) _ rfl hB (fun _ _ _ _ h => h)) (by kernel_rfl)
    · intro L u W hB hi hC hd K hK
      have HK := Lib.hid hK; clear hK
      have e6 : u 6 = .slice (some ⟨bb, oo, none⟩) k1 d1 := (hd 6 (by decide +kernel)).2
      have e7 : u 7 = .int .i64 (k : Int) := (hd 7 (by decide +kernel)).2
      refine wpOp_of rfl (by rfl) ?_
      go_simp
      exact k_of (HK.out (.pointer (some ⟨bb, oo + k, none⟩)) _ rfl hB (fun _ _ _ _ h => h)) (by rw [← u1_eq e6, ← u1_eq e7]; kernel_rfl)
    · intro L u W hB hi hC hd K hK
      have HK := Lib.hid hK; clear hK
      have h18 : L 18 = false := by
        cases h : L 18 with
        | false => rfl
        | true => exact absurd (hC 15 (by decide) (hC 16 (by decide) (hC 17 (by decide) (hC 18 (by decide) h 17 (by decide +kernel)) 16 (by decide +kernel)) 15 (by decide +kernel)) 9 (by decide +kernel)) (by rw [hi]; decide)
      have h20 : L 20 = false := by
        cases h : L 20 with
        | false => rfl
        | true => exact absurd (hC 20 (by decide) h 9 (by decide +kernel)) (by rw [hi]; decide)
      have hM : (TwB1 w m Y1 n1 c1 Y2 n2 c2 Y3 n3 c3 Y4 n4 c4 T (some ⟨bb, oo, none⟩) k1 d1 tp B2 k2 d2 tw (.slice A l.length c) l) W := by
        have h := hB.out
        rw [h18, h20] at h
        exact h
      have hN : ∀ W', (TwB1 w m Y1 n1 c1 Y2 n2 c2 Y3 n3 c3 Y4 n4 c4 T (some ⟨bb, oo, none⟩) k1 d1 tp B2 k2 d2 tw (.slice A l.length c) l) W' → Hid (sel2 (setL L 9 18) (setL L 9 20) ((TwB1 w m Y1 n1 c1 Y2 n2 c2 Y3 n3 c3 Y4 n4 c4 T (some ⟨bb, oo, none⟩) k1 d1 tp B2 k2 d2 tw (.slice A l.length c) l)) ((TwC w m Y1 n1 c1 Y2 n2 c2 Y3 n3 c3 Y4 n4 c4 T (some ⟨bb, oo, none⟩) k1 d1 tp B2 k2 d2 tw (.slice A l.length c) (.slice none 0 0))) ((fun W => ∃ v2 : Value, TwB1 w m Y1 n1 c1 Y2 n2 c2 Y3 n3 c3 Y4 n4 c4 T (some ⟨bb, oo, none⟩) k1 d1 tp B2 k2 d2 tw v2 (l ++ [(min m.phi (x + turnV qs k))]) W)) W') := fun W' h => by
        show Hid (sel2 (L 18) (L 20) ((TwB1 w m Y1 n1 c1 Y2 n2 c2 Y3 n3 c3 Y4 n4 c4 T (some ⟨bb, oo, none⟩) k1 d1 tp B2 k2 d2 tw (.slice A l.length c) l)) ((TwC w m Y1 n1 c1 Y2 n2 c2 Y3 n3 c3 Y4 n4 c4 T (some ⟨bb, oo, none⟩) k1 d1 tp B2 k2 d2 tw (.slice A l.length c) (.slice none 0 0))) ((fun W => ∃ v2 : Value, TwB1 w m Y1 n1 c1 Y2 n2 c2 Y3 n3 c3 Y4 n4 c4 T (some ⟨bb, oo, none⟩) k1 d1 tp B2 k2 d2 tw v2 (l ++ [(min m.phi (x + turnV qs k))]) W)) W')
        rw [h18, h20]
        exact h
      clear hB
      have hB := Lib.hid hM
      clear hM
      have e8 : u 8 = .pointer (some ⟨bb, oo + k, none⟩) := (hd 8 (by decide +kernel)).2
      refine wpOp_of rfl (by rfl) ?_
      obtain ⟨_, _, ee, _, dx⟩ := ints_at hB.out.c.i1 hx; cases ee
      go_simp
      exact k_of (HK.out (.int .i64 x) _ rfl (hN _ hB.out) (fun _ _ _ _ h => h)) (by rw [← u1_eq e8]; kernel_rfl)
    · intro L u W hB hi hC hd K hK
      have HK := Lib.hid hK; clear hK
      refine wpOp_of rfl (by rfl) ?_
      go_simp
      exact k_of (HK.out (.pointer (some ⟨w.heap.size + 1, 2, none⟩)) _ rfl hB (fun _ _ _ _ h => h)) (by kernel_rfl)
    · intro L u W hB hi hC hd K hK
      have HK := Lib.hid hK; clear hK
      have e10 : u 10 = .pointer (some ⟨w.heap.size + 1, 2, none⟩) := (hd 10 (by decide +kernel)).2
      refine wpOp_of rfl (by rfl) ?_
      go_simp
      exact k_of (HK.out (.pointer (some ⟨w.heap.size + 1, 2, none⟩)) _ rfl hB (fun _ _ _ _ h => h)) (by rw [← u1_eq e10]; kernel_rfl)
    · intro L u W hB hi hC hd K hK
      have HK := Lib.hid hK; clear hK
      have h18 : L 18 = false := by
        cases h : L 18 with
        | false => rfl
        | true => exact absurd (hC 14 (by decide) (hC 18 (by decide) h 14 (by decide +kernel)) 12 (by decide +kernel)) (by rw [hi]; decide)
      have h20 : L 20 = false := by
        cases h : L 20 with
        | false => rfl
        | true => exact absurd (hC 20 (by decide) h 12 (by decide +kernel)) (by rw [hi]; decide)
      have hM : (TwB1 w m Y1 n1 c1 Y2 n2 c2 Y3 n3 c3 Y4 n4 c4 T (some ⟨bb, oo, none⟩) k1 d1 tp B2 k2 d2 tw (.slice A l.length c) l) W := by
        have h := hB.out
        rw [h18, h20] at h
        exact h
      have hN : ∀ W', (TwB1 w m Y1 n1 c1 Y2 n2 c2 Y3 n3 c3 Y4 n4 c4 T (some ⟨bb, oo, none⟩) k1 d1 tp B2 k2 d2 tw (.slice A l.length c) l) W' → Hid (sel2 (setL L 12 18) (setL L 12 20) ((TwB1 w m Y1 n1 c1 Y2 n2 c2 Y3 n3 c3 Y4 n4 c4 T (some ⟨bb, oo, none⟩) k1 d1 tp B2 k2 d2 tw (.slice A l.length c) l)) ((TwC w m Y1 n1 c1 Y2 n2 c2 Y3 n3 c3 Y4 n4 c4 T (some ⟨bb, oo, none⟩) k1 d1 tp B2 k2 d2 tw (.slice A l.length c) (.slice none 0 0))) ((fun W => ∃ v2 : Value, TwB1 w m Y1 n1 c1 Y2 n2 c2 Y3 n3 c3 Y4 n4 c4 T (some ⟨bb, oo, none⟩) k1 d1 tp B2 k2 d2 tw v2 (l ++ [(min m.phi (x + turnV qs k))]) W)) W') := fun W' h => by
        show Hid (sel2 (L 18) (L 20) ((TwB1 w m Y1 n1 c1 Y2 n2 c2 Y3 n3 c3 Y4 n4 c4 T (some ⟨bb, oo, none⟩) k1 d1 tp B2 k2 d2 tw (.slice A l.length c) l)) ((TwC w m Y1 n1 c1 Y2 n2 c2 Y3 n3 c3 Y4 n4 c4 T (some ⟨bb, oo, none⟩) k1 d1 tp B2 k2 d2 tw (.slice A l.length c) (.slice none 0 0))) ((fun W => ∃ v2 : Value, TwB1 w m Y1 n1 c1 Y2 n2 c2 Y3 n3 c3 Y4 n4 c4 T (some ⟨bb, oo, none⟩) k1 d1 tp B2 k2 d2 tw v2 (l ++ [(min m.phi (x + turnV qs k))]) W)) W')
        rw [h18, h20]
        exact h
      clear hB
      have hB := Lib.hid hM
      clear hM
      have e11 : u 11 = .pointer (some ⟨w.heap.size + 1, 2, none⟩) := (hd 11 (by decide +kernel)).2
      refine wpOp_of rfl (by rfl) ?_
      have y2 := hB.out.c.y.cell 2; have y3 := hB.out.c.y.cell 3
      go_simp
      exact k_of (HK.out (.slice Y3 n3 c3) _ rfl (hN _ hB.out) (fun _ _ _ _ h => h)) (by rw [← u1_eq e11]; kernel_rfl)
    · intro L u W hB hi hC hd K hK
      have HK := Lib.hid hK; clear hK
      refine wpOp_of rfl (by rfl) ?_
      go_simp
      exact k_of (HK.out (.int .i64 (k : Int)) _ rfl hB (fun _ _ _ _ h => h)) (by kernel_rfl)
    · intro L u W hB hi hC hd K hK
      have HK := Lib.hid hK; clear hK
      have h18 : L 18 = false := by
        cases h : L 18 with
        | false => rfl
        | true => exact absurd (hC 18 (by decide) h 14 (by decide +kernel)) (by rw [hi]; decide)
      have h20 : L 20 = false := by
        cases h : L 20 with
        | false => rfl
        | true => exact absurd (hC 20 (by decide) h 14 (by decide +kernel)) (by rw [hi]; decide)
      have hM : (TwB1 w m Y1 n1 c1 Y2 n2 c2 Y3 n3 c3 Y4 n4 c4 T (some ⟨bb, oo, none⟩) k1 d1 tp B2 k2 d2 tw (.slice A l.length c) l) W := by
        have h := hB.out
        rw [h18, h20] at h
        exact h
      have hN : ∀ W', (TwB1 w m Y1 n1 c1 Y2 n2 c2 Y3 n3 c3 Y4 n4 c4 T (some ⟨bb, oo, none⟩) k1 d1 tp B2 k2 d2 tw (.slice A l.length c) l) W' → Hid (sel2 (setL L 14 18) (setL L 14 20) ((TwB1 w m Y1 n1 c1 Y2 n2 c2 Y3 n3 c3 Y4 n4 c4 T (some ⟨bb, oo, none⟩) k1 d1 tp B2 k2 d2 tw (.slice A l.length c) l)) ((TwC w m Y1 n1 c1 Y2 n2 c2 Y3 n3 c3 Y4 n4 c4 T (some ⟨bb, oo, none⟩) k1 d1 tp B2 k2 d2 tw (.slice A l.length c) (.slice none 0 0))) ((fun W => ∃ v2 : Value, TwB1 w m Y1 n1 c1 Y2 n2 c2 Y3 n3 c3 Y4 n4 c4 T (some ⟨bb, oo, none⟩) k1 d1 tp B2 k2 d2 tw v2 (l ++ [(min m.phi (x + turnV qs k))]) W)) W') := fun W' h => by
        show Hid (sel2 (L 18) (L 20) ((TwB1 w m Y1 n1 c1 Y2 n2 c2 Y3 n3 c3 Y4 n4 c4 T (some ⟨bb, oo, none⟩) k1 d1 tp B2 k2 d2 tw (.slice A l.length c) l)) ((TwC w m Y1 n1 c1 Y2 n2 c2 Y3 n3 c3 Y4 n4 c4 T (some ⟨bb, oo, none⟩) k1 d1 tp B2 k2 d2 tw (.slice A l.length c) (.slice none 0 0))) ((fun W => ∃ v2 : Value, TwB1 w m Y1 n1 c1 Y2 n2 c2 Y3 n3 c3 Y4 n4 c4 T (some ⟨bb, oo, none⟩) k1 d1 tp B2 k2 d2 tw v2 (l ++ [(min m.phi (x + turnV qs k))]) W)) W')
        rw [h18, h20]
        exact h
      clear hB
      have hB := Lib.hid hM
      clear hM
      have e12 : u 12 = .slice Y3 n3 c3 := (hd 12 (by decide +kernel)).2
      have e13 : u 13 = .int .i64 (k : Int) := (hd 13 (by decide +kernel)).2
      refine wpOp_of rfl (by rfl) ?_
      go_simp
      refine (HT.out W (hq.on hB.out.c.b0.b)).mono ?_
      rintro e w' ⟨rfl, rfl⟩
      exact k_of (HK.out (.int .i64 (turnV qs k)) _ rfl (hN _ hB.out) (fun _ _ _ _ h => h)) (by rw [← u1_eq e12, ← u1_eq e13]; kernel_rfl)
    · intro L u W hB hi hC hd K hK
      have HK := Lib.hid hK; clear hK
      have h18 : L 18 = false := by
        cases h : L 18 with
        | false => rfl
        | true => exact absurd (hC 16 (by decide) (hC 17 (by decide) (hC 18 (by decide) h 17 (by decide +kernel)) 16 (by decide +kernel)) 15 (by decide +kernel)) (by rw [hi]; decide)
      have h20 : L 20 = false := by
        cases h : L 20 with
        | false => rfl
        | true => exact absurd (hC 20 (by decide) h 15 (by decide +kernel)) (by rw [hi]; decide)
      have hM : (TwB1 w m Y1 n1 c1 Y2 n2 c2 Y3 n3 c3 Y4 n4 c4 T (some ⟨bb, oo, none⟩) k1 d1 tp B2 k2 d2 tw (.slice A l.length c) l) W := by
        have h := hB.out
        rw [h18, h20] at h
        exact h
      have hN : ∀ W', (TwB1 w m Y1 n1 c1 Y2 n2 c2 Y3 n3 c3 Y4 n4 c4 T (some ⟨bb, oo, none⟩) k1 d1 tp B2 k2 d2 tw (.slice A l.length c) l) W' → Hid (sel2 (setL L 15 18) (setL L 15 20) ((TwB1 w m Y1 n1 c1 Y2 n2 c2 Y3 n3 c3 Y4 n4 c4 T (some ⟨bb, oo, none⟩) k1 d1 tp B2 k2 d2 tw (.slice A l.length c) l)) ((TwC w m Y1 n1 c1 Y2 n2 c2 Y3 n3 c3 Y4 n4 c4 T (some ⟨bb, oo, none⟩) k1 d1 tp B2 k2 d2 tw (.slice A l.length c) (.slice none 0 0))) ((fun W => ∃ v2 : Value, TwB1 w m Y1 n1 c1 Y2 n2 c2 Y3 n3 c3 Y4 n4 c4 T (some ⟨bb, oo, none⟩) k1 d1 tp B2 k2 d2 tw v2 (l ++ [(min m.phi (x + turnV qs k))]) W)) W') := fun W' h => by
        show Hid (sel2 (L 18) (L 20) ((TwB1 w m Y1 n1 c1 Y2 n2 c2 Y3 n3 c3 Y4 n4 c4 T (some ⟨bb, oo, none⟩) k1 d1 tp B2 k2 d2 tw (.slice A l.length c) l)) ((TwC w m Y1 n1 c1 Y2 n2 c2 Y3 n3 c3 Y4 n4 c4 T (some ⟨bb, oo, none⟩) k1 d1 tp B2 k2 d2 tw (.slice A l.length c) (.slice none 0 0))) ((fun W => ∃ v2 : Value, TwB1 w m Y1 n1 c1 Y2 n2 c2 Y3 n3 c3 Y4 n4 c4 T (some ⟨bb, oo, none⟩) k1 d1 tp B2 k2 d2 tw v2 (l ++ [(min m.phi (x + turnV qs k))]) W)) W')
        rw [h18, h20]
        exact h
      clear hB
      have hB := Lib.hid hM
      clear hM
      have e9 : u 9 = .int .i64 x := (hd 9 (by decide +kernel)).2
      have e14 : u 14 = .int .i64 (turnV qs k) := (hd 14 (by decide +kernel)).2
      refine wpOp_of rfl (by rfl) ?_
      have hw : IntKind.i64.wrap (x + turnV qs k) = x + turnV qs k := IntWalk.i64_in _ (by omega)
      go_simp
      exact k_of (HK.out (.int .i64 (x + turnV qs k)) _ rfl (hN _ hB.out) (fun _ _ _ _ h => h)) (by rw [← u1_eq e9, ← u1_eq e14]; kernel_rfl)
    · intro L u W hB hi hC hd K hK
      have HK := Lib.hid hK; clear hK
      have h18 : L 18 = false := by
        cases h : L 18 with
        | false => rfl
        | true => exact absurd (hC 17 (by decide) (hC 18 (by decide) h 17 (by decide +kernel)) 16 (by decide +kernel)) (by rw [hi]; decide)
      have h20 : L 20 = false := by
        cases h : L 20 with
        | false => rfl
        | true => exact absurd (hC 20 (by decide) h 16 (by decide +kernel)) (by rw [hi]; decide)
      have hM : (TwB1 w m Y1 n1 c1 Y2 n2 c2 Y3 n3 c3 Y4 n4 c4 T (some ⟨bb, oo, none⟩) k1 d1 tp B2 k2 d2 tw (.slice A l.length c) l) W := by
        have h := hB.out
        rw [h18, h20] at h
        exact h
      have hN : ∀ W', (TwB1 w m Y1 n1 c1 Y2 n2 c2 Y3 n3 c3 Y4 n4 c4 T (some ⟨bb, oo, none⟩) k1 d1 tp B2 k2 d2 tw (.slice A l.length c) l) W' → Hid (sel2 (setL L 16 18) (setL L 16 20) ((TwB1 w m Y1 n1 c1 Y2 n2 c2 Y3 n3 c3 Y4 n4 c4 T (some ⟨bb, oo, none⟩) k1 d1 tp B2 k2 d2 tw (.slice A l.length c) l)) ((TwC w m Y1 n1 c1 Y2 n2 c2 Y3 n3 c3 Y4 n4 c4 T (some ⟨bb, oo, none⟩) k1 d1 tp B2 k2 d2 tw (.slice A l.length c) (.slice none 0 0))) ((fun W => ∃ v2 : Value, TwB1 w m Y1 n1 c1 Y2 n2 c2 Y3 n3 c3 Y4 n4 c4 T (some ⟨bb, oo, none⟩) k1 d1 tp B2 k2 d2 tw v2 (l ++ [(min m.phi (x + turnV qs k))]) W)) W') := fun W' h => by
        show Hid (sel2 (L 18) (L 20) ((TwB1 w m Y1 n1 c1 Y2 n2 c2 Y3 n3 c3 Y4 n4 c4 T (some ⟨bb, oo, none⟩) k1 d1 tp B2 k2 d2 tw (.slice A l.length c) l)) ((TwC w m Y1 n1 c1 Y2 n2 c2 Y3 n3 c3 Y4 n4 c4 T (some ⟨bb, oo, none⟩) k1 d1 tp B2 k2 d2 tw (.slice A l.length c) (.slice none 0 0))) ((fun W => ∃ v2 : Value, TwB1 w m Y1 n1 c1 Y2 n2 c2 Y3 n3 c3 Y4 n4 c4 T (some ⟨bb, oo, none⟩) k1 d1 tp B2 k2 d2 tw v2 (l ++ [(min m.phi (x + turnV qs k))]) W)) W')
        rw [h18, h20]
        exact h
      clear hB
      have hB := Lib.hid hM
      clear hM
      have e4 : u 4 = .int .i64 m.phi := (hd 4 (by decide +kernel)).2
      have e15 : u 15 = .int .i64 (x + turnV qs k) := (hd 15 (by decide +kernel)).2
      refine wpOp_of rfl (by rfl) ?_
      go_simp
      exact k_of (HK.out (.int .i64 (min m.phi (x + turnV qs k))) _ rfl (hN _ hB.out) (fun _ _ _ _ h => h)) (by rw [← u1_eq e4, ← u1_eq e15]; kernel_rfl)
    · intro L u W hB hi hC hd K hK
      have HK := Lib.hid hK; clear hK
      have h18 : L 18 = false := by
        cases h : L 18 with
        | false => rfl
        | true => exact absurd (hC 18 (by decide) h 17 (by decide +kernel)) (by rw [hi]; decide)
      have h20 : L 20 = false := by
        cases h : L 20 with
        | false => rfl
        | true => exact absurd (hC 20 (by decide) h 17 (by decide +kernel)) (by rw [hi]; decide)
      have hM : (TwB1 w m Y1 n1 c1 Y2 n2 c2 Y3 n3 c3 Y4 n4 c4 T (some ⟨bb, oo, none⟩) k1 d1 tp B2 k2 d2 tw (.slice A l.length c) l) W := by
        have h := hB.out
        rw [h18, h20] at h
        exact h
      have hN : ∀ W', (TwB1 w m Y1 n1 c1 Y2 n2 c2 Y3 n3 c3 Y4 n4 c4 T (some ⟨bb, oo, none⟩) k1 d1 tp B2 k2 d2 tw (.slice A l.length c) l) W' → Hid (sel2 (setL L 17 18) (setL L 17 20) ((TwB1 w m Y1 n1 c1 Y2 n2 c2 Y3 n3 c3 Y4 n4 c4 T (some ⟨bb, oo, none⟩) k1 d1 tp B2 k2 d2 tw (.slice A l.length c) l)) ((TwC w m Y1 n1 c1 Y2 n2 c2 Y3 n3 c3 Y4 n4 c4 T (some ⟨bb, oo, none⟩) k1 d1 tp B2 k2 d2 tw (.slice A l.length c) (.slice none 0 0))) ((fun W => ∃ v2 : Value, TwB1 w m Y1 n1 c1 Y2 n2 c2 Y3 n3 c3 Y4 n4 c4 T (some ⟨bb, oo, none⟩) k1 d1 tp B2 k2 d2 tw v2 (l ++ [(min m.phi (x + turnV qs k))]) W)) W') := fun W' h => by
        show Hid (sel2 (L 18) (L 20) ((TwB1 w m Y1 n1 c1 Y2 n2 c2 Y3 n3 c3 Y4 n4 c4 T (some ⟨bb, oo, none⟩) k1 d1 tp B2 k2 d2 tw (.slice A l.length c) l)) ((TwC w m Y1 n1 c1 Y2 n2 c2 Y3 n3 c3 Y4 n4 c4 T (some ⟨bb, oo, none⟩) k1 d1 tp B2 k2 d2 tw (.slice A l.length c) (.slice none 0 0))) ((fun W => ∃ v2 : Value, TwB1 w m Y1 n1 c1 Y2 n2 c2 Y3 n3 c3 Y4 n4 c4 T (some ⟨bb, oo, none⟩) k1 d1 tp B2 k2 d2 tw v2 (l ++ [(min m.phi (x + turnV qs k))]) W)) W')
        rw [h18, h20]
        exact h
      clear hB
      have hB := Lib.hid hM
      clear hM
      have e16 : u 16 = .int .i64 (min m.phi (x + turnV qs k)) := (hd 16 (by decide +kernel)).2
      refine wpOp_of rfl (by rfl) ?_
      go_simp
      have hb : Below W.heap.size W (W.alloc (.cells #[.int .i64 (min m.phi (x + turnV qs k))] 3)) := (Below.refl _ W).alloc (Nat.le_refl _) _
      exact k_of (HK.out (.slice (some ⟨W.heap.size, 0, none⟩) 1 1) _ ⟨W.heap.size, rfl, Blk.new W _ _, hB.out.c.sz, own_new hB.out.o⟩ (hN _ (hB.out.on hb)) (fun j v hj _ hR => lm9R_on w m A c k Y3 n3 c3 bb oo k1 d1 T x qs l j hj v _ _ hR hb)) (by rw [← u1_eq e16]; kernel_rfl)
    · intro L u W hB hi hC hd K hK
      have HK := Lib.hid hK; clear hK
      have h18 : L 18 = false := hi
      have h20 : L 20 = false := by
        cases h : L 20 with
        | false => rfl
        | true => exact absurd (hC 20 (by decide) h 18 (by decide +kernel)) (by rw [hi]; decide)
      have hM : (TwB1 w m Y1 n1 c1 Y2 n2 c2 Y3 n3 c3 Y4 n4 c4 T (some ⟨bb, oo, none⟩) k1 d1 tp B2 k2 d2 tw (.slice A l.length c) l) W := by
        have h := hB.out
        rw [h18, h20] at h
        exact h
      have hN : ∀ W', (TwC w m Y1 n1 c1 Y2 n2 c2 Y3 n3 c3 Y4 n4 c4 T (some ⟨bb, oo, none⟩) k1 d1 tp B2 k2 d2 tw (.slice A l.length c) (.slice none 0 0)) W' → Hid (sel2 (setL L 18 18) (setL L 18 20) ((TwB1 w m Y1 n1 c1 Y2 n2 c2 Y3 n3 c3 Y4 n4 c4 T (some ⟨bb, oo, none⟩) k1 d1 tp B2 k2 d2 tw (.slice A l.length c) l)) ((TwC w m Y1 n1 c1 Y2 n2 c2 Y3 n3 c3 Y4 n4 c4 T (some ⟨bb, oo, none⟩) k1 d1 tp B2 k2 d2 tw (.slice A l.length c) (.slice none 0 0))) ((fun W => ∃ v2 : Value, TwB1 w m Y1 n1 c1 Y2 n2 c2 Y3 n3 c3 Y4 n4 c4 T (some ⟨bb, oo, none⟩) k1 d1 tp B2 k2 d2 tw v2 (l ++ [(min m.phi (x + turnV qs k))]) W)) W') := fun W' h => by
        show Hid (sel2 true (L 20) ((TwB1 w m Y1 n1 c1 Y2 n2 c2 Y3 n3 c3 Y4 n4 c4 T (some ⟨bb, oo, none⟩) k1 d1 tp B2 k2 d2 tw (.slice A l.length c) l)) ((TwC w m Y1 n1 c1 Y2 n2 c2 Y3 n3 c3 Y4 n4 c4 T (some ⟨bb, oo, none⟩) k1 d1 tp B2 k2 d2 tw (.slice A l.length c) (.slice none 0 0))) ((fun W => ∃ v2 : Value, TwB1 w m Y1 n1 c1 Y2 n2 c2 Y3 n3 c3 Y4 n4 c4 T (some ⟨bb, oo, none⟩) k1 d1 tp B2 k2 d2 tw v2 (l ++ [(min m.phi (x + turnV qs k))]) W)) W')
        rw [h20]
        exact h
      clear hB
      have hB := Lib.hid hM
      clear hM
      have e1 : u 1 = .slice A l.length c := (hd 1 (by decide +kernel)).2
      obtain ⟨g_17, e17, f17_0, f17_1, f17_2⟩ : lm9R w m A c k Y3 n3 c3 bb oo k1 d1 T x qs l 17 (u 17) W := (hd 17 (by decide +kernel)).2
      refine wpOp_of rfl (by rfl) ?_
      refine app_wp rfl _ _ rfl e1 hB.out.o (min m.phi (x + turnV qs k)) e17 f17_0 hl hB.out.c.sz ?_
      intro g cap w4 r1 r2 r3 r4
      have hkeep : ∀ j, j < 21 → ∀ v, L j = true → lm9R w m A c k Y3 n3 c3 bb oo k1 d1 T x qs l j v W → lm9R w m A c k Y3 n3 c3 bb oo k1 d1 T x qs l j v w4 := by
        iterate 21 (refine all_succ ?_ ?_)
        · exact all_zero
        · exact fun _ _ h => h
        · exact fun _ _ h => h
        · exact fun _ _ h => h
        · exact fun _ _ h => h
        · exact fun _ _ h => h
        · exact fun _ _ h => h
        · exact fun _ _ h => h
        · exact fun _ _ h => h
        · exact fun _ _ h => h
        · exact fun _ _ h => h
        · exact fun _ _ h => h
        · exact fun _ _ h => h
        · exact fun _ _ h => h
        · exact fun _ _ h => h
        · exact fun _ _ h => h
        · exact fun _ _ h => h
        · exact fun _ _ h => h
        · rintro v _ ⟨g, e, h1, h2, h3⟩; exact ⟨g, e, h1.grow r3 h3, h2, h3⟩
        · intro v h; rw [hi] at h; cases h
        · exact fun _ _ h => h
        · exact fun _ _ h => h
      exact k_of (HK.out (.slice (some ⟨g, 0, none⟩) (l.length + 1) cap) _ ⟨g, cap, rfl, r1⟩ (hN _ (hB.out.c.below r2 (Nat.le_refl _))) (fun j v hj h1 h2 => hkeep j hj v h1 h2)) (by rw [← u1_eq e1, ← u1_eq e17]; kernel_rfl)
    · intro L u W hB hi hC hd K hK
      have HK := Lib.hid hK; clear hK
      refine wpOp_of rfl (by rfl) ?_
      go_simp
      exact k_of (HK.out (.pointer (some ⟨T + 1, 0, none⟩)) _ rfl hB (fun _ _ _ _ h => h)) (by kernel_rfl)
    · intro L u W hB hi hC hd K hK
      have HK := Lib.hid hK; clear hK
      have h18 : L 18 = true := (hd 18 (by decide +kernel)).1
      have h20 : L 20 = false := hi
      have hM : (TwC w m Y1 n1 c1 Y2 n2 c2 Y3 n3 c3 Y4 n4 c4 T (some ⟨bb, oo, none⟩) k1 d1 tp B2 k2 d2 tw (.slice A l.length c) (.slice none 0 0)) W := by
        have h := hB.out
        rw [h18, h20] at h
        exact h
      have hN : ∀ W', (fun W => ∃ v2 : Value, TwB1 w m Y1 n1 c1 Y2 n2 c2 Y3 n3 c3 Y4 n4 c4 T (some ⟨bb, oo, none⟩) k1 d1 tp B2 k2 d2 tw v2 (l ++ [(min m.phi (x + turnV qs k))]) W) W' → Hid (sel2 (setL L 20 18) (setL L 20 20) ((TwB1 w m Y1 n1 c1 Y2 n2 c2 Y3 n3 c3 Y4 n4 c4 T (some ⟨bb, oo, none⟩) k1 d1 tp B2 k2 d2 tw (.slice A l.length c) l)) ((TwC w m Y1 n1 c1 Y2 n2 c2 Y3 n3 c3 Y4 n4 c4 T (some ⟨bb, oo, none⟩) k1 d1 tp B2 k2 d2 tw (.slice A l.length c) (.slice none 0 0))) ((fun W => ∃ v2 : Value, TwB1 w m Y1 n1 c1 Y2 n2 c2 Y3 n3 c3 Y4 n4 c4 T (some ⟨bb, oo, none⟩) k1 d1 tp B2 k2 d2 tw v2 (l ++ [(min m.phi (x + turnV qs k))]) W)) W') := fun W' h => by
        show Hid (sel2 (L 18) true ((TwB1 w m Y1 n1 c1 Y2 n2 c2 Y3 n3 c3 Y4 n4 c4 T (some ⟨bb, oo, none⟩) k1 d1 tp B2 k2 d2 tw (.slice A l.length c) l)) ((TwC w m Y1 n1 c1 Y2 n2 c2 Y3 n3 c3 Y4 n4 c4 T (some ⟨bb, oo, none⟩) k1 d1 tp B2 k2 d2 tw (.slice A l.length c) (.slice none 0 0))) ((fun W => ∃ v2 : Value, TwB1 w m Y1 n1 c1 Y2 n2 c2 Y3 n3 c3 Y4 n4 c4 T (some ⟨bb, oo, none⟩) k1 d1 tp B2 k2 d2 tw v2 (l ++ [(min m.phi (x + turnV qs k))]) W)) W')
        rw [h18]
        exact h
      clear hB
      have hB := Lib.hid hM
      clear hM
      have e19 : u 19 = .pointer (some ⟨T + 1, 0, none⟩) := (hd 19 (by decide +kernel)).2
      obtain ⟨g_18, cap_18, e18, f18_0⟩ : lm9R w m A c k Y3 n3 c3 bb oo k1 d1 T x qs l 18 (u 18) W := (hd 18 (by decide +kernel)).2
      refine wpOp_of rfl (by rfl) ?_
      have g0 := hB.out.u.frozen 0
      have t0 := hB.out.u.cell 0
      have t1 := hB.out.u.cell 1
      have gl := hB.out.u.lt
      go_simp
      have hkeep : ∀ j, j < 21 → ∀ v, L j = true → lm9R w m A c k Y3 n3 c3 bb oo k1 d1 T x qs l j v W → lm9R w m A c k Y3 n3 c3 bb oo k1 d1 T x qs l j v (W.setCell ⟨T + 1, 0, none⟩ (.slice (some ⟨g_18, 0, none⟩) (l.length + 1) cap_18)) := by
        iterate 21 (refine all_succ ?_ ?_)
        · exact all_zero
        · exact fun _ _ h => h
        · exact fun _ _ h => h
        · exact fun _ _ h => h
        · exact fun _ _ h => h
        · exact fun _ _ h => h
        · exact fun _ _ h => h
        · exact fun _ _ h => h
        · exact fun _ _ h => h
        · exact fun _ _ h => h
        · exact fun _ _ h => h
        · exact fun _ _ h => h
        · exact fun _ _ h => h
        · exact fun _ _ h => h
        · exact fun _ _ h => h
        · exact fun _ _ h => h
        · exact fun _ _ h => h
        · exact fun _ _ h => h
        · rintro v _ ⟨g, e, h1, h2, h3⟩; exact ⟨g, e, h1.far (by simp; omega) _, h2, h3⟩
        · rintro v _ ⟨g, cap, e, h1⟩; exact ⟨g, cap, e, own_set h1 (by omega)⟩
        · exact fun _ _ h => h
        · exact fun _ _ h => h
      exact k_of (HK.out undef _ trivial (hN _ ⟨.slice (some ⟨g_18, 0, none⟩) (l.length + 1) cap_18, hB.out.put0 _, own_set f18_0 (by omega)⟩) (fun j v hj h1 h2 => hkeep j hj v h1 h2)) (by rw [← u1_eq e19, ← u1_eq e18]; kernel_rfl)
  · intro L u W hL hB hd
    have hM : (fun W => ∃ v2 : Value, TwB1 w m Y1 n1 c1 Y2 n2 c2 Y3 n3 c3 Y4 n4 c4 T (some ⟨bb, oo, none⟩) k1 d1 tp B2 k2 d2 tw v2 (l ++ [(min m.phi (x + turnV qs k))]) W) W := by
      have h := hB.out
      rw [hL 18 (by decide), hL 20 (by decide)] at h
      exact h
    exact k_of (HQ.out u W hM) (rfl)

/-- What each operation leaves. -/
def lm13R (w : World) (m : Md) (A : Option Addr) (c k : Nat) (Y4 : Option Addr) (n4 c4 : Nat) (bb oo k2 d2 : Nat) (T : Nat) (x : Int) (vs l : List Int) (B : Nat) : Nat → Value → World → Prop
  | 0, v, _ => v = .pointer (some ⟨T + 1, 1, none⟩)
  | 1, v, _ => v = .slice A l.length c
  | 2, v, _ => v = .pointer (some ⟨w.heap.size, 4, none⟩)
  | 3, v, _ => v = .pointer (some ⟨w.heap.size, 5, none⟩)
  | 4, v, _ => v = .int .i64 m.whi
  | 5, v, _ => v = .pointer (some ⟨T, 1, none⟩)
  | 6, v, _ => v = .slice (some ⟨bb, oo, none⟩) k2 d2
  | 7, v, _ => v = .int .i64 (k : Int)
  | 8, v, _ => v = .pointer (some ⟨bb, oo + k, none⟩)
  | 9, v, _ => v = .int .i64 x
  | 10, v, _ => v = .pointer (some ⟨w.heap.size + 1, 2, none⟩)
  | 11, v, _ => v = .pointer (some ⟨w.heap.size + 1, 3, none⟩)
  | 12, v, _ => v = .slice Y4 n4 c4
  | 13, v, _ => v = .int .i64 (k : Int)
  | 14, v, _ => v = .int .i64 (turnV vs k)
  | 15, v, _ => v = .int .i64 (x + turnV vs k)
  | 16, v, _ => v = .int .i64 (min m.whi (x + turnV vs k))
  | 17, v, W => ∃ g_17, v = .slice (some ⟨g_17, 0, none⟩) 1 1 ∧ Blk W g_17 3 #[.int .i64 (min m.whi (x + turnV vs k))] ∧ T + 1 + 1 ≤ g_17 ∧ (.slice A l.length c : Value).ownBlock ≠ some g_17
  | 18, v, W => ∃ g_18 cap_18, v = .slice (some ⟨g_18, 0, none⟩) (l.length + 1) cap_18 ∧ IntsOut (B) W (.slice (some ⟨g_18, 0, none⟩) (l.length + 1) cap_18) (l ++ [(min m.whi (x + turnV vs k))])
  | 19, v, _ => v = .pointer (some ⟨T + 1, 1, none⟩)
  | 20, _, _ => True
  | _, _, _ => True
theorem lm13R_on (w : World) (m : Md) (A : Option Addr) (c k : Nat) (Y4 : Option Addr) (n4 c4 : Nat) (bb oo k2 d2 : Nat) (T : Nat) (x : Int) (vs l : List Int) (B : Nat) : ∀ i, i < 21 → ∀ v W W', lm13R w m A c k Y4 n4 c4 bb oo k2 d2 T x vs l B i v W → Below W.heap.size W W' → lm13R w m A c k Y4 n4 c4 bb oo k2 d2 T x vs l B i v W' := by
  iterate 21 (refine all_succ ?_ ?_)
  · exact all_zero
  · exact fun _ _ _ h _ => h
  · exact fun _ _ _ h _ => h
  · exact fun _ _ _ h _ => h
  · exact fun _ _ _ h _ => h
  · exact fun _ _ _ h _ => h
  · exact fun _ _ _ h _ => h
  · exact fun _ _ _ h _ => h
  · exact fun _ _ _ h _ => h
  · exact fun _ _ _ h _ => h
  · exact fun _ _ _ h _ => h
  · exact fun _ _ _ h _ => h
  · exact fun _ _ _ h _ => h
  · exact fun _ _ _ h _ => h
  · exact fun _ _ _ h _ => h
  · exact fun _ _ _ h _ => h
  · exact fun _ _ _ h _ => h
  · exact fun _ _ _ h _ => h
  · rintro v W W' ⟨g_17, e, h0, h1, h2⟩ hb; exact ⟨g_17, e, h0.on hb, h1, h2⟩
  · rintro v W W' ⟨g_18, cap_18, e, h0⟩ hb; exact ⟨g_18, cap_18, e, (own_below h0 hb)⟩
  · exact fun _ _ _ h _ => h
  · exact fun _ _ _ h _ => h
set_option maxRecDepth 100000 in
set_option maxHeartbeats 8000000 in
theorem lm13_region {w : World} {m : Md} {Y1 : Option Addr} {n1 c1 : Nat} {Y2 : Option Addr} {n2 c2 : Nat} {Y3 : Option Addr} {n3 c3 : Nat} {Y4 : Option Addr} {n4 c4 : Nat} {T : Nat} {B1 : Option Addr} {k1 d1 : Nat} {tp : List Int} {bb oo : Nat} {k2 d2 : Nat} {tw : List Int} {A : Option Addr} {c k : Nat} {x : Int} {vs l : List Int} {B : Nat} {vf : Value} {l1 : List Int} (hx : tw[k]? = some x) (hx0 : 0 ≤ x ∧ x ≤ 2000) (hkk : (k : Int) < k2) (hq : U16In w Y4 vs) (ht : 0 ≤ turnV vs k ∧ turnV vs k ≤ 65535) (HT : Hid (∀ W, U16In W Y4 vs → Calls Try.prog 47 #[.slice Y4 n4 c4, .int .i64 (k : Int)] W fun e w' => e = .returned (.int .i64 (turnV vs k)) ∧ w' = W)) (hl : l.length < 1000000) {Q : Exit → Act → World → Prop} {s0 s1 s2 s4 s6 s7 s10 s12 s13 s14 s15 s16 s17 s18 s19 s20 s21 s22 s23 s24 s25 s26 s27 s28 s29 s30 s31 s32 s33 s34 s35 s36 s37 s38 s39 s40 s41 s42 s43 s44 s45 s46 s47 s48 s49 s50 s51 s52 s53 s54 s55 s56 s57 s58 s59 s60 s61 s62 s63 s84 s85 s86 s87 s88 s89 s90 s91 s92 s93 s94 s95 s96 s97 s98 s99 s100 s101 s102 s103 s104 s105 s106 s107 s108 s109 s110 s111 s112 s113 s114 s115 s116 s117 s118 s119 s120 s121 s122 s123 s124 s125 s126 s127 s128 s129 s130 s131 s132 s133 s134 s135 s136 s137 s138 s139 s140 s141 s142 s143 s144 s145 s146 s147 s148 s149 s150 s151 s152 s153 s154 s155 s156 s157 s158 s159 s160 s161 s162 s163 s164 s165 s166 s167 s168 s169 s64 s65 s66 s67 s68 s69 s70 s71 s72 s73 s74 s75 s76 s77 s78 s79 s80 s81 s82 s83 : Value} {W0 : World} (HL : Hid ((TwB2 w m Y1 n1 c1 Y2 n2 c2 Y3 n3 c3 Y4 n4 c4 T B1 k1 d1 tp (some ⟨bb, oo, none⟩) k2 d2 tw B vf l1 (.slice A l.length c) l) W0))
    (HQ : Hid (∀ (u : Nat → Value) (W : World), (fun W => ∃ v2 : Value, TwB2 w m Y1 n1 c1 Y2 n2 c2 Y3 n3 c3 Y4 n4 c4 T B1 k1 d1 tp (some ⟨bb, oo, none⟩) k2 d2 tw B vf l1 v2 (l ++ [(min m.whi (x + turnV vs k))]) W) W → Q .normal ⟨#[s0, s1, s2, .pointer (some ⟨w.heap.size, 0, none⟩), s4, .pointer (some ⟨w.heap.size + 1, 0, none⟩), s6, s7, .pointer (some ⟨T, 0, none⟩), .pointer (some ⟨T + 1, 0, none⟩), s10, .int .i64 (k : Int), s12, s13, s14, s15, s16, s17, s18, s19, s20, s21, s22, s23, s24, s25, s26, s27, s28, s29, s30, s31, s32, s33, s34, s35, s36, s37, s38, s39, s40, s41, s42, s43, s44, s45, s46, s47, s48, s49, s50, s51, s52, s53, s54, s55, s56, s57, s58, s59, s60, s61, s62, s63, u 0, u 1, u 2, u 3, u 4, u 5, u 6, u 7, u 8, u 9, u 10, u 11, u 12, u 13, u 14, u 15, u 16, u 17, u 18, u 19, s84, s85, s86, s87, s88, s89, s90, s91, s92, s93, s94, s95, s96, s97, s98, s99, s100, s101, s102, s103, s104, s105, s106, s107, s108, s109, s110, s111, s112, s113, s114, s115, s116, s117, s118, s119, s120, s121, s122, s123, s124, s125, s126, s127, s128, s129, s130, s131, s132, s133, s134, s135, s136, s137, s138, s139, s140, s141, s142, s143, s144, s145, s146, s147, s148, s149, s150, s151, s152, s153, s154, s155, s156, s157, s158, s159, s160, s161, s162, s163, s164, s165, s166, s167, s168, s169], []⟩ W)) :
    Code.wp Try.prog ((Try.f13.body.bind (regionAt 13)).getD .skip) Q ⟨#[s0, s1, s2, .pointer (some ⟨w.heap.size, 0, none⟩), s4, .pointer (some ⟨w.heap.size + 1, 0, none⟩), s6, s7, .pointer (some ⟨T, 0, none⟩), .pointer (some ⟨T + 1, 0, none⟩), s10, .int .i64 (k : Int), s12, s13, s14, s15, s16, s17, s18, s19, s20, s21, s22, s23, s24, s25, s26, s27, s28, s29, s30, s31, s32, s33, s34, s35, s36, s37, s38, s39, s40, s41, s42, s43, s44, s45, s46, s47, s48, s49, s50, s51, s52, s53, s54, s55, s56, s57, s58, s59, s60, s61, s62, s63, s64, s65, s66, s67, s68, s69, s70, s71, s72, s73, s74, s75, s76, s77, s78, s79, s80, s81, s82, s83, s84, s85, s86, s87, s88, s89, s90, s91, s92, s93, s94, s95, s96, s97, s98, s99, s100, s101, s102, s103, s104, s105, s106, s107, s108, s109, s110, s111, s112, s113, s114, s115, s116, s117, s118, s119, s120, s121, s122, s123, s124, s125, s126, s127, s128, s129, s130, s131, s132, s133, s134, s135, s136, s137, s138, s139, s140, s141, s142, s143, s144, s145, s146, s147, s148, s149, s150, s151, s152, s153, s154, s155, s156, s157, s158, s159, s160, s161, s162, s163, s164, s165, s166, s167, s168, s169], []⟩ W0 := by
  conv => arg 2; whnf
  refine wp_region_spec2 (by kernel_rfl) 21 (by kernel_rfl) (fun u => ⟨#[s0, s1, s2, .pointer (some ⟨w.heap.size, 0, none⟩), s4, .pointer (some ⟨w.heap.size + 1, 0, none⟩), s6, s7, .pointer (some ⟨T, 0, none⟩), .pointer (some ⟨T + 1, 0, none⟩), s10, .int .i64 (k : Int), s12, s13, s14, s15, s16, s17, s18, s19, s20, s21, s22, s23, s24, s25, s26, s27, s28, s29, s30, s31, s32, s33, s34, s35, s36, s37, s38, s39, s40, s41, s42, s43, s44, s45, s46, s47, s48, s49, s50, s51, s52, s53, s54, s55, s56, s57, s58, s59, s60, s61, s62, s63, u 0, u 1, u 2, u 3, u 4, u 5, u 6, u 7, u 8, u 9, u 10, u 11, u 12, u 13, u 14, u 15, u 16, u 17, u 18, u 19, s84, s85, s86, s87, s88, s89, s90, s91, s92, s93, s94, s95, s96, s97, s98, s99, s100, s101, s102, s103, s104, s105, s106, s107, s108, s109, s110, s111, s112, s113, s114, s115, s116, s117, s118, s119, s120, s121, s122, s123, s124, s125, s126, s127, s128, s129, s130, s131, s132, s133, s134, s135, s136, s137, s138, s139, s140, s141, s142, s143, s144, s145, s146, s147, s148, s149, s150, s151, s152, s153, s154, s155, s156, s157, s158, s159, s160, s161, s162, s163, s164, s165, s166, s167, s168, s169], []⟩) (fun i => if i = 0 then s64 else if i = 1 then s65 else if i = 2 then s66 else if i = 3 then s67 else if i = 4 then s68 else if i = 5 then s69 else if i = 6 then s70 else if i = 7 then s71 else if i = 8 then s72 else if i = 9 then s73 else if i = 10 then s74 else if i = 11 then s75 else if i = 12 then s76 else if i = 13 then s77 else if i = 14 then s78 else if i = 15 then s79 else if i = 16 then s80 else if i = 17 then s81 else if i = 18 then s82 else if i = 19 then s83 else undef) (fun L W => Hid (sel2 (L 18) (L 20) ((TwB2 w m Y1 n1 c1 Y2 n2 c2 Y3 n3 c3 Y4 n4 c4 T B1 k1 d1 tp (some ⟨bb, oo, none⟩) k2 d2 tw B vf l1 (.slice A l.length c) l)) ((TwD w m Y1 n1 c1 Y2 n2 c2 Y3 n3 c3 Y4 n4 c4 T B1 k1 d1 tp (some ⟨bb, oo, none⟩) k2 d2 tw B vf l1 (.slice A l.length c))) ((fun W => ∃ v2 : Value, TwB2 w m Y1 n1 c1 Y2 n2 c2 Y3 n3 c3 Y4 n4 c4 T B1 k1 d1 tp (some ⟨bb, oo, none⟩) k2 d2 tw B vf l1 v2 (l ++ [(min m.whi (x + turnV vs k))]) W)) W)) (lm13R w m A c k Y4 n4 c4 bb oo k2 d2 T x vs l B) (by kernel_rfl) ((fun (W : World) (W' : World) (h : (TwB2 w m Y1 n1 c1 Y2 n2 c2 Y3 n3 c3 Y4 n4 c4 T B1 k1 d1 tp (some ⟨bb, oo, none⟩) k2 d2 tw B vf l1 (.slice A l.length c) l) W) (hb : Below W.heap.size W W') => h.on hb) _ _ HL.out (Below.refl _ _).drew) (by decide +kernel) ?_ ?_
  · iterate 21 (refine all_succ ?_ ?_)
    · exact all_zero
    · intro L u W hB hi hC hd K hK
      have HK := Lib.hid hK; clear hK
      refine wpOp_of rfl (by rfl) ?_
      go_simp
      exact k_of (HK.out (.pointer (some ⟨T + 1, 1, none⟩)) _ rfl hB (fun _ _ _ _ h => h)) (by kernel_rfl)
    · intro L u W hB hi hC hd K hK
      have HK := Lib.hid hK; clear hK
      have h18 : L 18 = false := by
        cases h : L 18 with
        | false => rfl
        | true => exact absurd (hC 18 (by decide) h 1 (by decide +kernel)) (by rw [hi]; decide)
      have h20 : L 20 = false := by
        cases h : L 20 with
        | false => rfl
        | true => exact absurd (hC 20 (by decide) h 1 (by decide +kernel)) (by rw [hi]; decide)
      have hM : (TwB2 w m Y1 n1 c1 Y2 n2 c2 Y3 n3 c3 Y4 n4 c4 T B1 k1 d1 tp (some ⟨bb, oo, none⟩) k2 d2 tw B vf l1 (.slice A l.length c) l) W := by
        have h := hB.out
        rw [h18, h20] at h
        exact h
      have hN : ∀ W', (TwB2 w m Y1 n1 c1 Y2 n2 c2 Y3 n3 c3 Y4 n4 c4 T B1 k1 d1 tp (some ⟨bb, oo, none⟩) k2 d2 tw B vf l1 (.slice A l.length c) l) W' → Hid (sel2 (setL L 1 18) (setL L 1 20) ((TwB2 w m Y1 n1 c1 Y2 n2 c2 Y3 n3 c3 Y4 n4 c4 T B1 k1 d1 tp (some ⟨bb, oo, none⟩) k2 d2 tw B vf l1 (.slice A l.length c) l)) ((TwD w m Y1 n1 c1 Y2 n2 c2 Y3 n3 c3 Y4 n4 c4 T B1 k1 d1 tp (some ⟨bb, oo, none⟩) k2 d2 tw B vf l1 (.slice A l.length c))) ((fun W => ∃ v2 : Value, TwB2 w m Y1 n1 c1 Y2 n2 c2 Y3 n3 c3 Y4 n4 c4 T B1 k1 d1 tp (some ⟨bb, oo, none⟩) k2 d2 tw B vf l1 v2 (l ++ [(min m.whi (x + turnV vs k))]) W)) W') := fun W' h => by
        show Hid (sel2 (L 18) (L 20) ((TwB2 w m Y1 n1 c1 Y2 n2 c2 Y3 n3 c3 Y4 n4 c4 T B1 k1 d1 tp (some ⟨bb, oo, none⟩) k2 d2 tw B vf l1 (.slice A l.length c) l)) ((TwD w m Y1 n1 c1 Y2 n2 c2 Y3 n3 c3 Y4 n4 c4 T B1 k1 d1 tp (some ⟨bb, oo, none⟩) k2 d2 tw B vf l1 (.slice A l.length c))) ((fun W => ∃ v2 : Value, TwB2 w m Y1 n1 c1 Y2 n2 c2 Y3 n3 c3 Y4 n4 c4 T B1 k1 d1 tp (some ⟨bb, oo, none⟩) k2 d2 tw B vf l1 v2 (l ++ [(min m.whi (x + turnV vs k))]) W)) W')
        rw [h18, h20]
        exact h
      clear hB
      have hB := Lib.hid hM
      clear hM
      have e0 : u 0 = .pointer (some ⟨T + 1, 1, none⟩) := (hd 0 (by decide +kernel)).2
      refine wpOp_of rfl (by rfl) ?_
      have t0 := hB.out.d.c.u.cell 0; have t1 := hB.out.d.c.u.cell 1
      go_simp
      exact k_of (HK.out (.slice A l.length c) _ rfl (hN _ hB.out) (fun _ _ _ _ h => h)) (by rw [← u1_eq e0]; kernel_rfl)
    · intro L u W hB hi hC hd K hK
      have HK := Lib.hid hK; clear hK
      refine wpOp_of rfl (by rfl) ?_
      go_simp
      exact k_of (HK.out (.pointer (some ⟨w.heap.size, 4, none⟩)) _ rfl hB (fun _ _ _ _ h => h)) (by kernel_rfl)
    · intro L u W hB hi hC hd K hK
      have HK := Lib.hid hK; clear hK
      have e2 : u 2 = .pointer (some ⟨w.heap.size, 4, none⟩) := (hd 2 (by decide +kernel)).2
      refine wpOp_of rfl (by rfl) ?_
      go_simp
      exact k_of (HK.out (.pointer (some ⟨w.heap.size, 5, none⟩)) _ rfl hB (fun _ _ _ _ h => h)) (by rw [← u1_eq e2]; kernel_rfl)
    · intro L u W hB hi hC hd K hK
      have HK := Lib.hid hK; clear hK
      have h18 : L 18 = false := by
        cases h : L 18 with
        | false => rfl
        | true => exact absurd (hC 16 (by decide) (hC 17 (by decide) (hC 18 (by decide) h 17 (by decide +kernel)) 16 (by decide +kernel)) 4 (by decide +kernel)) (by rw [hi]; decide)
      have h20 : L 20 = false := by
        cases h : L 20 with
        | false => rfl
        | true => exact absurd (hC 20 (by decide) h 4 (by decide +kernel)) (by rw [hi]; decide)
      have hM : (TwB2 w m Y1 n1 c1 Y2 n2 c2 Y3 n3 c3 Y4 n4 c4 T B1 k1 d1 tp (some ⟨bb, oo, none⟩) k2 d2 tw B vf l1 (.slice A l.length c) l) W := by
        have h := hB.out
        rw [h18, h20] at h
        exact h
      have hN : ∀ W', (TwB2 w m Y1 n1 c1 Y2 n2 c2 Y3 n3 c3 Y4 n4 c4 T B1 k1 d1 tp (some ⟨bb, oo, none⟩) k2 d2 tw B vf l1 (.slice A l.length c) l) W' → Hid (sel2 (setL L 4 18) (setL L 4 20) ((TwB2 w m Y1 n1 c1 Y2 n2 c2 Y3 n3 c3 Y4 n4 c4 T B1 k1 d1 tp (some ⟨bb, oo, none⟩) k2 d2 tw B vf l1 (.slice A l.length c) l)) ((TwD w m Y1 n1 c1 Y2 n2 c2 Y3 n3 c3 Y4 n4 c4 T B1 k1 d1 tp (some ⟨bb, oo, none⟩) k2 d2 tw B vf l1 (.slice A l.length c))) ((fun W => ∃ v2 : Value, TwB2 w m Y1 n1 c1 Y2 n2 c2 Y3 n3 c3 Y4 n4 c4 T B1 k1 d1 tp (some ⟨bb, oo, none⟩) k2 d2 tw B vf l1 v2 (l ++ [(min m.whi (x + turnV vs k))]) W)) W') := fun W' h => by
        show Hid (sel2 (L 18) (L 20) ((TwB2 w m Y1 n1 c1 Y2 n2 c2 Y3 n3 c3 Y4 n4 c4 T B1 k1 d1 tp (some ⟨bb, oo, none⟩) k2 d2 tw B vf l1 (.slice A l.length c) l)) ((TwD w m Y1 n1 c1 Y2 n2 c2 Y3 n3 c3 Y4 n4 c4 T B1 k1 d1 tp (some ⟨bb, oo, none⟩) k2 d2 tw B vf l1 (.slice A l.length c))) ((fun W => ∃ v2 : Value, TwB2 w m Y1 n1 c1 Y2 n2 c2 Y3 n3 c3 Y4 n4 c4 T B1 k1 d1 tp (some ⟨bb, oo, none⟩) k2 d2 tw B vf l1 v2 (l ++ [(min m.whi (x + turnV vs k))]) W)) W')
        rw [h18, h20]
        exact h
      clear hB
      have hB := Lib.hid hM
      clear hM
      have e3 : u 3 = .pointer (some ⟨w.heap.size, 5, none⟩) := (hd 3 (by decide +kernel)).2
      refine wpOp_of rfl (by rfl) ?_
      have c5 := hB.out.d.c.b0.bk.cell 5
      go_simp
      exact k_of (HK.out (.int .i64 m.whi) _ rfl (hN _ hB.out) (fun _ _ _ _ h => h)) (by rw [← u1_eq e3]; kernel_rfl)
    · intro L u W hB hi hC hd K hK
      have HK := Lib.hid hK; clear hK
      refine wpOp_of rfl (by rfl) ?_
      go_simp
      exact k_of (HK.out (.pointer (some ⟨T, 1, none⟩)) _ rfl hB (fun _ _ _ _ h => h)) (by kernel_rfl)
    · intro L u W hB hi hC hd K hK
      have HK := Lib.hid hK; clear hK
      have h18 : L 18 = false := by
        cases h : L 18 with
        | false => rfl
        | true => exact absurd (hC 8 (by decide) (hC 9 (by decide) (hC 15 (by decide) (hC 16 (by decide) (hC 17 (by decide) (hC 18 (by decide) h 17 (by decide +kernel)) 16 (by decide +kernel)) 15 (by decide +kernel)) 9 (by decide +kernel)) 8 (by decide +kernel)) 6 (by decide +kernel)) (by rw [hi]; decide)
      have h20 : L 20 = false := by
        cases h : L 20 with
        | false => rfl
        | true => exact absurd (hC 20 (by decide) h 6 (by decide +kernel)) (by rw [hi]; decide)
      have hM : (TwB2 w m Y1 n1 c1 Y2 n2 c2 Y3 n3 c3 Y4 n4 c4 T B1 k1 d1 tp (some ⟨bb, oo, none⟩) k2 d2 tw B vf l1 (.slice A l.length c) l) W := by
        have h := hB.out
        rw [h18, h20] at h
        exact h
      have hN : ∀ W', (TwB2 w m Y1 n1 c1 Y2 n2 c2 Y3 n3 c3 Y4 n4 c4 T B1 k1 d1 tp (some ⟨bb, oo, none⟩) k2 d2 tw B vf l1 (.slice A l.length c) l) W' → Hid (sel2 (setL L 6 18) (setL L 6 20) ((TwB2 w m Y1 n1 c1 Y2 n2 c2 Y3 n3 c3 Y4 n4 c4 T B1 k1 d1 tp (some ⟨bb, oo, none⟩) k2 d2 tw B vf l1 (.slice A l.length c) l)) ((TwD w m Y1 n1 c1 Y2 n2 c2 Y3 n3 c3 Y4 n4 c4 T B1 k1 d1 tp (some ⟨bb, oo, none⟩) k2 d2 tw B vf l1 (.slice A l.length c))) ((fun W => ∃ v2 : Value, TwB2 w m Y1 n1 c1 Y2 n2 c2 Y3 n3 c3 Y4 n4 c4 T B1 k1 d1 tp (some ⟨bb, oo, none⟩) k2 d2 tw B vf l1 v2 (l ++ [(min m.whi (x + turnV vs k))]) W)) W') := fun W' h => by
        show Hid (sel2 (L 18) (L 20) ((TwB2 w m Y1 n1 c1 Y2 n2 c2 Y3 n3 c3 Y4 n4 c4 T B1 k1 d1 tp (some ⟨bb, oo, none⟩) k2 d2 tw B vf l1 (.slice A l.length c) l)) ((TwD w m Y1 n1 c1 Y2 n2 c2 Y3 n3 c3 Y4 n4 c4 T B1 k1 d1 tp (some ⟨bb, oo, none⟩) k2 d2 tw B vf l1 (.slice A l.length c))) ((fun W => ∃ v2 : Value, TwB2 w m Y1 n1 c1 Y2 n2 c2 Y3 n3 c3 Y4 n4 c4 T B1 k1 d1 tp (some ⟨bb, oo, none⟩) k2 d2 tw B vf l1 v2 (l ++ [(min m.whi (x + turnV vs k))]) W)) W')
        rw [h18, h20]
        exact h
      clear hB
      have hB := Lib.hid hM
      clear hM
      have e5 : u 5 = .pointer (some ⟨T, 1, none⟩) := (hd 5 (by decide +kernel)).2
      refine wpOp_of rfl (by rfl) ?_
      have t0 := hB.out.d.c.t.cell 0; have t1 := hB.out.d.c.t.cell 1
      go_simp
      exact k_of (HK.out (.slice (some ⟨bb, oo, none⟩) k2 d2) _ rfl (hN _ hB.out) (fun _ _ _ _ h => h)) (by rw [← u1_eq e5]; kernel_rfl)
    · intro L u W hB hi hC hd K hK
      have HK := Lib.hid hK; clear hK
      refine wpOp_of rfl (by rfl) ?_
      go_simp
      exact k_of (HK.out (.int .i64 (k : Int)) _ rfl hB (fun _ _ _ _ h => h)) (by kernel_rfl)
    · intro L u W hB hi hC hd K hK
      have HK := Lib.hid hK; clear hK
      have e6 : u 6 = .slice (some ⟨bb, oo, none⟩) k2 d2 := (hd 6 (by decide +kernel)).2
      have e7 : u 7 = .int .i64 (k : Int) := (hd 7 (by decide +kernel)).2
      refine wpOp_of rfl (by rfl) ?_
      go_simp
      exact k_of (HK.out (.pointer (some ⟨bb, oo + k, none⟩)) _ rfl hB (fun _ _ _ _ h => h)) (by rw [← u1_eq e6, ← u1_eq e7]; kernel_rfl)
    · intro L u W hB hi hC hd K hK
      have HK := Lib.hid hK; clear hK
      have h18 : L 18 = false := by
        cases h : L 18 with
        | false => rfl
        | true => exact absurd (hC 15 (by decide) (hC 16 (by decide) (hC 17 (by decide) (hC 18 (by decide) h 17 (by decide +kernel)) 16 (by decide +kernel)) 15 (by decide +kernel)) 9 (by decide +kernel)) (by rw [hi]; decide)
      have h20 : L 20 = false := by
        cases h : L 20 with
        | false => rfl
        | true => exact absurd (hC 20 (by decide) h 9 (by decide +kernel)) (by rw [hi]; decide)
      have hM : (TwB2 w m Y1 n1 c1 Y2 n2 c2 Y3 n3 c3 Y4 n4 c4 T B1 k1 d1 tp (some ⟨bb, oo, none⟩) k2 d2 tw B vf l1 (.slice A l.length c) l) W := by
        have h := hB.out
        rw [h18, h20] at h
        exact h
      have hN : ∀ W', (TwB2 w m Y1 n1 c1 Y2 n2 c2 Y3 n3 c3 Y4 n4 c4 T B1 k1 d1 tp (some ⟨bb, oo, none⟩) k2 d2 tw B vf l1 (.slice A l.length c) l) W' → Hid (sel2 (setL L 9 18) (setL L 9 20) ((TwB2 w m Y1 n1 c1 Y2 n2 c2 Y3 n3 c3 Y4 n4 c4 T B1 k1 d1 tp (some ⟨bb, oo, none⟩) k2 d2 tw B vf l1 (.slice A l.length c) l)) ((TwD w m Y1 n1 c1 Y2 n2 c2 Y3 n3 c3 Y4 n4 c4 T B1 k1 d1 tp (some ⟨bb, oo, none⟩) k2 d2 tw B vf l1 (.slice A l.length c))) ((fun W => ∃ v2 : Value, TwB2 w m Y1 n1 c1 Y2 n2 c2 Y3 n3 c3 Y4 n4 c4 T B1 k1 d1 tp (some ⟨bb, oo, none⟩) k2 d2 tw B vf l1 v2 (l ++ [(min m.whi (x + turnV vs k))]) W)) W') := fun W' h => by
        show Hid (sel2 (L 18) (L 20) ((TwB2 w m Y1 n1 c1 Y2 n2 c2 Y3 n3 c3 Y4 n4 c4 T B1 k1 d1 tp (some ⟨bb, oo, none⟩) k2 d2 tw B vf l1 (.slice A l.length c) l)) ((TwD w m Y1 n1 c1 Y2 n2 c2 Y3 n3 c3 Y4 n4 c4 T B1 k1 d1 tp (some ⟨bb, oo, none⟩) k2 d2 tw B vf l1 (.slice A l.length c))) ((fun W => ∃ v2 : Value, TwB2 w m Y1 n1 c1 Y2 n2 c2 Y3 n3 c3 Y4 n4 c4 T B1 k1 d1 tp (some ⟨bb, oo, none⟩) k2 d2 tw B vf l1 v2 (l ++ [(min m.whi (x + turnV vs k))]) W)) W')
        rw [h18, h20]
        exact h
      clear hB
      have hB := Lib.hid hM
      clear hM
      have e8 : u 8 = .pointer (some ⟨bb, oo + k, none⟩) := (hd 8 (by decide +kernel)).2
      refine wpOp_of rfl (by rfl) ?_
      obtain ⟨_, _, ee, _, dx⟩ := ints_at hB.out.d.c.i2 hx; cases ee
      go_simp
      exact k_of (HK.out (.int .i64 x) _ rfl (hN _ hB.out) (fun _ _ _ _ h => h)) (by rw [← u1_eq e8]; kernel_rfl)
    · intro L u W hB hi hC hd K hK
      have HK := Lib.hid hK; clear hK
      refine wpOp_of rfl (by rfl) ?_
      go_simp
      exact k_of (HK.out (.pointer (some ⟨w.heap.size + 1, 2, none⟩)) _ rfl hB (fun _ _ _ _ h => h)) (by kernel_rfl)
    · intro L u W hB hi hC hd K hK
      have HK := Lib.hid hK; clear hK
      have e10 : u 10 = .pointer (some ⟨w.heap.size + 1, 2, none⟩) := (hd 10 (by decide +kernel)).2
      refine wpOp_of rfl (by rfl) ?_
      go_simp
      exact k_of (HK.out (.pointer (some ⟨w.heap.size + 1, 3, none⟩)) _ rfl hB (fun _ _ _ _ h => h)) (by rw [← u1_eq e10]; kernel_rfl)
    · intro L u W hB hi hC hd K hK
      have HK := Lib.hid hK; clear hK
      have h18 : L 18 = false := by
        cases h : L 18 with
        | false => rfl
        | true => exact absurd (hC 14 (by decide) (hC 18 (by decide) h 14 (by decide +kernel)) 12 (by decide +kernel)) (by rw [hi]; decide)
      have h20 : L 20 = false := by
        cases h : L 20 with
        | false => rfl
        | true => exact absurd (hC 20 (by decide) h 12 (by decide +kernel)) (by rw [hi]; decide)
      have hM : (TwB2 w m Y1 n1 c1 Y2 n2 c2 Y3 n3 c3 Y4 n4 c4 T B1 k1 d1 tp (some ⟨bb, oo, none⟩) k2 d2 tw B vf l1 (.slice A l.length c) l) W := by
        have h := hB.out
        rw [h18, h20] at h
        exact h
      have hN : ∀ W', (TwB2 w m Y1 n1 c1 Y2 n2 c2 Y3 n3 c3 Y4 n4 c4 T B1 k1 d1 tp (some ⟨bb, oo, none⟩) k2 d2 tw B vf l1 (.slice A l.length c) l) W' → Hid (sel2 (setL L 12 18) (setL L 12 20) ((TwB2 w m Y1 n1 c1 Y2 n2 c2 Y3 n3 c3 Y4 n4 c4 T B1 k1 d1 tp (some ⟨bb, oo, none⟩) k2 d2 tw B vf l1 (.slice A l.length c) l)) ((TwD w m Y1 n1 c1 Y2 n2 c2 Y3 n3 c3 Y4 n4 c4 T B1 k1 d1 tp (some ⟨bb, oo, none⟩) k2 d2 tw B vf l1 (.slice A l.length c))) ((fun W => ∃ v2 : Value, TwB2 w m Y1 n1 c1 Y2 n2 c2 Y3 n3 c3 Y4 n4 c4 T B1 k1 d1 tp (some ⟨bb, oo, none⟩) k2 d2 tw B vf l1 v2 (l ++ [(min m.whi (x + turnV vs k))]) W)) W') := fun W' h => by
        show Hid (sel2 (L 18) (L 20) ((TwB2 w m Y1 n1 c1 Y2 n2 c2 Y3 n3 c3 Y4 n4 c4 T B1 k1 d1 tp (some ⟨bb, oo, none⟩) k2 d2 tw B vf l1 (.slice A l.length c) l)) ((TwD w m Y1 n1 c1 Y2 n2 c2 Y3 n3 c3 Y4 n4 c4 T B1 k1 d1 tp (some ⟨bb, oo, none⟩) k2 d2 tw B vf l1 (.slice A l.length c))) ((fun W => ∃ v2 : Value, TwB2 w m Y1 n1 c1 Y2 n2 c2 Y3 n3 c3 Y4 n4 c4 T B1 k1 d1 tp (some ⟨bb, oo, none⟩) k2 d2 tw B vf l1 v2 (l ++ [(min m.whi (x + turnV vs k))]) W)) W')
        rw [h18, h20]
        exact h
      clear hB
      have hB := Lib.hid hM
      clear hM
      have e11 : u 11 = .pointer (some ⟨w.heap.size + 1, 3, none⟩) := (hd 11 (by decide +kernel)).2
      refine wpOp_of rfl (by rfl) ?_
      have y2 := hB.out.d.c.y.cell 2; have y3 := hB.out.d.c.y.cell 3
      go_simp
      exact k_of (HK.out (.slice Y4 n4 c4) _ rfl (hN _ hB.out) (fun _ _ _ _ h => h)) (by rw [← u1_eq e11]; kernel_rfl)
    · intro L u W hB hi hC hd K hK
      have HK := Lib.hid hK; clear hK
      refine wpOp_of rfl (by rfl) ?_
      go_simp
      exact k_of (HK.out (.int .i64 (k : Int)) _ rfl hB (fun _ _ _ _ h => h)) (by kernel_rfl)
    · intro L u W hB hi hC hd K hK
      have HK := Lib.hid hK; clear hK
      have h18 : L 18 = false := by
        cases h : L 18 with
        | false => rfl
        | true => exact absurd (hC 18 (by decide) h 14 (by decide +kernel)) (by rw [hi]; decide)
      have h20 : L 20 = false := by
        cases h : L 20 with
        | false => rfl
        | true => exact absurd (hC 20 (by decide) h 14 (by decide +kernel)) (by rw [hi]; decide)
      have hM : (TwB2 w m Y1 n1 c1 Y2 n2 c2 Y3 n3 c3 Y4 n4 c4 T B1 k1 d1 tp (some ⟨bb, oo, none⟩) k2 d2 tw B vf l1 (.slice A l.length c) l) W := by
        have h := hB.out
        rw [h18, h20] at h
        exact h
      have hN : ∀ W', (TwB2 w m Y1 n1 c1 Y2 n2 c2 Y3 n3 c3 Y4 n4 c4 T B1 k1 d1 tp (some ⟨bb, oo, none⟩) k2 d2 tw B vf l1 (.slice A l.length c) l) W' → Hid (sel2 (setL L 14 18) (setL L 14 20) ((TwB2 w m Y1 n1 c1 Y2 n2 c2 Y3 n3 c3 Y4 n4 c4 T B1 k1 d1 tp (some ⟨bb, oo, none⟩) k2 d2 tw B vf l1 (.slice A l.length c) l)) ((TwD w m Y1 n1 c1 Y2 n2 c2 Y3 n3 c3 Y4 n4 c4 T B1 k1 d1 tp (some ⟨bb, oo, none⟩) k2 d2 tw B vf l1 (.slice A l.length c))) ((fun W => ∃ v2 : Value, TwB2 w m Y1 n1 c1 Y2 n2 c2 Y3 n3 c3 Y4 n4 c4 T B1 k1 d1 tp (some ⟨bb, oo, none⟩) k2 d2 tw B vf l1 v2 (l ++ [(min m.whi (x + turnV vs k))]) W)) W') := fun W' h => by
        show Hid (sel2 (L 18) (L 20) ((TwB2 w m Y1 n1 c1 Y2 n2 c2 Y3 n3 c3 Y4 n4 c4 T B1 k1 d1 tp (some ⟨bb, oo, none⟩) k2 d2 tw B vf l1 (.slice A l.length c) l)) ((TwD w m Y1 n1 c1 Y2 n2 c2 Y3 n3 c3 Y4 n4 c4 T B1 k1 d1 tp (some ⟨bb, oo, none⟩) k2 d2 tw B vf l1 (.slice A l.length c))) ((fun W => ∃ v2 : Value, TwB2 w m Y1 n1 c1 Y2 n2 c2 Y3 n3 c3 Y4 n4 c4 T B1 k1 d1 tp (some ⟨bb, oo, none⟩) k2 d2 tw B vf l1 v2 (l ++ [(min m.whi (x + turnV vs k))]) W)) W')
        rw [h18, h20]
        exact h
      clear hB
      have hB := Lib.hid hM
      clear hM
      have e12 : u 12 = .slice Y4 n4 c4 := (hd 12 (by decide +kernel)).2
      have e13 : u 13 = .int .i64 (k : Int) := (hd 13 (by decide +kernel)).2
      refine wpOp_of rfl (by rfl) ?_
      go_simp
      refine (HT.out W (hq.on hB.out.d.c.b0.b)).mono ?_
      rintro e w' ⟨rfl, rfl⟩
      exact k_of (HK.out (.int .i64 (turnV vs k)) _ rfl (hN _ hB.out) (fun _ _ _ _ h => h)) (by rw [← u1_eq e12, ← u1_eq e13]; kernel_rfl)
    · intro L u W hB hi hC hd K hK
      have HK := Lib.hid hK; clear hK
      have h18 : L 18 = false := by
        cases h : L 18 with
        | false => rfl
        | true => exact absurd (hC 16 (by decide) (hC 17 (by decide) (hC 18 (by decide) h 17 (by decide +kernel)) 16 (by decide +kernel)) 15 (by decide +kernel)) (by rw [hi]; decide)
      have h20 : L 20 = false := by
        cases h : L 20 with
        | false => rfl
        | true => exact absurd (hC 20 (by decide) h 15 (by decide +kernel)) (by rw [hi]; decide)
      have hM : (TwB2 w m Y1 n1 c1 Y2 n2 c2 Y3 n3 c3 Y4 n4 c4 T B1 k1 d1 tp (some ⟨bb, oo, none⟩) k2 d2 tw B vf l1 (.slice A l.length c) l) W := by
        have h := hB.out
        rw [h18, h20] at h
        exact h
      have hN : ∀ W', (TwB2 w m Y1 n1 c1 Y2 n2 c2 Y3 n3 c3 Y4 n4 c4 T B1 k1 d1 tp (some ⟨bb, oo, none⟩) k2 d2 tw B vf l1 (.slice A l.length c) l) W' → Hid (sel2 (setL L 15 18) (setL L 15 20) ((TwB2 w m Y1 n1 c1 Y2 n2 c2 Y3 n3 c3 Y4 n4 c4 T B1 k1 d1 tp (some ⟨bb, oo, none⟩) k2 d2 tw B vf l1 (.slice A l.length c) l)) ((TwD w m Y1 n1 c1 Y2 n2 c2 Y3 n3 c3 Y4 n4 c4 T B1 k1 d1 tp (some ⟨bb, oo, none⟩) k2 d2 tw B vf l1 (.slice A l.length c))) ((fun W => ∃ v2 : Value, TwB2 w m Y1 n1 c1 Y2 n2 c2 Y3 n3 c3 Y4 n4 c4 T B1 k1 d1 tp (some ⟨bb, oo, none⟩) k2 d2 tw B vf l1 v2 (l ++ [(min m.whi (x + turnV vs k))]) W)) W') := fun W' h => by
        show Hid (sel2 (L 18) (L 20) ((TwB2 w m Y1 n1 c1 Y2 n2 c2 Y3 n3 c3 Y4 n4 c4 T B1 k1 d1 tp (some ⟨bb, oo, none⟩) k2 d2 tw B vf l1 (.slice A l.length c) l)) ((TwD w m Y1 n1 c1 Y2 n2 c2 Y3 n3 c3 Y4 n4 c4 T B1 k1 d1 tp (some ⟨bb, oo, none⟩) k2 d2 tw B vf l1 (.slice A l.length c))) ((fun W => ∃ v2 : Value, TwB2 w m Y1 n1 c1 Y2 n2 c2 Y3 n3 c3 Y4 n4 c4 T B1 k1 d1 tp (some ⟨bb, oo, none⟩) k2 d2 tw B vf l1 v2 (l ++ [(min m.whi (x + turnV vs k))]) W)) W')
        rw [h18, h20]
        exact h
      clear hB
      have hB := Lib.hid hM
      clear hM
      have e9 : u 9 = .int .i64 x := (hd 9 (by decide +kernel)).2
      have e14 : u 14 = .int .i64 (turnV vs k) := (hd 14 (by decide +kernel)).2
      refine wpOp_of rfl (by rfl) ?_
      have hw : IntKind.i64.wrap (x + turnV vs k) = x + turnV vs k := IntWalk.i64_in _ (by omega)
      go_simp
      exact k_of (HK.out (.int .i64 (x + turnV vs k)) _ rfl (hN _ hB.out) (fun _ _ _ _ h => h)) (by rw [← u1_eq e9, ← u1_eq e14]; kernel_rfl)
    · intro L u W hB hi hC hd K hK
      have HK := Lib.hid hK; clear hK
      have h18 : L 18 = false := by
        cases h : L 18 with
        | false => rfl
        | true => exact absurd (hC 17 (by decide) (hC 18 (by decide) h 17 (by decide +kernel)) 16 (by decide +kernel)) (by rw [hi]; decide)
      have h20 : L 20 = false := by
        cases h : L 20 with
        | false => rfl
        | true => exact absurd (hC 20 (by decide) h 16 (by decide +kernel)) (by rw [hi]; decide)
      have hM : (TwB2 w m Y1 n1 c1 Y2 n2 c2 Y3 n3 c3 Y4 n4 c4 T B1 k1 d1 tp (some ⟨bb, oo, none⟩) k2 d2 tw B vf l1 (.slice A l.length c) l) W := by
        have h := hB.out
        rw [h18, h20] at h
        exact h
      have hN : ∀ W', (TwB2 w m Y1 n1 c1 Y2 n2 c2 Y3 n3 c3 Y4 n4 c4 T B1 k1 d1 tp (some ⟨bb, oo, none⟩) k2 d2 tw B vf l1 (.slice A l.length c) l) W' → Hid (sel2 (setL L 16 18) (setL L 16 20) ((TwB2 w m Y1 n1 c1 Y2 n2 c2 Y3 n3 c3 Y4 n4 c4 T B1 k1 d1 tp (some ⟨bb, oo, none⟩) k2 d2 tw B vf l1 (.slice A l.length c) l)) ((TwD w m Y1 n1 c1 Y2 n2 c2 Y3 n3 c3 Y4 n4 c4 T B1 k1 d1 tp (some ⟨bb, oo, none⟩) k2 d2 tw B vf l1 (.slice A l.length c))) ((fun W => ∃ v2 : Value, TwB2 w m Y1 n1 c1 Y2 n2 c2 Y3 n3 c3 Y4 n4 c4 T B1 k1 d1 tp (some ⟨bb, oo, none⟩) k2 d2 tw B vf l1 v2 (l ++ [(min m.whi (x + turnV vs k))]) W)) W') := fun W' h => by
        show Hid (sel2 (L 18) (L 20) ((TwB2 w m Y1 n1 c1 Y2 n2 c2 Y3 n3 c3 Y4 n4 c4 T B1 k1 d1 tp (some ⟨bb, oo, none⟩) k2 d2 tw B vf l1 (.slice A l.length c) l)) ((TwD w m Y1 n1 c1 Y2 n2 c2 Y3 n3 c3 Y4 n4 c4 T B1 k1 d1 tp (some ⟨bb, oo, none⟩) k2 d2 tw B vf l1 (.slice A l.length c))) ((fun W => ∃ v2 : Value, TwB2 w m Y1 n1 c1 Y2 n2 c2 Y3 n3 c3 Y4 n4 c4 T B1 k1 d1 tp (some ⟨bb, oo, none⟩) k2 d2 tw B vf l1 v2 (l ++ [(min m.whi (x + turnV vs k))]) W)) W')
        rw [h18, h20]
        exact h
      clear hB
      have hB := Lib.hid hM
      clear hM
      have e4 : u 4 = .int .i64 m.whi := (hd 4 (by decide +kernel)).2
      have e15 : u 15 = .int .i64 (x + turnV vs k) := (hd 15 (by decide +kernel)).2
      refine wpOp_of rfl (by rfl) ?_
      go_simp
      exact k_of (HK.out (.int .i64 (min m.whi (x + turnV vs k))) _ rfl (hN _ hB.out) (fun _ _ _ _ h => h)) (by rw [← u1_eq e4, ← u1_eq e15]; kernel_rfl)
    · intro L u W hB hi hC hd K hK
      have HK := Lib.hid hK; clear hK
      have h18 : L 18 = false := by
        cases h : L 18 with
        | false => rfl
        | true => exact absurd (hC 18 (by decide) h 17 (by decide +kernel)) (by rw [hi]; decide)
      have h20 : L 20 = false := by
        cases h : L 20 with
        | false => rfl
        | true => exact absurd (hC 20 (by decide) h 17 (by decide +kernel)) (by rw [hi]; decide)
      have hM : (TwB2 w m Y1 n1 c1 Y2 n2 c2 Y3 n3 c3 Y4 n4 c4 T B1 k1 d1 tp (some ⟨bb, oo, none⟩) k2 d2 tw B vf l1 (.slice A l.length c) l) W := by
        have h := hB.out
        rw [h18, h20] at h
        exact h
      have hN : ∀ W', (TwB2 w m Y1 n1 c1 Y2 n2 c2 Y3 n3 c3 Y4 n4 c4 T B1 k1 d1 tp (some ⟨bb, oo, none⟩) k2 d2 tw B vf l1 (.slice A l.length c) l) W' → Hid (sel2 (setL L 17 18) (setL L 17 20) ((TwB2 w m Y1 n1 c1 Y2 n2 c2 Y3 n3 c3 Y4 n4 c4 T B1 k1 d1 tp (some ⟨bb, oo, none⟩) k2 d2 tw B vf l1 (.slice A l.length c) l)) ((TwD w m Y1 n1 c1 Y2 n2 c2 Y3 n3 c3 Y4 n4 c4 T B1 k1 d1 tp (some ⟨bb, oo, none⟩) k2 d2 tw B vf l1 (.slice A l.length c))) ((fun W => ∃ v2 : Value, TwB2 w m Y1 n1 c1 Y2 n2 c2 Y3 n3 c3 Y4 n4 c4 T B1 k1 d1 tp (some ⟨bb, oo, none⟩) k2 d2 tw B vf l1 v2 (l ++ [(min m.whi (x + turnV vs k))]) W)) W') := fun W' h => by
        show Hid (sel2 (L 18) (L 20) ((TwB2 w m Y1 n1 c1 Y2 n2 c2 Y3 n3 c3 Y4 n4 c4 T B1 k1 d1 tp (some ⟨bb, oo, none⟩) k2 d2 tw B vf l1 (.slice A l.length c) l)) ((TwD w m Y1 n1 c1 Y2 n2 c2 Y3 n3 c3 Y4 n4 c4 T B1 k1 d1 tp (some ⟨bb, oo, none⟩) k2 d2 tw B vf l1 (.slice A l.length c))) ((fun W => ∃ v2 : Value, TwB2 w m Y1 n1 c1 Y2 n2 c2 Y3 n3 c3 Y4 n4 c4 T B1 k1 d1 tp (some ⟨bb, oo, none⟩) k2 d2 tw B vf l1 v2 (l ++ [(min m.whi (x + turnV vs k))]) W)) W')
        rw [h18, h20]
        exact h
      clear hB
      have hB := Lib.hid hM
      clear hM
      have e16 : u 16 = .int .i64 (min m.whi (x + turnV vs k)) := (hd 16 (by decide +kernel)).2
      refine wpOp_of rfl (by rfl) ?_
      go_simp
      have hb : Below W.heap.size W (W.alloc (.cells #[.int .i64 (min m.whi (x + turnV vs k))] 3)) := (Below.refl _ W).alloc (Nat.le_refl _) _
      exact k_of (HK.out (.slice (some ⟨W.heap.size, 0, none⟩) 1 1) _ ⟨W.heap.size, rfl, Blk.new W _ _, hB.out.d.c.sz, own_new hB.out.o2⟩ (hN _ (hB.out.on hb)) (fun j v hj _ hR => lm13R_on w m A c k Y4 n4 c4 bb oo k2 d2 T x vs l B j hj v _ _ hR hb)) (by rw [← u1_eq e16]; kernel_rfl)
    · intro L u W hB hi hC hd K hK
      have HK := Lib.hid hK; clear hK
      have h18 : L 18 = false := hi
      have h20 : L 20 = false := by
        cases h : L 20 with
        | false => rfl
        | true => exact absurd (hC 20 (by decide) h 18 (by decide +kernel)) (by rw [hi]; decide)
      have hM : (TwB2 w m Y1 n1 c1 Y2 n2 c2 Y3 n3 c3 Y4 n4 c4 T B1 k1 d1 tp (some ⟨bb, oo, none⟩) k2 d2 tw B vf l1 (.slice A l.length c) l) W := by
        have h := hB.out
        rw [h18, h20] at h
        exact h
      have hN : ∀ W', (TwD w m Y1 n1 c1 Y2 n2 c2 Y3 n3 c3 Y4 n4 c4 T B1 k1 d1 tp (some ⟨bb, oo, none⟩) k2 d2 tw B vf l1 (.slice A l.length c)) W' → Hid (sel2 (setL L 18 18) (setL L 18 20) ((TwB2 w m Y1 n1 c1 Y2 n2 c2 Y3 n3 c3 Y4 n4 c4 T B1 k1 d1 tp (some ⟨bb, oo, none⟩) k2 d2 tw B vf l1 (.slice A l.length c) l)) ((TwD w m Y1 n1 c1 Y2 n2 c2 Y3 n3 c3 Y4 n4 c4 T B1 k1 d1 tp (some ⟨bb, oo, none⟩) k2 d2 tw B vf l1 (.slice A l.length c))) ((fun W => ∃ v2 : Value, TwB2 w m Y1 n1 c1 Y2 n2 c2 Y3 n3 c3 Y4 n4 c4 T B1 k1 d1 tp (some ⟨bb, oo, none⟩) k2 d2 tw B vf l1 v2 (l ++ [(min m.whi (x + turnV vs k))]) W)) W') := fun W' h => by
        show Hid (sel2 true (L 20) ((TwB2 w m Y1 n1 c1 Y2 n2 c2 Y3 n3 c3 Y4 n4 c4 T B1 k1 d1 tp (some ⟨bb, oo, none⟩) k2 d2 tw B vf l1 (.slice A l.length c) l)) ((TwD w m Y1 n1 c1 Y2 n2 c2 Y3 n3 c3 Y4 n4 c4 T B1 k1 d1 tp (some ⟨bb, oo, none⟩) k2 d2 tw B vf l1 (.slice A l.length c))) ((fun W => ∃ v2 : Value, TwB2 w m Y1 n1 c1 Y2 n2 c2 Y3 n3 c3 Y4 n4 c4 T B1 k1 d1 tp (some ⟨bb, oo, none⟩) k2 d2 tw B vf l1 v2 (l ++ [(min m.whi (x + turnV vs k))]) W)) W')
        rw [h20]
        exact h
      clear hB
      have hB := Lib.hid hM
      clear hM
      have e1 : u 1 = .slice A l.length c := (hd 1 (by decide +kernel)).2
      obtain ⟨g_17, e17, f17_0, f17_1, f17_2⟩ : lm13R w m A c k Y4 n4 c4 bb oo k2 d2 T x vs l B 17 (u 17) W := (hd 17 (by decide +kernel)).2
      refine wpOp_of rfl (by rfl) ?_
      refine app_wp rfl _ _ rfl e1 hB.out.o2 (min m.whi (x + turnV vs k)) e17 f17_0 hl hB.out.d.sz ?_
      intro g cap w4 r1 r2 r3 r4
      have hkeep : ∀ j, j < 21 → ∀ v, L j = true → lm13R w m A c k Y4 n4 c4 bb oo k2 d2 T x vs l B j v W → lm13R w m A c k Y4 n4 c4 bb oo k2 d2 T x vs l B j v w4 := by
        iterate 21 (refine all_succ ?_ ?_)
        · exact all_zero
        · exact fun _ _ h => h
        · exact fun _ _ h => h
        · exact fun _ _ h => h
        · exact fun _ _ h => h
        · exact fun _ _ h => h
        · exact fun _ _ h => h
        · exact fun _ _ h => h
        · exact fun _ _ h => h
        · exact fun _ _ h => h
        · exact fun _ _ h => h
        · exact fun _ _ h => h
        · exact fun _ _ h => h
        · exact fun _ _ h => h
        · exact fun _ _ h => h
        · exact fun _ _ h => h
        · exact fun _ _ h => h
        · exact fun _ _ h => h
        · rintro v _ ⟨g, e, h1, h2, h3⟩; exact ⟨g, e, h1.grow r3 h3, h2, h3⟩
        · intro v h; rw [hi] at h; cases h
        · exact fun _ _ h => h
        · exact fun _ _ h => h
      exact k_of (HK.out (.slice (some ⟨g, 0, none⟩) (l.length + 1) cap) _ ⟨g, cap, rfl, r1⟩ (hN _ (hB.out.d.below r2)) (fun j v hj h1 h2 => hkeep j hj v h1 h2)) (by rw [← u1_eq e1, ← u1_eq e17]; kernel_rfl)
    · intro L u W hB hi hC hd K hK
      have HK := Lib.hid hK; clear hK
      refine wpOp_of rfl (by rfl) ?_
      go_simp
      exact k_of (HK.out (.pointer (some ⟨T + 1, 1, none⟩)) _ rfl hB (fun _ _ _ _ h => h)) (by kernel_rfl)
    · intro L u W hB hi hC hd K hK
      have HK := Lib.hid hK; clear hK
      have h18 : L 18 = true := (hd 18 (by decide +kernel)).1
      have h20 : L 20 = false := hi
      have hM : (TwD w m Y1 n1 c1 Y2 n2 c2 Y3 n3 c3 Y4 n4 c4 T B1 k1 d1 tp (some ⟨bb, oo, none⟩) k2 d2 tw B vf l1 (.slice A l.length c)) W := by
        have h := hB.out
        rw [h18, h20] at h
        exact h
      have hN : ∀ W', (fun W => ∃ v2 : Value, TwB2 w m Y1 n1 c1 Y2 n2 c2 Y3 n3 c3 Y4 n4 c4 T B1 k1 d1 tp (some ⟨bb, oo, none⟩) k2 d2 tw B vf l1 v2 (l ++ [(min m.whi (x + turnV vs k))]) W) W' → Hid (sel2 (setL L 20 18) (setL L 20 20) ((TwB2 w m Y1 n1 c1 Y2 n2 c2 Y3 n3 c3 Y4 n4 c4 T B1 k1 d1 tp (some ⟨bb, oo, none⟩) k2 d2 tw B vf l1 (.slice A l.length c) l)) ((TwD w m Y1 n1 c1 Y2 n2 c2 Y3 n3 c3 Y4 n4 c4 T B1 k1 d1 tp (some ⟨bb, oo, none⟩) k2 d2 tw B vf l1 (.slice A l.length c))) ((fun W => ∃ v2 : Value, TwB2 w m Y1 n1 c1 Y2 n2 c2 Y3 n3 c3 Y4 n4 c4 T B1 k1 d1 tp (some ⟨bb, oo, none⟩) k2 d2 tw B vf l1 v2 (l ++ [(min m.whi (x + turnV vs k))]) W)) W') := fun W' h => by
        show Hid (sel2 (L 18) true ((TwB2 w m Y1 n1 c1 Y2 n2 c2 Y3 n3 c3 Y4 n4 c4 T B1 k1 d1 tp (some ⟨bb, oo, none⟩) k2 d2 tw B vf l1 (.slice A l.length c) l)) ((TwD w m Y1 n1 c1 Y2 n2 c2 Y3 n3 c3 Y4 n4 c4 T B1 k1 d1 tp (some ⟨bb, oo, none⟩) k2 d2 tw B vf l1 (.slice A l.length c))) ((fun W => ∃ v2 : Value, TwB2 w m Y1 n1 c1 Y2 n2 c2 Y3 n3 c3 Y4 n4 c4 T B1 k1 d1 tp (some ⟨bb, oo, none⟩) k2 d2 tw B vf l1 v2 (l ++ [(min m.whi (x + turnV vs k))]) W)) W')
        rw [h18]
        exact h
      clear hB
      have hB := Lib.hid hM
      clear hM
      have e19 : u 19 = .pointer (some ⟨T + 1, 1, none⟩) := (hd 19 (by decide +kernel)).2
      obtain ⟨g_18, cap_18, e18, f18_0⟩ : lm13R w m A c k Y4 n4 c4 bb oo k2 d2 T x vs l B 18 (u 18) W := (hd 18 (by decide +kernel)).2
      refine wpOp_of rfl (by rfl) ?_
      have g0 := hB.out.c.u.frozen 1
      have t0 := hB.out.c.u.cell 0
      have t1 := hB.out.c.u.cell 1
      have gl := hB.out.c.u.lt
      go_simp
      have hkeep : ∀ j, j < 21 → ∀ v, L j = true → lm13R w m A c k Y4 n4 c4 bb oo k2 d2 T x vs l B j v W → lm13R w m A c k Y4 n4 c4 bb oo k2 d2 T x vs l B j v (W.setCell ⟨T + 1, 1, none⟩ (.slice (some ⟨g_18, 0, none⟩) (l.length + 1) cap_18)) := by
        iterate 21 (refine all_succ ?_ ?_)
        · exact all_zero
        · exact fun _ _ h => h
        · exact fun _ _ h => h
        · exact fun _ _ h => h
        · exact fun _ _ h => h
        · exact fun _ _ h => h
        · exact fun _ _ h => h
        · exact fun _ _ h => h
        · exact fun _ _ h => h
        · exact fun _ _ h => h
        · exact fun _ _ h => h
        · exact fun _ _ h => h
        · exact fun _ _ h => h
        · exact fun _ _ h => h
        · exact fun _ _ h => h
        · exact fun _ _ h => h
        · exact fun _ _ h => h
        · exact fun _ _ h => h
        · rintro v _ ⟨g, e, h1, h2, h3⟩; exact ⟨g, e, h1.far (by simp; omega) _, h2, h3⟩
        · rintro v _ ⟨g, cap, e, h1⟩; exact ⟨g, cap, e, own_set h1 (by have := hB.out.lb; omega)⟩
        · exact fun _ _ h => h
        · exact fun _ _ h => h
      exact k_of (HK.out undef _ trivial (hN _ ⟨.slice (some ⟨g_18, 0, none⟩) (l.length + 1) cap_18, hB.out.put _, own_set f18_0 (by have := hB.out.lb; omega)⟩) (fun j v hj h1 h2 => hkeep j hj v h1 h2)) (by rw [← u1_eq e19, ← u1_eq e18]; kernel_rfl)
  · intro L u W hL hB hd
    have hM : (fun W => ∃ v2 : Value, TwB2 w m Y1 n1 c1 Y2 n2 c2 Y3 n3 c3 Y4 n4 c4 T B1 k1 d1 tp (some ⟨bb, oo, none⟩) k2 d2 tw B vf l1 v2 (l ++ [(min m.whi (x + turnV vs k))]) W) W := by
      have h := hB.out
      rw [hL 18 (by decide), hL 20 (by decide)] at h
      exact h
    exact k_of (HQ.out u W hM) (rfl)
end Go.Proofs.Ytljbjcnfkbmjkaa

namespace Go.Proofs.Ytljbjcnfkbmjkaa
open Go.RowKit Go.Shelf Go.Maps
attribute [local go_sem] Oper.semAt_some

/-- What each operation leaves. -/
def lm18R (m : Md) (B1 : Option Addr) (k1 d1 : Nat) (B2 : Option Addr) (k2 d2 : Nat) (E1 : Option Addr) (e1' : Nat) (E2 : Option Addr) (e2' : Nat) (pl ql : List Int) : Nat → Value → World → Prop
  | 0, v, _ => v = .agg #[.int .i64 m.rings, .int .i64 m.give, .int .i64 m.plo, .int .i64 m.phi, .int .i64 m.wlo, .int .i64 m.whi, .int .i64 m.st, .int .i64 m.shrink, .int .i64 m.skin, .int .i64 m.fill, .int .i64 m.gap, .int .i64 m.deep]
  | 1, v, _ => v = .agg #[.slice B1 k1 d1, .slice B2 k2 d2]
  | 2, v, W => ∃ A_2 c_2, v = .slice A_2 k1 c_2 ∧ IntsIn W A_2 pl
  | 3, v, _ => v = .agg #[.int .i64 m.rings, .int .i64 m.give, .int .i64 m.plo, .int .i64 m.phi, .int .i64 m.wlo, .int .i64 m.whi, .int .i64 m.st, .int .i64 m.shrink, .int .i64 m.skin, .int .i64 m.fill, .int .i64 m.gap, .int .i64 m.deep]
  | 4, v, _ => v = .agg #[.slice E1 k1 e1', .slice E2 k2 e2']
  | 5, v, W => ∃ A_5 c_5, v = .slice A_5 k1 c_5 ∧ IntsIn W A_5 ql
  | 6, v, W => ∃ A_2 c_2, v = .slice A_2 k1 c_2 ∧ IntsIn W A_2 pl
  | 7, v, W => ∃ A_5 c_5, v = .slice A_5 k1 c_5 ∧ IntsIn W A_5 ql
  | _, _, _ => True
theorem lm18R_on (m : Md) (B1 : Option Addr) (k1 d1 : Nat) (B2 : Option Addr) (k2 d2 : Nat) (E1 : Option Addr) (e1' : Nat) (E2 : Option Addr) (e2' : Nat) (pl ql : List Int) : ∀ i, i < 8 → ∀ v W W', lm18R m B1 k1 d1 B2 k2 d2 E1 e1' E2 e2' pl ql i v W → Below W.heap.size W W' → lm18R m B1 k1 d1 B2 k2 d2 E1 e1' E2 e2' pl ql i v W' := by
  iterate 8 (refine all_succ ?_ ?_)
  · exact all_zero
  · exact fun _ _ _ h _ => h
  · exact fun _ _ _ h _ => h
  · rintro v W W' ⟨A_2, c_2, e, h0⟩ hb; exact ⟨A_2, c_2, e, h0.on hb⟩
  · exact fun _ _ _ h _ => h
  · exact fun _ _ _ h _ => h
  · rintro v W W' ⟨A_5, c_5, e, h0⟩ hb; exact ⟨A_5, c_5, e, h0.on hb⟩
  · rintro v W W' ⟨A_2, c_2, e, h0⟩ hb; exact ⟨A_2, c_2, e, h0.on hb⟩
  · rintro v W W' ⟨A_5, c_5, e, h0⟩ hb; exact ⟨A_5, c_5, e, h0.on hb⟩
set_option maxRecDepth 100000 in
set_option maxHeartbeats 8000000 in
theorem lm18_region {S : World → Prop} (hon : ∀ W W', S W → Below W.heap.size W W' → S W') {w : World} {m : Md} (hM : ∀ W, S W → MdBk w w.heap.size 25 m W) {B1 : Option Addr} {k1 d1 : Nat} {B2 : Option Addr} {k2 d2 : Nat} {E1 : Option Addr} {e1' : Nat} {E2 : Option Addr} {e2' : Nat} {tp tw up uw pl ql : List Int} {T : Nat} (hT : ∀ W, S W → Blk W T 28 #[.slice B1 k1 d1, .slice B2 k2 d2]) (hU : ∀ W, S W → Blk W (T + 1) 28 #[.slice E1 k1 e1', .slice E2 k2 e2']) (hi1 : ∀ W, S W → IntsIn W B1 tp) (hi2 : ∀ W, S W → IntsIn W B2 tw) (hj1 : ∀ W, S W → IntsIn W E1 up) (hj2 : ∀ W, S W → IntsIn W E2 uw) (HP : Hid (∀ (W : World) (A1 : Option Addr) (d1 : Nat) (A2 : Option Addr) (d2 : Nat), IntsIn W A1 tp → IntsIn W A2 tw → Calls Try.prog 40 #[.agg #[.int .i64 m.rings, .int .i64 m.give, .int .i64 m.plo, .int .i64 m.phi, .int .i64 m.wlo, .int .i64 m.whi, .int .i64 m.st, .int .i64 m.shrink, .int .i64 m.skin, .int .i64 m.fill, .int .i64 m.gap, .int .i64 m.deep], .agg #[.slice A1 k1 d1, .slice A2 k2 d2]] W fun e w' => ∃ A c, e = .returned (.slice A k1 c) ∧ IntsIn w' A pl ∧ Below W.heap.size W w')) (HQ2 : Hid (∀ (W : World) (A1 : Option Addr) (d1 : Nat) (A2 : Option Addr) (d2 : Nat), IntsIn W A1 up → IntsIn W A2 uw → Calls Try.prog 40 #[.agg #[.int .i64 m.rings, .int .i64 m.give, .int .i64 m.plo, .int .i64 m.phi, .int .i64 m.wlo, .int .i64 m.whi, .int .i64 m.st, .int .i64 m.shrink, .int .i64 m.skin, .int .i64 m.fill, .int .i64 m.gap, .int .i64 m.deep], .agg #[.slice A1 k1 d1, .slice A2 k2 d2]] W fun e w' => ∃ A c, e = .returned (.slice A k1 c) ∧ IntsIn w' A ql ∧ Below W.heap.size W w')) {Q : Exit → Act → World → Prop} {s0 s1 s2 s4 s5 s6 s7 s10 s11 s12 s13 s14 s15 s18 s19 s20 s21 s22 s23 s24 s25 s26 s27 s28 s29 s30 s31 s32 s33 s34 s35 s36 s37 s38 s39 s40 s41 s42 s43 s44 s45 s46 s47 s48 s49 s50 s51 s52 s53 s54 s55 s56 s57 s58 s59 s60 s61 s62 s63 s64 s65 s66 s67 s68 s69 s70 s71 s72 s73 s74 s75 s76 s77 s78 s79 s80 s81 s82 s83 s84 s85 s86 s87 s88 s89 s90 s91 s92 s93 s94 s95 s96 s97 s98 s99 s100 s101 s102 s103 s104 s105 s106 s107 s108 s109 s110 s111 s112 s113 s114 s115 s122 s123 s124 s125 s126 s127 s128 s129 s130 s131 s132 s133 s134 s135 s136 s137 s138 s139 s140 s141 s142 s143 s144 s145 s146 s147 s148 s149 s150 s151 s152 s153 s154 s155 s156 s157 s158 s159 s160 s161 s162 s163 s164 s165 s166 s167 s168 s169 : Value} {W0 : World} (HL : Hid (S W0))
    (HQ : Hid (∀ (u : Nat → Value) (A_6 : Option Addr) (c_6 : Nat) (A_7 : Option Addr) (c_7 : Nat) (W : World), IntsIn W A_6 pl → IntsIn W A_7 ql → S W → Q .normal ⟨#[s0, s1, s2, .pointer (some ⟨w.heap.size, 0, none⟩), s4, s5, s6, s7, .pointer (some ⟨T, 0, none⟩), .pointer (some ⟨T + 1, 0, none⟩), s10, s11, s12, s13, s14, s15, .slice A_6 k1 c_6, .slice A_7 k1 c_7, s18, s19, s20, s21, s22, s23, s24, s25, s26, s27, s28, s29, s30, s31, s32, s33, s34, s35, s36, s37, s38, s39, s40, s41, s42, s43, s44, s45, s46, s47, s48, s49, s50, s51, s52, s53, s54, s55, s56, s57, s58, s59, s60, s61, s62, s63, s64, s65, s66, s67, s68, s69, s70, s71, s72, s73, s74, s75, s76, s77, s78, s79, s80, s81, s82, s83, s84, s85, s86, s87, s88, s89, s90, s91, s92, s93, s94, s95, s96, s97, s98, s99, s100, s101, s102, s103, s104, s105, s106, s107, s108, s109, s110, s111, s112, s113, s114, s115, u 0, u 1, u 2, u 3, u 4, u 5, s122, s123, s124, s125, s126, s127, s128, s129, s130, s131, s132, s133, s134, s135, s136, s137, s138, s139, s140, s141, s142, s143, s144, s145, s146, s147, s148, s149, s150, s151, s152, s153, s154, s155, s156, s157, s158, s159, s160, s161, s162, s163, s164, s165, s166, s167, s168, s169], []⟩ W)) :
    Code.wp Try.prog ((Try.f13.body.bind (regionAt 18)).getD .skip) Q ⟨#[s0, s1, s2, .pointer (some ⟨w.heap.size, 0, none⟩), s4, s5, s6, s7, .pointer (some ⟨T, 0, none⟩), .pointer (some ⟨T + 1, 0, none⟩), s10, s11, s12, s13, s14, s15, undef, undef, s18, s19, s20, s21, s22, s23, s24, s25, s26, s27, s28, s29, s30, s31, s32, s33, s34, s35, s36, s37, s38, s39, s40, s41, s42, s43, s44, s45, s46, s47, s48, s49, s50, s51, s52, s53, s54, s55, s56, s57, s58, s59, s60, s61, s62, s63, s64, s65, s66, s67, s68, s69, s70, s71, s72, s73, s74, s75, s76, s77, s78, s79, s80, s81, s82, s83, s84, s85, s86, s87, s88, s89, s90, s91, s92, s93, s94, s95, s96, s97, s98, s99, s100, s101, s102, s103, s104, s105, s106, s107, s108, s109, s110, s111, s112, s113, s114, s115, undef, undef, undef, undef, undef, undef, s122, s123, s124, s125, s126, s127, s128, s129, s130, s131, s132, s133, s134, s135, s136, s137, s138, s139, s140, s141, s142, s143, s144, s145, s146, s147, s148, s149, s150, s151, s152, s153, s154, s155, s156, s157, s158, s159, s160, s161, s162, s163, s164, s165, s166, s167, s168, s169], []⟩ W0 := by
  conv => arg 2; whnf
  refine wp_region_spec (by kernel_rfl) 8 (by kernel_rfl) (fun u => ⟨#[s0, s1, s2, .pointer (some ⟨w.heap.size, 0, none⟩), s4, s5, s6, s7, .pointer (some ⟨T, 0, none⟩), .pointer (some ⟨T + 1, 0, none⟩), s10, s11, s12, s13, s14, s15, u 6, u 7, s18, s19, s20, s21, s22, s23, s24, s25, s26, s27, s28, s29, s30, s31, s32, s33, s34, s35, s36, s37, s38, s39, s40, s41, s42, s43, s44, s45, s46, s47, s48, s49, s50, s51, s52, s53, s54, s55, s56, s57, s58, s59, s60, s61, s62, s63, s64, s65, s66, s67, s68, s69, s70, s71, s72, s73, s74, s75, s76, s77, s78, s79, s80, s81, s82, s83, s84, s85, s86, s87, s88, s89, s90, s91, s92, s93, s94, s95, s96, s97, s98, s99, s100, s101, s102, s103, s104, s105, s106, s107, s108, s109, s110, s111, s112, s113, s114, s115, u 0, u 1, u 2, u 3, u 4, u 5, s122, s123, s124, s125, s126, s127, s128, s129, s130, s131, s132, s133, s134, s135, s136, s137, s138, s139, s140, s141, s142, s143, s144, s145, s146, s147, s148, s149, s150, s151, s152, s153, s154, s155, s156, s157, s158, s159, s160, s161, s162, s163, s164, s165, s166, s167, s168, s169], []⟩) (fun i => undef) (fun W => Hid (S W)) (lm18R m B1 k1 d1 B2 k2 d2 E1 e1' E2 e2' pl ql) (by kernel_rfl) (hon _ _ HL.out (Below.refl _ _).drew) (fun i v W W2 hi h hb => lm18R_on m B1 k1 d1 B2 k2 d2 E1 e1' E2 e2' pl ql i hi v W W2 h hb) (by decide +kernel) ?_ ?_
  · iterate 8 (refine all_succ ?_ ?_)
    · exact all_zero
    · intro u W hB _ hd _ K hK
      have HK := Lib.hid hK; clear hK
      refine wpOp_of rfl (by rfl) ?_
      obtain ⟨c0, c1, c2, c3, c4, c5, c6, c7, c8, c9, c10, c11⟩ := (hM W hB.out).cells
      go_simp
      exact k_of (HK.out (.agg #[.int .i64 m.rings, .int .i64 m.give, .int .i64 m.plo, .int .i64 m.phi, .int .i64 m.wlo, .int .i64 m.whi, .int .i64 m.st, .int .i64 m.shrink, .int .i64 m.skin, .int .i64 m.fill, .int .i64 m.gap, .int .i64 m.deep]) _ rfl hB (Below.refl _ _)) (by kernel_rfl)
    · intro u W hB _ hd _ K hK
      have HK := Lib.hid hK; clear hK
      refine wpOp_of rfl (by rfl) ?_
      have y0 := (hT W hB.out).cell 0; have y1 := (hT W hB.out).cell 1
      go_simp
      exact k_of (HK.out (.agg #[.slice B1 k1 d1, .slice B2 k2 d2]) _ rfl hB (Below.refl _ _)) (by kernel_rfl)
    · intro u W hB _ hd _ K hK
      have HK := Lib.hid hK; clear hK
      have e0 : u 0 = .agg #[.int .i64 m.rings, .int .i64 m.give, .int .i64 m.plo, .int .i64 m.phi, .int .i64 m.wlo, .int .i64 m.whi, .int .i64 m.st, .int .i64 m.shrink, .int .i64 m.skin, .int .i64 m.fill, .int .i64 m.gap, .int .i64 m.deep] := hd 0 (by decide +kernel)
      have e1 : u 1 = .agg #[.slice B1 k1 d1, .slice B2 k2 d2] := hd 1 (by decide +kernel)
      refine wpOp_of rfl (by rfl) ?_
      go_simp
      refine (HP.out W _ _ _ _ (hi1 W hB.out) (hi2 W hB.out)).mono ?_
      rintro e w' ⟨A, c, rfl, i1, hb⟩
      exact k_of (HK.out (.slice A k1 c) _ ⟨A, c, rfl, i1⟩ (hon _ _ hB.out hb) hb) (by rw [← u1_eq e0, ← u1_eq e1]; kernel_rfl)
    · intro u W hB _ hd _ K hK
      have HK := Lib.hid hK; clear hK
      refine wpOp_of rfl (by rfl) ?_
      obtain ⟨c0, c1, c2, c3, c4, c5, c6, c7, c8, c9, c10, c11⟩ := (hM W hB.out).cells
      go_simp
      exact k_of (HK.out (.agg #[.int .i64 m.rings, .int .i64 m.give, .int .i64 m.plo, .int .i64 m.phi, .int .i64 m.wlo, .int .i64 m.whi, .int .i64 m.st, .int .i64 m.shrink, .int .i64 m.skin, .int .i64 m.fill, .int .i64 m.gap, .int .i64 m.deep]) _ rfl hB (Below.refl _ _)) (by kernel_rfl)
    · intro u W hB _ hd _ K hK
      have HK := Lib.hid hK; clear hK
      refine wpOp_of rfl (by rfl) ?_
      have y0 := (hU W hB.out).cell 0; have y1 := (hU W hB.out).cell 1
      go_simp
      exact k_of (HK.out (.agg #[.slice E1 k1 e1', .slice E2 k2 e2']) _ rfl hB (Below.refl _ _)) (by kernel_rfl)
    · intro u W hB _ hd _ K hK
      have HK := Lib.hid hK; clear hK
      have e3 : u 3 = .agg #[.int .i64 m.rings, .int .i64 m.give, .int .i64 m.plo, .int .i64 m.phi, .int .i64 m.wlo, .int .i64 m.whi, .int .i64 m.st, .int .i64 m.shrink, .int .i64 m.skin, .int .i64 m.fill, .int .i64 m.gap, .int .i64 m.deep] := hd 3 (by decide +kernel)
      have e4 : u 4 = .agg #[.slice E1 k1 e1', .slice E2 k2 e2'] := hd 4 (by decide +kernel)
      refine wpOp_of rfl (by rfl) ?_
      go_simp
      refine (HQ2.out W _ _ _ _ (hj1 W hB.out) (hj2 W hB.out)).mono ?_
      rintro e w' ⟨A, c, rfl, i1, hb⟩
      exact k_of (HK.out (.slice A k1 c) _ ⟨A, c, rfl, i1⟩ (hon _ _ hB.out hb) hb) (by rw [← u1_eq e3, ← u1_eq e4]; kernel_rfl)
    · intro u W hB _ hd _ K hK
      have HK := Lib.hid hK; clear hK
      obtain ⟨A_2, c_2, e2, f2_0⟩ : lm18R m B1 k1 d1 B2 k2 d2 E1 e1' E2 e2' pl ql 2 (u 2) W := hd 2 (by decide +kernel)
      refine wpOp_of rfl (by rfl) ?_
      go_simp
      exact k_of (HK.out (.slice A_2 k1 c_2) _ ⟨A_2, c_2, rfl, f2_0⟩ hB (Below.refl _ _)) (by rw [← u1_eq e2]; kernel_rfl)
    · intro u W hB _ hd _ K hK
      have HK := Lib.hid hK; clear hK
      obtain ⟨A_5, c_5, e5, f5_0⟩ : lm18R m B1 k1 d1 B2 k2 d2 E1 e1' E2 e2' pl ql 5 (u 5) W := hd 5 (by decide +kernel)
      refine wpOp_of rfl (by rfl) ?_
      go_simp
      exact k_of (HK.out (.slice A_5 k1 c_5) _ ⟨A_5, c_5, rfl, f5_0⟩ hB (Below.refl _ _)) (by rw [← u1_eq e5]; kernel_rfl)
  · intro u W hB hd
    obtain ⟨A_6, c_6, e6, f6_0⟩ : lm18R m B1 k1 d1 B2 k2 d2 E1 e1' E2 e2' pl ql 6 (u 6) W := hd 6 (by decide)
    obtain ⟨A_7, c_7, e7, f7_0⟩ : lm18R m B1 k1 d1 B2 k2 d2 E1 e1' E2 e2' pl ql 7 (u 7) W := hd 7 (by decide)
    exact k_of (HQ.out u A_6 c_6 A_7 c_7 W f6_0 f7_0 hB.out) (by simp only [e6, e7])

/-- What each operation leaves. -/
def lm22aR (b1 o1 c1 b2 o2 c2 b3 o3 c3 b4 o4 c4 k rl : Nat) (a b p q : Int) : Nat → Value → World → Prop
  | 0, v, _ => v = .slice (some ⟨b1, o1, none⟩) rl c1
  | 1, v, _ => v = .int .i64 (k : Int)
  | 2, v, _ => v = .pointer (some ⟨b1, o1 + k, none⟩)
  | 3, v, _ => v = .int .i64 a
  | 4, v, _ => v = .slice (some ⟨b2, o2, none⟩) rl c2
  | 5, v, _ => v = .int .i64 (k : Int)
  | 6, v, _ => v = .pointer (some ⟨b2, o2 + k, none⟩)
  | 7, v, _ => v = .int .i64 b
  | 8, v, _ => v = .bool false
  | 9, v, _ => v = .bool false
  | 10, v, _ => v = .slice (some ⟨b3, o3, none⟩) rl c3
  | 11, v, _ => v = .int .i64 (k : Int)
  | 12, v, _ => v = .pointer (some ⟨b3, o3 + k, none⟩)
  | 13, v, _ => v = .int .i64 p
  | 14, v, _ => v = .bool true
  | 15, v, _ => v = .bool true
  | 16, v, _ => v = .slice (some ⟨b4, o4, none⟩) rl c4
  | 17, v, _ => v = .int .i64 (k : Int)
  | 18, v, _ => v = .pointer (some ⟨b4, o4 + k, none⟩)
  | 19, v, _ => v = .int .i64 q
  | 20, v, _ => v = .bool false
  | 21, v, _ => v = .bool false
  | 22, v, _ => v = .bool false
  | 23, v, _ => v = .bool false
  | 24, v, _ => v = .slice (some ⟨b4, o4, none⟩) rl c4
  | 25, v, _ => v = .int .i64 (k : Int)
  | 26, v, _ => v = .pointer (some ⟨b4, o4 + k, none⟩)
  | 27, v, _ => v = .int .i64 q
  | 28, v, _ => v = .bool false
  | 29, v, _ => v = .bool false
  | 30, v, _ => v = undef
  | 31, v, _ => v = undef
  | 32, v, _ => v = undef
  | 33, v, _ => v = undef
  | 34, v, _ => v = undef
  | 35, v, _ => v = undef
  | 36, v, _ => v = undef
  | 37, v, _ => v = undef
  | 38, v, _ => v = undef
  | 39, v, _ => v = .bool false
  | 40, v, _ => v = .bool false
  | _, _, _ => True
theorem lm22aR_on (b1 o1 c1 b2 o2 c2 b3 o3 c3 b4 o4 c4 k rl : Nat) (a b p q : Int) : ∀ i, i < 41 → ∀ v W W', lm22aR b1 o1 c1 b2 o2 c2 b3 o3 c3 b4 o4 c4 k rl a b p q i v W → Below W.heap.size W W' → lm22aR b1 o1 c1 b2 o2 c2 b3 o3 c3 b4 o4 c4 k rl a b p q i v W' := by
  iterate 41 (refine all_succ ?_ ?_)
  · exact all_zero
  · exact fun _ _ _ h _ => h
  · exact fun _ _ _ h _ => h
  · exact fun _ _ _ h _ => h
  · exact fun _ _ _ h _ => h
  · exact fun _ _ _ h _ => h
  · exact fun _ _ _ h _ => h
  · exact fun _ _ _ h _ => h
  · exact fun _ _ _ h _ => h
  · exact fun _ _ _ h _ => h
  · exact fun _ _ _ h _ => h
  · exact fun _ _ _ h _ => h
  · exact fun _ _ _ h _ => h
  · exact fun _ _ _ h _ => h
  · exact fun _ _ _ h _ => h
  · exact fun _ _ _ h _ => h
  · exact fun _ _ _ h _ => h
  · exact fun _ _ _ h _ => h
  · exact fun _ _ _ h _ => h
  · exact fun _ _ _ h _ => h
  · exact fun _ _ _ h _ => h
  · exact fun _ _ _ h _ => h
  · exact fun _ _ _ h _ => h
  · exact fun _ _ _ h _ => h
  · exact fun _ _ _ h _ => h
  · exact fun _ _ _ h _ => h
  · exact fun _ _ _ h _ => h
  · exact fun _ _ _ h _ => h
  · exact fun _ _ _ h _ => h
  · exact fun _ _ _ h _ => h
  · exact fun _ _ _ h _ => h
  · exact fun _ _ _ h _ => h
  · exact fun _ _ _ h _ => h
  · exact fun _ _ _ h _ => h
  · exact fun _ _ _ h _ => h
  · exact fun _ _ _ h _ => h
  · exact fun _ _ _ h _ => h
  · exact fun _ _ _ h _ => h
  · exact fun _ _ _ h _ => h
  · exact fun _ _ _ h _ => h
  · exact fun _ _ _ h _ => h
  · exact fun _ _ _ h _ => h
set_option maxRecDepth 100000 in
set_option maxHeartbeats 8000000 in
theorem lm22a_region {S : World → Prop} (hon : ∀ W W', S W → Below W.heap.size W W' → S W') {b1 o1 c1 b2 o2 c2 b3 o3 c3 b4 o4 c4 k rl : Nat} {a b p q : Int} (hk : (k : Int) < rl) (h1 : ∀ W, S W → W.cell? ⟨b1, o1 + k, none⟩ = some (.int .i64 a)) (h2 : ∀ W, S W → W.cell? ⟨b2, o2 + k, none⟩ = some (.int .i64 b)) (h3 : ∀ W, S W → W.cell? ⟨b3, o3 + k, none⟩ = some (.int .i64 p)) (h4 : ∀ W, S W → W.cell? ⟨b4, o4 + k, none⟩ = some (.int .i64 q)) (hab : ¬ (b < a)) (hp : p < 0) (hq : ¬ (0 ≤ q)) {Q : Exit → Act → World → Prop} {s0 s1 s2 s3 s4 s5 s6 s7 s8 s9 s10 s11 s13 s15 s19 s20 s21 s22 s23 s24 s25 s26 s27 s28 s29 s30 s31 s32 s33 s34 s35 s36 s37 s38 s39 s40 s41 s42 s43 s44 s45 s46 s47 s48 s49 s50 s51 s52 s53 s54 s55 s56 s57 s58 s59 s60 s61 s62 s63 s64 s65 s66 s67 s68 s69 s70 s71 s72 s73 s74 s75 s76 s77 s78 s79 s80 s81 s82 s83 s84 s85 s86 s87 s88 s89 s90 s91 s92 s93 s94 s95 s96 s97 s98 s99 s100 s101 s102 s103 s104 s105 s106 s107 s108 s109 s110 s111 s112 s113 s114 s115 s116 s117 s118 s119 s120 s121 s122 s123 s124 s125 s126 s127 s169 s128 s129 s130 s131 s132 s133 s134 s135 s136 s137 s138 s139 s140 s141 s142 s143 s144 s145 s146 s147 s148 s149 s150 s151 s152 s153 s154 s155 s156 s157 s158 s159 s160 s161 s162 s163 s164 s165 s166 s167 s168 : Value} {W0 : World} (HL : Hid (S W0))
    (HQ : Hid (∀ (u : Nat → Value) (W : World), S W → Q .normal ⟨#[s0, s1, s2, s3, s4, s5, s6, s7, s8, s9, s10, s11, .slice (some ⟨b1, o1, none⟩) rl c1, s13, .slice (some ⟨b2, o2, none⟩) rl c2, s15, .slice (some ⟨b3, o3, none⟩) rl c3, .slice (some ⟨b4, o4, none⟩) rl c4, .int .i64 (k : Int), s19, s20, s21, s22, s23, s24, s25, s26, s27, s28, s29, s30, s31, s32, s33, s34, s35, s36, s37, s38, s39, s40, s41, s42, s43, s44, s45, s46, s47, s48, s49, s50, s51, s52, s53, s54, s55, s56, s57, s58, s59, s60, s61, s62, s63, s64, s65, s66, s67, s68, s69, s70, s71, s72, s73, s74, s75, s76, s77, s78, s79, s80, s81, s82, s83, s84, s85, s86, s87, s88, s89, s90, s91, s92, s93, s94, s95, s96, s97, s98, s99, s100, s101, s102, s103, s104, s105, s106, s107, s108, s109, s110, s111, s112, s113, s114, s115, s116, s117, s118, s119, s120, s121, s122, s123, s124, s125, s126, s127, u 0, u 1, u 2, u 3, u 4, u 5, u 6, u 7, u 8, u 9, u 10, u 11, u 12, u 13, u 14, u 15, u 16, u 17, u 18, u 19, u 20, u 21, u 22, u 23, u 24, u 25, u 26, u 27, u 28, u 29, u 30, u 31, u 32, u 33, u 34, u 35, u 36, u 37, u 38, u 39, .bool false, s169], []⟩ W)) :
    Code.wp Try.prog ((Try.f13.body.bind (regionAt 22)).getD .skip) Q ⟨#[s0, s1, s2, s3, s4, s5, s6, s7, s8, s9, s10, s11, .slice (some ⟨b1, o1, none⟩) rl c1, s13, .slice (some ⟨b2, o2, none⟩) rl c2, s15, .slice (some ⟨b3, o3, none⟩) rl c3, .slice (some ⟨b4, o4, none⟩) rl c4, .int .i64 (k : Int), s19, s20, s21, s22, s23, s24, s25, s26, s27, s28, s29, s30, s31, s32, s33, s34, s35, s36, s37, s38, s39, s40, s41, s42, s43, s44, s45, s46, s47, s48, s49, s50, s51, s52, s53, s54, s55, s56, s57, s58, s59, s60, s61, s62, s63, s64, s65, s66, s67, s68, s69, s70, s71, s72, s73, s74, s75, s76, s77, s78, s79, s80, s81, s82, s83, s84, s85, s86, s87, s88, s89, s90, s91, s92, s93, s94, s95, s96, s97, s98, s99, s100, s101, s102, s103, s104, s105, s106, s107, s108, s109, s110, s111, s112, s113, s114, s115, s116, s117, s118, s119, s120, s121, s122, s123, s124, s125, s126, s127, s128, s129, s130, s131, s132, s133, s134, s135, s136, s137, s138, s139, s140, s141, s142, s143, s144, s145, s146, s147, s148, s149, s150, s151, s152, s153, s154, s155, s156, s157, s158, s159, s160, s161, s162, s163, s164, s165, s166, s167, s168, s169], []⟩ W0 := by
  conv => arg 2; whnf
  refine wp_region_spec (by kernel_rfl) 41 (by kernel_rfl) (fun u => ⟨#[s0, s1, s2, s3, s4, s5, s6, s7, s8, s9, s10, s11, .slice (some ⟨b1, o1, none⟩) rl c1, s13, .slice (some ⟨b2, o2, none⟩) rl c2, s15, .slice (some ⟨b3, o3, none⟩) rl c3, .slice (some ⟨b4, o4, none⟩) rl c4, .int .i64 (k : Int), s19, s20, s21, s22, s23, s24, s25, s26, s27, s28, s29, s30, s31, s32, s33, s34, s35, s36, s37, s38, s39, s40, s41, s42, s43, s44, s45, s46, s47, s48, s49, s50, s51, s52, s53, s54, s55, s56, s57, s58, s59, s60, s61, s62, s63, s64, s65, s66, s67, s68, s69, s70, s71, s72, s73, s74, s75, s76, s77, s78, s79, s80, s81, s82, s83, s84, s85, s86, s87, s88, s89, s90, s91, s92, s93, s94, s95, s96, s97, s98, s99, s100, s101, s102, s103, s104, s105, s106, s107, s108, s109, s110, s111, s112, s113, s114, s115, s116, s117, s118, s119, s120, s121, s122, s123, s124, s125, s126, s127, u 0, u 1, u 2, u 3, u 4, u 5, u 6, u 7, u 8, u 9, u 10, u 11, u 12, u 13, u 14, u 15, u 16, u 17, u 18, u 19, u 20, u 21, u 22, u 23, u 24, u 25, u 26, u 27, u 28, u 29, u 30, u 31, u 32, u 33, u 34, u 35, u 36, u 37, u 38, u 39, u 40, s169], []⟩) (fun i => if i = 0 then s128 else if i = 1 then s129 else if i = 2 then s130 else if i = 3 then s131 else if i = 4 then s132 else if i = 5 then s133 else if i = 6 then s134 else if i = 7 then s135 else if i = 8 then s136 else if i = 9 then s137 else if i = 10 then s138 else if i = 11 then s139 else if i = 12 then s140 else if i = 13 then s141 else if i = 14 then s142 else if i = 15 then s143 else if i = 16 then s144 else if i = 17 then s145 else if i = 18 then s146 else if i = 19 then s147 else if i = 20 then s148 else if i = 21 then s149 else if i = 22 then s150 else if i = 23 then s151 else if i = 24 then s152 else if i = 25 then s153 else if i = 26 then s154 else if i = 27 then s155 else if i = 28 then s156 else if i = 29 then s157 else if i = 30 then s158 else if i = 31 then s159 else if i = 32 then s160 else if i = 33 then s161 else if i = 34 then s162 else if i = 35 then s163 else if i = 36 then s164 else if i = 37 then s165 else if i = 38 then s166 else if i = 39 then s167 else if i = 40 then s168 else undef) (fun W => Hid (S W)) (lm22aR b1 o1 c1 b2 o2 c2 b3 o3 c3 b4 o4 c4 k rl a b p q) (by kernel_rfl) (hon _ _ HL.out (Below.refl _ _).drew) (fun i v W W2 hi h hb => lm22aR_on b1 o1 c1 b2 o2 c2 b3 o3 c3 b4 o4 c4 k rl a b p q i hi v W W2 h hb) (by decide +kernel) ?_ ?_
  · iterate 41 (refine all_succ ?_ ?_)
    · exact all_zero
    · intro u W hB _ hd _ K hK
      have HK := Lib.hid hK; clear hK
      refine wpOp_of rfl (by rfl) ?_
      go_simp
      exact k_of (HK.out (.slice (some ⟨b1, o1, none⟩) rl c1) _ rfl hB (Below.refl _ _)) (by kernel_rfl)
    · intro u W hB _ hd _ K hK
      have HK := Lib.hid hK; clear hK
      refine wpOp_of rfl (by rfl) ?_
      go_simp
      exact k_of (HK.out (.int .i64 (k : Int)) _ rfl hB (Below.refl _ _)) (by kernel_rfl)
    · intro u W hB _ hd _ K hK
      have HK := Lib.hid hK; clear hK
      have e0 : u 0 = .slice (some ⟨b1, o1, none⟩) rl c1 := hd 0 (by decide +kernel)
      have e1 : u 1 = .int .i64 (k : Int) := hd 1 (by decide +kernel)
      refine wpOp_of rfl (by rfl) ?_
      go_simp
      exact k_of (HK.out (.pointer (some ⟨b1, o1 + k, none⟩)) _ rfl hB (Below.refl _ _)) (by rw [← u1_eq e0, ← u1_eq e1]; kernel_rfl)
    · intro u W hB _ hd _ K hK
      have HK := Lib.hid hK; clear hK
      have e2 : u 2 = .pointer (some ⟨b1, o1 + k, none⟩) := hd 2 (by decide +kernel)
      refine wpOp_of rfl (by rfl) ?_
      have d0 := h1 W hB.out
      go_simp
      exact k_of (HK.out (.int .i64 a) _ rfl hB (Below.refl _ _)) (by rw [← u1_eq e2]; kernel_rfl)
    · intro u W hB _ hd _ K hK
      have HK := Lib.hid hK; clear hK
      refine wpOp_of rfl (by rfl) ?_
      go_simp
      exact k_of (HK.out (.slice (some ⟨b2, o2, none⟩) rl c2) _ rfl hB (Below.refl _ _)) (by kernel_rfl)
    · intro u W hB _ hd _ K hK
      have HK := Lib.hid hK; clear hK
      refine wpOp_of rfl (by rfl) ?_
      go_simp
      exact k_of (HK.out (.int .i64 (k : Int)) _ rfl hB (Below.refl _ _)) (by kernel_rfl)
    · intro u W hB _ hd _ K hK
      have HK := Lib.hid hK; clear hK
      have e4 : u 4 = .slice (some ⟨b2, o2, none⟩) rl c2 := hd 4 (by decide +kernel)
      have e5 : u 5 = .int .i64 (k : Int) := hd 5 (by decide +kernel)
      refine wpOp_of rfl (by rfl) ?_
      go_simp
      exact k_of (HK.out (.pointer (some ⟨b2, o2 + k, none⟩)) _ rfl hB (Below.refl _ _)) (by rw [← u1_eq e4, ← u1_eq e5]; kernel_rfl)
    · intro u W hB _ hd _ K hK
      have HK := Lib.hid hK; clear hK
      have e6 : u 6 = .pointer (some ⟨b2, o2 + k, none⟩) := hd 6 (by decide +kernel)
      refine wpOp_of rfl (by rfl) ?_
      have d0 := h2 W hB.out
      go_simp
      exact k_of (HK.out (.int .i64 b) _ rfl hB (Below.refl _ _)) (by rw [← u1_eq e6]; kernel_rfl)
    · intro u W hB _ hd _ K hK
      have HK := Lib.hid hK; clear hK
      have e3 : u 3 = .int .i64 a := hd 3 (by decide +kernel)
      have e7 : u 7 = .int .i64 b := hd 7 (by decide +kernel)
      refine wpOp_of rfl (by rfl) ?_
      go_simp
      exact k_of (HK.out (.bool false) _ rfl hB (Below.refl _ _)) (by rw [← u1_eq e3, ← u1_eq e7]; kernel_rfl)
    · intro u W hB _ hd _ K hK
      have HK := Lib.hid hK; clear hK
      have e8 : u 8 = .bool false := hd 8 (by decide +kernel)
      refine wpOp_of rfl (by rfl) ?_
      go_simp
      exact k_of (HK.out (.bool false) _ rfl hB (Below.refl _ _)) (by rw [← u1_eq e8]; kernel_rfl)
    · intro u W hB _ hd _ K hK
      have HK := Lib.hid hK; clear hK
      have e9 : u 9 = .bool false := hd 9 (by decide +kernel)
      refine wpOp_of rfl (by rw [← u1_eq e9]; kernel_rfl) ?_
      go_simp
      exact k_of (HK.out (.slice (some ⟨b3, o3, none⟩) rl c3) _ rfl hB (Below.refl _ _)) (by rw [← u1_eq e9]; kernel_rfl)
    · intro u W hB _ hd _ K hK
      have HK := Lib.hid hK; clear hK
      have e9 : u 9 = .bool false := hd 9 (by decide +kernel)
      refine wpOp_of rfl (by rw [← u1_eq e9]; kernel_rfl) ?_
      go_simp
      exact k_of (HK.out (.int .i64 (k : Int)) _ rfl hB (Below.refl _ _)) (by rw [← u1_eq e9]; kernel_rfl)
    · intro u W hB _ hd _ K hK
      have HK := Lib.hid hK; clear hK
      have e9 : u 9 = .bool false := hd 9 (by decide +kernel)
      have e10 : u 10 = .slice (some ⟨b3, o3, none⟩) rl c3 := hd 10 (by decide +kernel)
      have e11 : u 11 = .int .i64 (k : Int) := hd 11 (by decide +kernel)
      refine wpOp_of rfl (by rw [← u1_eq e9]; kernel_rfl) ?_
      go_simp
      exact k_of (HK.out (.pointer (some ⟨b3, o3 + k, none⟩)) _ rfl hB (Below.refl _ _)) (by rw [← u1_eq e9, ← u1_eq e10, ← u1_eq e11]; kernel_rfl)
    · intro u W hB _ hd _ K hK
      have HK := Lib.hid hK; clear hK
      have e9 : u 9 = .bool false := hd 9 (by decide +kernel)
      have e12 : u 12 = .pointer (some ⟨b3, o3 + k, none⟩) := hd 12 (by decide +kernel)
      refine wpOp_of rfl (by rw [← u1_eq e9]; kernel_rfl) ?_
      have d0 := h3 W hB.out
      go_simp
      exact k_of (HK.out (.int .i64 p) _ rfl hB (Below.refl _ _)) (by rw [← u1_eq e9, ← u1_eq e12]; kernel_rfl)
    · intro u W hB _ hd _ K hK
      have HK := Lib.hid hK; clear hK
      have e9 : u 9 = .bool false := hd 9 (by decide +kernel)
      have e13 : u 13 = .int .i64 p := hd 13 (by decide +kernel)
      refine wpOp_of rfl (by rw [← u1_eq e9]; kernel_rfl) ?_
      go_simp
      exact k_of (HK.out (.bool true) _ rfl hB (Below.refl _ _)) (by rw [← u1_eq e9, ← u1_eq e13]; kernel_rfl)
    · intro u W hB _ hd _ K hK
      have HK := Lib.hid hK; clear hK
      have e9 : u 9 = .bool false := hd 9 (by decide +kernel)
      have e14 : u 14 = .bool true := hd 14 (by decide +kernel)
      refine wpOp_of rfl (by rw [← u1_eq e9]; kernel_rfl) ?_
      go_simp
      exact k_of (HK.out (.bool true) _ rfl hB (Below.refl _ _)) (by rw [← u1_eq e9, ← u1_eq e14]; kernel_rfl)
    · intro u W hB _ hd _ K hK
      have HK := Lib.hid hK; clear hK
      have e15 : u 15 = .bool true := hd 15 (by decide +kernel)
      refine wpOp_of rfl (by rw [← u1_eq e15]; kernel_rfl) ?_
      go_simp
      exact k_of (HK.out (.slice (some ⟨b4, o4, none⟩) rl c4) _ rfl hB (Below.refl _ _)) (by rw [← u1_eq e15]; kernel_rfl)
    · intro u W hB _ hd _ K hK
      have HK := Lib.hid hK; clear hK
      have e15 : u 15 = .bool true := hd 15 (by decide +kernel)
      refine wpOp_of rfl (by rw [← u1_eq e15]; kernel_rfl) ?_
      go_simp
      exact k_of (HK.out (.int .i64 (k : Int)) _ rfl hB (Below.refl _ _)) (by rw [← u1_eq e15]; kernel_rfl)
    · intro u W hB _ hd _ K hK
      have HK := Lib.hid hK; clear hK
      have e15 : u 15 = .bool true := hd 15 (by decide +kernel)
      have e16 : u 16 = .slice (some ⟨b4, o4, none⟩) rl c4 := hd 16 (by decide +kernel)
      have e17 : u 17 = .int .i64 (k : Int) := hd 17 (by decide +kernel)
      refine wpOp_of rfl (by rw [← u1_eq e15]; kernel_rfl) ?_
      go_simp
      exact k_of (HK.out (.pointer (some ⟨b4, o4 + k, none⟩)) _ rfl hB (Below.refl _ _)) (by rw [← u1_eq e15, ← u1_eq e16, ← u1_eq e17]; kernel_rfl)
    · intro u W hB _ hd _ K hK
      have HK := Lib.hid hK; clear hK
      have e15 : u 15 = .bool true := hd 15 (by decide +kernel)
      have e18 : u 18 = .pointer (some ⟨b4, o4 + k, none⟩) := hd 18 (by decide +kernel)
      refine wpOp_of rfl (by rw [← u1_eq e15]; kernel_rfl) ?_
      have d0 := h4 W hB.out
      go_simp
      exact k_of (HK.out (.int .i64 q) _ rfl hB (Below.refl _ _)) (by rw [← u1_eq e15, ← u1_eq e18]; kernel_rfl)
    · intro u W hB _ hd _ K hK
      have HK := Lib.hid hK; clear hK
      have e15 : u 15 = .bool true := hd 15 (by decide +kernel)
      have e19 : u 19 = .int .i64 q := hd 19 (by decide +kernel)
      refine wpOp_of rfl (by rw [← u1_eq e15]; kernel_rfl) ?_
      go_simp
      exact k_of (HK.out (.bool false) _ rfl hB (Below.refl _ _)) (by rw [← u1_eq e15, ← u1_eq e19]; kernel_rfl)
    · intro u W hB _ hd _ K hK
      have HK := Lib.hid hK; clear hK
      have e9 : u 9 = .bool false := hd 9 (by decide +kernel)
      have e15 : u 15 = .bool true := hd 15 (by decide +kernel)
      have e20 : u 20 = .bool false := hd 20 (by decide +kernel)
      refine wpOp_of rfl (by rw [← u1_eq e9]; kernel_rfl) ?_
      go_simp
      exact k_of (HK.out (.bool false) _ rfl hB (Below.refl _ _)) (by rw [← u1_eq e9, ← u1_eq e15, ← u1_eq e20]; kernel_rfl)
    · intro u W hB _ hd _ K hK
      have HK := Lib.hid hK; clear hK
      have e9 : u 9 = .bool false := hd 9 (by decide +kernel)
      have e21 : u 21 = .bool false := hd 21 (by decide +kernel)
      refine wpOp_of rfl (by rfl) ?_
      go_simp
      exact k_of (HK.out (.bool false) _ rfl hB (Below.refl _ _)) (by rw [← u1_eq e9, ← u1_eq e21]; kernel_rfl)
    · intro u W hB _ hd _ K hK
      have HK := Lib.hid hK; clear hK
      have e22 : u 22 = .bool false := hd 22 (by decide +kernel)
      refine wpOp_of rfl (by rfl) ?_
      go_simp
      exact k_of (HK.out (.bool false) _ rfl hB (Below.refl _ _)) (by rw [← u1_eq e22]; kernel_rfl)
    · intro u W hB _ hd _ K hK
      have HK := Lib.hid hK; clear hK
      have e23 : u 23 = .bool false := hd 23 (by decide +kernel)
      refine wpOp_of rfl (by rw [← u1_eq e23]; kernel_rfl) ?_
      go_simp
      exact k_of (HK.out (.slice (some ⟨b4, o4, none⟩) rl c4) _ rfl hB (Below.refl _ _)) (by rw [← u1_eq e23]; kernel_rfl)
    · intro u W hB _ hd _ K hK
      have HK := Lib.hid hK; clear hK
      have e23 : u 23 = .bool false := hd 23 (by decide +kernel)
      refine wpOp_of rfl (by rw [← u1_eq e23]; kernel_rfl) ?_
      go_simp
      exact k_of (HK.out (.int .i64 (k : Int)) _ rfl hB (Below.refl _ _)) (by rw [← u1_eq e23]; kernel_rfl)
    · intro u W hB _ hd _ K hK
      have HK := Lib.hid hK; clear hK
      have e23 : u 23 = .bool false := hd 23 (by decide +kernel)
      have e24 : u 24 = .slice (some ⟨b4, o4, none⟩) rl c4 := hd 24 (by decide +kernel)
      have e25 : u 25 = .int .i64 (k : Int) := hd 25 (by decide +kernel)
      refine wpOp_of rfl (by rw [← u1_eq e23]; kernel_rfl) ?_
      go_simp
      exact k_of (HK.out (.pointer (some ⟨b4, o4 + k, none⟩)) _ rfl hB (Below.refl _ _)) (by rw [← u1_eq e23, ← u1_eq e24, ← u1_eq e25]; kernel_rfl)
    · intro u W hB _ hd _ K hK
      have HK := Lib.hid hK; clear hK
      have e23 : u 23 = .bool false := hd 23 (by decide +kernel)
      have e26 : u 26 = .pointer (some ⟨b4, o4 + k, none⟩) := hd 26 (by decide +kernel)
      refine wpOp_of rfl (by rw [← u1_eq e23]; kernel_rfl) ?_
      have d0 := h4 W hB.out
      go_simp
      exact k_of (HK.out (.int .i64 q) _ rfl hB (Below.refl _ _)) (by rw [← u1_eq e23, ← u1_eq e26]; kernel_rfl)
    · intro u W hB _ hd _ K hK
      have HK := Lib.hid hK; clear hK
      have e23 : u 23 = .bool false := hd 23 (by decide +kernel)
      have e27 : u 27 = .int .i64 q := hd 27 (by decide +kernel)
      refine wpOp_of rfl (by rw [← u1_eq e23]; kernel_rfl) ?_
      go_simp
      exact k_of (HK.out (.bool false) _ rfl hB (Below.refl _ _)) (by rw [← u1_eq e23, ← u1_eq e27]; kernel_rfl)
    · intro u W hB _ hd _ K hK
      have HK := Lib.hid hK; clear hK
      have e23 : u 23 = .bool false := hd 23 (by decide +kernel)
      have e28 : u 28 = .bool false := hd 28 (by decide +kernel)
      refine wpOp_of rfl (by rw [← u1_eq e23]; kernel_rfl) ?_
      go_simp
      exact k_of (HK.out (.bool false) _ rfl hB (Below.refl _ _)) (by rw [← u1_eq e23, ← u1_eq e28]; kernel_rfl)
    · intro u W hB _ hd _ K hK
      have HK := Lib.hid hK; clear hK
      have e29 : u 29 = .bool false := hd 29 (by decide +kernel)
      refine wpOp_skip rfl (by rw [← u1_eq e29]; kernel_rfl) ?_
      exact k_of (HK.out undef _ rfl hB (Below.refl _ _)) (by rw [← u1_eq e29]; kernel_rfl)
    · intro u W hB _ hd _ K hK
      have HK := Lib.hid hK; clear hK
      have e29 : u 29 = .bool false := hd 29 (by decide +kernel)
      refine wpOp_skip rfl (by rw [← u1_eq e29]; kernel_rfl) ?_
      exact k_of (HK.out undef _ rfl hB (Below.refl _ _)) (by rw [← u1_eq e29]; kernel_rfl)
    · intro u W hB _ hd _ K hK
      have HK := Lib.hid hK; clear hK
      have e29 : u 29 = .bool false := hd 29 (by decide +kernel)
      refine wpOp_skip rfl (by rw [← u1_eq e29]; kernel_rfl) ?_
      exact k_of (HK.out undef _ rfl hB (Below.refl _ _)) (by rw [← u1_eq e29]; kernel_rfl)
    · intro u W hB _ hd _ K hK
      have HK := Lib.hid hK; clear hK
      have e29 : u 29 = .bool false := hd 29 (by decide +kernel)
      refine wpOp_skip rfl (by rw [← u1_eq e29]; kernel_rfl) ?_
      exact k_of (HK.out undef _ rfl hB (Below.refl _ _)) (by rw [← u1_eq e29]; kernel_rfl)
    · intro u W hB _ hd _ K hK
      have HK := Lib.hid hK; clear hK
      have e29 : u 29 = .bool false := hd 29 (by decide +kernel)
      refine wpOp_skip rfl (by rw [← u1_eq e29]; kernel_rfl) ?_
      exact k_of (HK.out undef _ rfl hB (Below.refl _ _)) (by rw [← u1_eq e29]; kernel_rfl)
    · intro u W hB _ hd _ K hK
      have HK := Lib.hid hK; clear hK
      have e29 : u 29 = .bool false := hd 29 (by decide +kernel)
      refine wpOp_skip rfl (by rw [← u1_eq e29]; kernel_rfl) ?_
      exact k_of (HK.out undef _ rfl hB (Below.refl _ _)) (by rw [← u1_eq e29]; kernel_rfl)
    · intro u W hB _ hd _ K hK
      have HK := Lib.hid hK; clear hK
      have e29 : u 29 = .bool false := hd 29 (by decide +kernel)
      refine wpOp_skip rfl (by rw [← u1_eq e29]; kernel_rfl) ?_
      exact k_of (HK.out undef _ rfl hB (Below.refl _ _)) (by rw [← u1_eq e29]; kernel_rfl)
    · intro u W hB _ hd _ K hK
      have HK := Lib.hid hK; clear hK
      have e29 : u 29 = .bool false := hd 29 (by decide +kernel)
      refine wpOp_skip rfl (by rw [← u1_eq e29]; kernel_rfl) ?_
      exact k_of (HK.out undef _ rfl hB (Below.refl _ _)) (by rw [← u1_eq e29]; kernel_rfl)
    · intro u W hB _ hd _ K hK
      have HK := Lib.hid hK; clear hK
      have e29 : u 29 = .bool false := hd 29 (by decide +kernel)
      refine wpOp_skip rfl (by rw [← u1_eq e29]; kernel_rfl) ?_
      exact k_of (HK.out undef _ rfl hB (Below.refl _ _)) (by rw [← u1_eq e29]; kernel_rfl)
    · intro u W hB _ hd _ K hK
      have HK := Lib.hid hK; clear hK
      have e23 : u 23 = .bool false := hd 23 (by decide +kernel)
      have e29 : u 29 = .bool false := hd 29 (by decide +kernel)
      have e38 : u 38 = undef := hd 38 (by decide +kernel)
      refine wpOp_of rfl (by rw [← u1_eq e23]; kernel_rfl) ?_
      go_simp
      exact k_of (HK.out (.bool false) _ rfl hB (Below.refl _ _)) (by rw [← u1_eq e23, ← u1_eq e29, ← u1_eq e38]; kernel_rfl)
    · intro u W hB _ hd _ K hK
      have HK := Lib.hid hK; clear hK
      have e23 : u 23 = .bool false := hd 23 (by decide +kernel)
      have e39 : u 39 = .bool false := hd 39 (by decide +kernel)
      refine wpOp_of rfl (by rfl) ?_
      go_simp
      exact k_of (HK.out (.bool false) _ rfl hB (Below.refl _ _)) (by rw [← u1_eq e23, ← u1_eq e39]; kernel_rfl)
  · intro u W hB hd
    have e40 : u 40 = .bool false := hd 40 (by decide)
    exact k_of (HQ.out u W hB.out) (by simp only [e40])

/-- What each operation leaves. -/
def lm22bR (b1 o1 c1 b2 o2 c2 b3 o3 c3 b4 o4 c4 k rl : Nat) (a b p q : Int) : Nat → Value → World → Prop
  | 0, v, _ => v = .slice (some ⟨b1, o1, none⟩) rl c1
  | 1, v, _ => v = .int .i64 (k : Int)
  | 2, v, _ => v = .pointer (some ⟨b1, o1 + k, none⟩)
  | 3, v, _ => v = .int .i64 a
  | 4, v, _ => v = .slice (some ⟨b2, o2, none⟩) rl c2
  | 5, v, _ => v = .int .i64 (k : Int)
  | 6, v, _ => v = .pointer (some ⟨b2, o2 + k, none⟩)
  | 7, v, _ => v = .int .i64 b
  | 8, v, _ => v = .bool false
  | 9, v, _ => v = .bool false
  | 10, v, _ => v = .slice (some ⟨b3, o3, none⟩) rl c3
  | 11, v, _ => v = .int .i64 (k : Int)
  | 12, v, _ => v = .pointer (some ⟨b3, o3 + k, none⟩)
  | 13, v, _ => v = .int .i64 p
  | 14, v, _ => v = .bool false
  | 15, v, _ => v = .bool false
  | 16, v, _ => v = undef
  | 17, v, _ => v = undef
  | 18, v, _ => v = undef
  | 19, v, _ => v = undef
  | 20, v, _ => v = undef
  | 21, v, _ => v = .bool false
  | 22, v, _ => v = .bool false
  | 23, v, _ => v = .bool false
  | 24, v, _ => v = .slice (some ⟨b4, o4, none⟩) rl c4
  | 25, v, _ => v = .int .i64 (k : Int)
  | 26, v, _ => v = .pointer (some ⟨b4, o4 + k, none⟩)
  | 27, v, _ => v = .int .i64 q
  | 28, v, _ => v = .bool false
  | 29, v, _ => v = .bool false
  | 30, v, _ => v = undef
  | 31, v, _ => v = undef
  | 32, v, _ => v = undef
  | 33, v, _ => v = undef
  | 34, v, _ => v = undef
  | 35, v, _ => v = undef
  | 36, v, _ => v = undef
  | 37, v, _ => v = undef
  | 38, v, _ => v = undef
  | 39, v, _ => v = .bool false
  | 40, v, _ => v = .bool false
  | _, _, _ => True
theorem lm22bR_on (b1 o1 c1 b2 o2 c2 b3 o3 c3 b4 o4 c4 k rl : Nat) (a b p q : Int) : ∀ i, i < 41 → ∀ v W W', lm22bR b1 o1 c1 b2 o2 c2 b3 o3 c3 b4 o4 c4 k rl a b p q i v W → Below W.heap.size W W' → lm22bR b1 o1 c1 b2 o2 c2 b3 o3 c3 b4 o4 c4 k rl a b p q i v W' := by
  iterate 41 (refine all_succ ?_ ?_)
  · exact all_zero
  · exact fun _ _ _ h _ => h
  · exact fun _ _ _ h _ => h
  · exact fun _ _ _ h _ => h
  · exact fun _ _ _ h _ => h
  · exact fun _ _ _ h _ => h
  · exact fun _ _ _ h _ => h
  · exact fun _ _ _ h _ => h
  · exact fun _ _ _ h _ => h
  · exact fun _ _ _ h _ => h
  · exact fun _ _ _ h _ => h
  · exact fun _ _ _ h _ => h
  · exact fun _ _ _ h _ => h
  · exact fun _ _ _ h _ => h
  · exact fun _ _ _ h _ => h
  · exact fun _ _ _ h _ => h
  · exact fun _ _ _ h _ => h
  · exact fun _ _ _ h _ => h
  · exact fun _ _ _ h _ => h
  · exact fun _ _ _ h _ => h
  · exact fun _ _ _ h _ => h
  · exact fun _ _ _ h _ => h
  · exact fun _ _ _ h _ => h
  · exact fun _ _ _ h _ => h
  · exact fun _ _ _ h _ => h
  · exact fun _ _ _ h _ => h
  · exact fun _ _ _ h _ => h
  · exact fun _ _ _ h _ => h
  · exact fun _ _ _ h _ => h
  · exact fun _ _ _ h _ => h
  · exact fun _ _ _ h _ => h
  · exact fun _ _ _ h _ => h
  · exact fun _ _ _ h _ => h
  · exact fun _ _ _ h _ => h
  · exact fun _ _ _ h _ => h
  · exact fun _ _ _ h _ => h
  · exact fun _ _ _ h _ => h
  · exact fun _ _ _ h _ => h
  · exact fun _ _ _ h _ => h
  · exact fun _ _ _ h _ => h
  · exact fun _ _ _ h _ => h
  · exact fun _ _ _ h _ => h
set_option maxRecDepth 100000 in
set_option maxHeartbeats 8000000 in
theorem lm22b_region {S : World → Prop} (hon : ∀ W W', S W → Below W.heap.size W W' → S W') {b1 o1 c1 b2 o2 c2 b3 o3 c3 b4 o4 c4 k rl : Nat} {a b p q : Int} (hk : (k : Int) < rl) (h1 : ∀ W, S W → W.cell? ⟨b1, o1 + k, none⟩ = some (.int .i64 a)) (h2 : ∀ W, S W → W.cell? ⟨b2, o2 + k, none⟩ = some (.int .i64 b)) (h3 : ∀ W, S W → W.cell? ⟨b3, o3 + k, none⟩ = some (.int .i64 p)) (h4 : ∀ W, S W → W.cell? ⟨b4, o4 + k, none⟩ = some (.int .i64 q)) (hab : ¬ (b < a)) (hp : ¬ (p < 0)) (hq : ¬ (0 ≤ q)) {Q : Exit → Act → World → Prop} {s0 s1 s2 s3 s4 s5 s6 s7 s8 s9 s10 s11 s13 s15 s19 s20 s21 s22 s23 s24 s25 s26 s27 s28 s29 s30 s31 s32 s33 s34 s35 s36 s37 s38 s39 s40 s41 s42 s43 s44 s45 s46 s47 s48 s49 s50 s51 s52 s53 s54 s55 s56 s57 s58 s59 s60 s61 s62 s63 s64 s65 s66 s67 s68 s69 s70 s71 s72 s73 s74 s75 s76 s77 s78 s79 s80 s81 s82 s83 s84 s85 s86 s87 s88 s89 s90 s91 s92 s93 s94 s95 s96 s97 s98 s99 s100 s101 s102 s103 s104 s105 s106 s107 s108 s109 s110 s111 s112 s113 s114 s115 s116 s117 s118 s119 s120 s121 s122 s123 s124 s125 s126 s127 s169 s128 s129 s130 s131 s132 s133 s134 s135 s136 s137 s138 s139 s140 s141 s142 s143 s144 s145 s146 s147 s148 s149 s150 s151 s152 s153 s154 s155 s156 s157 s158 s159 s160 s161 s162 s163 s164 s165 s166 s167 s168 : Value} {W0 : World} (HL : Hid (S W0))
    (HQ : Hid (∀ (u : Nat → Value) (W : World), S W → Q .normal ⟨#[s0, s1, s2, s3, s4, s5, s6, s7, s8, s9, s10, s11, .slice (some ⟨b1, o1, none⟩) rl c1, s13, .slice (some ⟨b2, o2, none⟩) rl c2, s15, .slice (some ⟨b3, o3, none⟩) rl c3, .slice (some ⟨b4, o4, none⟩) rl c4, .int .i64 (k : Int), s19, s20, s21, s22, s23, s24, s25, s26, s27, s28, s29, s30, s31, s32, s33, s34, s35, s36, s37, s38, s39, s40, s41, s42, s43, s44, s45, s46, s47, s48, s49, s50, s51, s52, s53, s54, s55, s56, s57, s58, s59, s60, s61, s62, s63, s64, s65, s66, s67, s68, s69, s70, s71, s72, s73, s74, s75, s76, s77, s78, s79, s80, s81, s82, s83, s84, s85, s86, s87, s88, s89, s90, s91, s92, s93, s94, s95, s96, s97, s98, s99, s100, s101, s102, s103, s104, s105, s106, s107, s108, s109, s110, s111, s112, s113, s114, s115, s116, s117, s118, s119, s120, s121, s122, s123, s124, s125, s126, s127, u 0, u 1, u 2, u 3, u 4, u 5, u 6, u 7, u 8, u 9, u 10, u 11, u 12, u 13, u 14, u 15, u 16, u 17, u 18, u 19, u 20, u 21, u 22, u 23, u 24, u 25, u 26, u 27, u 28, u 29, u 30, u 31, u 32, u 33, u 34, u 35, u 36, u 37, u 38, u 39, .bool false, s169], []⟩ W)) :
    Code.wp Try.prog ((Try.f13.body.bind (regionAt 22)).getD .skip) Q ⟨#[s0, s1, s2, s3, s4, s5, s6, s7, s8, s9, s10, s11, .slice (some ⟨b1, o1, none⟩) rl c1, s13, .slice (some ⟨b2, o2, none⟩) rl c2, s15, .slice (some ⟨b3, o3, none⟩) rl c3, .slice (some ⟨b4, o4, none⟩) rl c4, .int .i64 (k : Int), s19, s20, s21, s22, s23, s24, s25, s26, s27, s28, s29, s30, s31, s32, s33, s34, s35, s36, s37, s38, s39, s40, s41, s42, s43, s44, s45, s46, s47, s48, s49, s50, s51, s52, s53, s54, s55, s56, s57, s58, s59, s60, s61, s62, s63, s64, s65, s66, s67, s68, s69, s70, s71, s72, s73, s74, s75, s76, s77, s78, s79, s80, s81, s82, s83, s84, s85, s86, s87, s88, s89, s90, s91, s92, s93, s94, s95, s96, s97, s98, s99, s100, s101, s102, s103, s104, s105, s106, s107, s108, s109, s110, s111, s112, s113, s114, s115, s116, s117, s118, s119, s120, s121, s122, s123, s124, s125, s126, s127, s128, s129, s130, s131, s132, s133, s134, s135, s136, s137, s138, s139, s140, s141, s142, s143, s144, s145, s146, s147, s148, s149, s150, s151, s152, s153, s154, s155, s156, s157, s158, s159, s160, s161, s162, s163, s164, s165, s166, s167, s168, s169], []⟩ W0 := by
  conv => arg 2; whnf
  refine wp_region_spec (by kernel_rfl) 41 (by kernel_rfl) (fun u => ⟨#[s0, s1, s2, s3, s4, s5, s6, s7, s8, s9, s10, s11, .slice (some ⟨b1, o1, none⟩) rl c1, s13, .slice (some ⟨b2, o2, none⟩) rl c2, s15, .slice (some ⟨b3, o3, none⟩) rl c3, .slice (some ⟨b4, o4, none⟩) rl c4, .int .i64 (k : Int), s19, s20, s21, s22, s23, s24, s25, s26, s27, s28, s29, s30, s31, s32, s33, s34, s35, s36, s37, s38, s39, s40, s41, s42, s43, s44, s45, s46, s47, s48, s49, s50, s51, s52, s53, s54, s55, s56, s57, s58, s59, s60, s61, s62, s63, s64, s65, s66, s67, s68, s69, s70, s71, s72, s73, s74, s75, s76, s77, s78, s79, s80, s81, s82, s83, s84, s85, s86, s87, s88, s89, s90, s91, s92, s93, s94, s95, s96, s97, s98, s99, s100, s101, s102, s103, s104, s105, s106, s107, s108, s109, s110, s111, s112, s113, s114, s115, s116, s117, s118, s119, s120, s121, s122, s123, s124, s125, s126, s127, u 0, u 1, u 2, u 3, u 4, u 5, u 6, u 7, u 8, u 9, u 10, u 11, u 12, u 13, u 14, u 15, u 16, u 17, u 18, u 19, u 20, u 21, u 22, u 23, u 24, u 25, u 26, u 27, u 28, u 29, u 30, u 31, u 32, u 33, u 34, u 35, u 36, u 37, u 38, u 39, u 40, s169], []⟩) (fun i => if i = 0 then s128 else if i = 1 then s129 else if i = 2 then s130 else if i = 3 then s131 else if i = 4 then s132 else if i = 5 then s133 else if i = 6 then s134 else if i = 7 then s135 else if i = 8 then s136 else if i = 9 then s137 else if i = 10 then s138 else if i = 11 then s139 else if i = 12 then s140 else if i = 13 then s141 else if i = 14 then s142 else if i = 15 then s143 else if i = 16 then s144 else if i = 17 then s145 else if i = 18 then s146 else if i = 19 then s147 else if i = 20 then s148 else if i = 21 then s149 else if i = 22 then s150 else if i = 23 then s151 else if i = 24 then s152 else if i = 25 then s153 else if i = 26 then s154 else if i = 27 then s155 else if i = 28 then s156 else if i = 29 then s157 else if i = 30 then s158 else if i = 31 then s159 else if i = 32 then s160 else if i = 33 then s161 else if i = 34 then s162 else if i = 35 then s163 else if i = 36 then s164 else if i = 37 then s165 else if i = 38 then s166 else if i = 39 then s167 else if i = 40 then s168 else undef) (fun W => Hid (S W)) (lm22bR b1 o1 c1 b2 o2 c2 b3 o3 c3 b4 o4 c4 k rl a b p q) (by kernel_rfl) (hon _ _ HL.out (Below.refl _ _).drew) (fun i v W W2 hi h hb => lm22bR_on b1 o1 c1 b2 o2 c2 b3 o3 c3 b4 o4 c4 k rl a b p q i hi v W W2 h hb) (by decide +kernel) ?_ ?_
  · iterate 41 (refine all_succ ?_ ?_)
    · exact all_zero
    · intro u W hB _ hd _ K hK
      have HK := Lib.hid hK; clear hK
      refine wpOp_of rfl (by rfl) ?_
      go_simp
      exact k_of (HK.out (.slice (some ⟨b1, o1, none⟩) rl c1) _ rfl hB (Below.refl _ _)) (by kernel_rfl)
    · intro u W hB _ hd _ K hK
      have HK := Lib.hid hK; clear hK
      refine wpOp_of rfl (by rfl) ?_
      go_simp
      exact k_of (HK.out (.int .i64 (k : Int)) _ rfl hB (Below.refl _ _)) (by kernel_rfl)
    · intro u W hB _ hd _ K hK
      have HK := Lib.hid hK; clear hK
      have e0 : u 0 = .slice (some ⟨b1, o1, none⟩) rl c1 := hd 0 (by decide +kernel)
      have e1 : u 1 = .int .i64 (k : Int) := hd 1 (by decide +kernel)
      refine wpOp_of rfl (by rfl) ?_
      go_simp
      exact k_of (HK.out (.pointer (some ⟨b1, o1 + k, none⟩)) _ rfl hB (Below.refl _ _)) (by rw [← u1_eq e0, ← u1_eq e1]; kernel_rfl)
    · intro u W hB _ hd _ K hK
      have HK := Lib.hid hK; clear hK
      have e2 : u 2 = .pointer (some ⟨b1, o1 + k, none⟩) := hd 2 (by decide +kernel)
      refine wpOp_of rfl (by rfl) ?_
      have d0 := h1 W hB.out
      go_simp
      exact k_of (HK.out (.int .i64 a) _ rfl hB (Below.refl _ _)) (by rw [← u1_eq e2]; kernel_rfl)
    · intro u W hB _ hd _ K hK
      have HK := Lib.hid hK; clear hK
      refine wpOp_of rfl (by rfl) ?_
      go_simp
      exact k_of (HK.out (.slice (some ⟨b2, o2, none⟩) rl c2) _ rfl hB (Below.refl _ _)) (by kernel_rfl)
    · intro u W hB _ hd _ K hK
      have HK := Lib.hid hK; clear hK
      refine wpOp_of rfl (by rfl) ?_
      go_simp
      exact k_of (HK.out (.int .i64 (k : Int)) _ rfl hB (Below.refl _ _)) (by kernel_rfl)
    · intro u W hB _ hd _ K hK
      have HK := Lib.hid hK; clear hK
      have e4 : u 4 = .slice (some ⟨b2, o2, none⟩) rl c2 := hd 4 (by decide +kernel)
      have e5 : u 5 = .int .i64 (k : Int) := hd 5 (by decide +kernel)
      refine wpOp_of rfl (by rfl) ?_
      go_simp
      exact k_of (HK.out (.pointer (some ⟨b2, o2 + k, none⟩)) _ rfl hB (Below.refl _ _)) (by rw [← u1_eq e4, ← u1_eq e5]; kernel_rfl)
    · intro u W hB _ hd _ K hK
      have HK := Lib.hid hK; clear hK
      have e6 : u 6 = .pointer (some ⟨b2, o2 + k, none⟩) := hd 6 (by decide +kernel)
      refine wpOp_of rfl (by rfl) ?_
      have d0 := h2 W hB.out
      go_simp
      exact k_of (HK.out (.int .i64 b) _ rfl hB (Below.refl _ _)) (by rw [← u1_eq e6]; kernel_rfl)
    · intro u W hB _ hd _ K hK
      have HK := Lib.hid hK; clear hK
      have e3 : u 3 = .int .i64 a := hd 3 (by decide +kernel)
      have e7 : u 7 = .int .i64 b := hd 7 (by decide +kernel)
      refine wpOp_of rfl (by rfl) ?_
      go_simp
      exact k_of (HK.out (.bool false) _ rfl hB (Below.refl _ _)) (by rw [← u1_eq e3, ← u1_eq e7]; kernel_rfl)
    · intro u W hB _ hd _ K hK
      have HK := Lib.hid hK; clear hK
      have e8 : u 8 = .bool false := hd 8 (by decide +kernel)
      refine wpOp_of rfl (by rfl) ?_
      go_simp
      exact k_of (HK.out (.bool false) _ rfl hB (Below.refl _ _)) (by rw [← u1_eq e8]; kernel_rfl)
    · intro u W hB _ hd _ K hK
      have HK := Lib.hid hK; clear hK
      have e9 : u 9 = .bool false := hd 9 (by decide +kernel)
      refine wpOp_of rfl (by rw [← u1_eq e9]; kernel_rfl) ?_
      go_simp
      exact k_of (HK.out (.slice (some ⟨b3, o3, none⟩) rl c3) _ rfl hB (Below.refl _ _)) (by rw [← u1_eq e9]; kernel_rfl)
    · intro u W hB _ hd _ K hK
      have HK := Lib.hid hK; clear hK
      have e9 : u 9 = .bool false := hd 9 (by decide +kernel)
      refine wpOp_of rfl (by rw [← u1_eq e9]; kernel_rfl) ?_
      go_simp
      exact k_of (HK.out (.int .i64 (k : Int)) _ rfl hB (Below.refl _ _)) (by rw [← u1_eq e9]; kernel_rfl)
    · intro u W hB _ hd _ K hK
      have HK := Lib.hid hK; clear hK
      have e9 : u 9 = .bool false := hd 9 (by decide +kernel)
      have e10 : u 10 = .slice (some ⟨b3, o3, none⟩) rl c3 := hd 10 (by decide +kernel)
      have e11 : u 11 = .int .i64 (k : Int) := hd 11 (by decide +kernel)
      refine wpOp_of rfl (by rw [← u1_eq e9]; kernel_rfl) ?_
      go_simp
      exact k_of (HK.out (.pointer (some ⟨b3, o3 + k, none⟩)) _ rfl hB (Below.refl _ _)) (by rw [← u1_eq e9, ← u1_eq e10, ← u1_eq e11]; kernel_rfl)
    · intro u W hB _ hd _ K hK
      have HK := Lib.hid hK; clear hK
      have e9 : u 9 = .bool false := hd 9 (by decide +kernel)
      have e12 : u 12 = .pointer (some ⟨b3, o3 + k, none⟩) := hd 12 (by decide +kernel)
      refine wpOp_of rfl (by rw [← u1_eq e9]; kernel_rfl) ?_
      have d0 := h3 W hB.out
      go_simp
      exact k_of (HK.out (.int .i64 p) _ rfl hB (Below.refl _ _)) (by rw [← u1_eq e9, ← u1_eq e12]; kernel_rfl)
    · intro u W hB _ hd _ K hK
      have HK := Lib.hid hK; clear hK
      have e9 : u 9 = .bool false := hd 9 (by decide +kernel)
      have e13 : u 13 = .int .i64 p := hd 13 (by decide +kernel)
      refine wpOp_of rfl (by rw [← u1_eq e9]; kernel_rfl) ?_
      go_simp
      exact k_of (HK.out (.bool false) _ rfl hB (Below.refl _ _)) (by rw [← u1_eq e9, ← u1_eq e13]; kernel_rfl)
    · intro u W hB _ hd _ K hK
      have HK := Lib.hid hK; clear hK
      have e9 : u 9 = .bool false := hd 9 (by decide +kernel)
      have e14 : u 14 = .bool false := hd 14 (by decide +kernel)
      refine wpOp_of rfl (by rw [← u1_eq e9]; kernel_rfl) ?_
      go_simp
      exact k_of (HK.out (.bool false) _ rfl hB (Below.refl _ _)) (by rw [← u1_eq e9, ← u1_eq e14]; kernel_rfl)
    · intro u W hB _ hd _ K hK
      have HK := Lib.hid hK; clear hK
      have e15 : u 15 = .bool false := hd 15 (by decide +kernel)
      refine wpOp_skip rfl (by rw [← u1_eq e15]; kernel_rfl) ?_
      exact k_of (HK.out undef _ rfl hB (Below.refl _ _)) (by rw [← u1_eq e15]; kernel_rfl)
    · intro u W hB _ hd _ K hK
      have HK := Lib.hid hK; clear hK
      have e15 : u 15 = .bool false := hd 15 (by decide +kernel)
      refine wpOp_skip rfl (by rw [← u1_eq e15]; kernel_rfl) ?_
      exact k_of (HK.out undef _ rfl hB (Below.refl _ _)) (by rw [← u1_eq e15]; kernel_rfl)
    · intro u W hB _ hd _ K hK
      have HK := Lib.hid hK; clear hK
      have e15 : u 15 = .bool false := hd 15 (by decide +kernel)
      refine wpOp_skip rfl (by rw [← u1_eq e15]; kernel_rfl) ?_
      exact k_of (HK.out undef _ rfl hB (Below.refl _ _)) (by rw [← u1_eq e15]; kernel_rfl)
    · intro u W hB _ hd _ K hK
      have HK := Lib.hid hK; clear hK
      have e15 : u 15 = .bool false := hd 15 (by decide +kernel)
      refine wpOp_skip rfl (by rw [← u1_eq e15]; kernel_rfl) ?_
      exact k_of (HK.out undef _ rfl hB (Below.refl _ _)) (by rw [← u1_eq e15]; kernel_rfl)
    · intro u W hB _ hd _ K hK
      have HK := Lib.hid hK; clear hK
      have e15 : u 15 = .bool false := hd 15 (by decide +kernel)
      refine wpOp_skip rfl (by rw [← u1_eq e15]; kernel_rfl) ?_
      exact k_of (HK.out undef _ rfl hB (Below.refl _ _)) (by rw [← u1_eq e15]; kernel_rfl)
    · intro u W hB _ hd _ K hK
      have HK := Lib.hid hK; clear hK
      have e9 : u 9 = .bool false := hd 9 (by decide +kernel)
      have e15 : u 15 = .bool false := hd 15 (by decide +kernel)
      have e20 : u 20 = undef := hd 20 (by decide +kernel)
      refine wpOp_of rfl (by rw [← u1_eq e9]; kernel_rfl) ?_
      go_simp
      exact k_of (HK.out (.bool false) _ rfl hB (Below.refl _ _)) (by rw [← u1_eq e9, ← u1_eq e15, ← u1_eq e20]; kernel_rfl)
    · intro u W hB _ hd _ K hK
      have HK := Lib.hid hK; clear hK
      have e9 : u 9 = .bool false := hd 9 (by decide +kernel)
      have e21 : u 21 = .bool false := hd 21 (by decide +kernel)
      refine wpOp_of rfl (by rfl) ?_
      go_simp
      exact k_of (HK.out (.bool false) _ rfl hB (Below.refl _ _)) (by rw [← u1_eq e9, ← u1_eq e21]; kernel_rfl)
    · intro u W hB _ hd _ K hK
      have HK := Lib.hid hK; clear hK
      have e22 : u 22 = .bool false := hd 22 (by decide +kernel)
      refine wpOp_of rfl (by rfl) ?_
      go_simp
      exact k_of (HK.out (.bool false) _ rfl hB (Below.refl _ _)) (by rw [← u1_eq e22]; kernel_rfl)
    · intro u W hB _ hd _ K hK
      have HK := Lib.hid hK; clear hK
      have e23 : u 23 = .bool false := hd 23 (by decide +kernel)
      refine wpOp_of rfl (by rw [← u1_eq e23]; kernel_rfl) ?_
      go_simp
      exact k_of (HK.out (.slice (some ⟨b4, o4, none⟩) rl c4) _ rfl hB (Below.refl _ _)) (by rw [← u1_eq e23]; kernel_rfl)
    · intro u W hB _ hd _ K hK
      have HK := Lib.hid hK; clear hK
      have e23 : u 23 = .bool false := hd 23 (by decide +kernel)
      refine wpOp_of rfl (by rw [← u1_eq e23]; kernel_rfl) ?_
      go_simp
      exact k_of (HK.out (.int .i64 (k : Int)) _ rfl hB (Below.refl _ _)) (by rw [← u1_eq e23]; kernel_rfl)
    · intro u W hB _ hd _ K hK
      have HK := Lib.hid hK; clear hK
      have e23 : u 23 = .bool false := hd 23 (by decide +kernel)
      have e24 : u 24 = .slice (some ⟨b4, o4, none⟩) rl c4 := hd 24 (by decide +kernel)
      have e25 : u 25 = .int .i64 (k : Int) := hd 25 (by decide +kernel)
      refine wpOp_of rfl (by rw [← u1_eq e23]; kernel_rfl) ?_
      go_simp
      exact k_of (HK.out (.pointer (some ⟨b4, o4 + k, none⟩)) _ rfl hB (Below.refl _ _)) (by rw [← u1_eq e23, ← u1_eq e24, ← u1_eq e25]; kernel_rfl)
    · intro u W hB _ hd _ K hK
      have HK := Lib.hid hK; clear hK
      have e23 : u 23 = .bool false := hd 23 (by decide +kernel)
      have e26 : u 26 = .pointer (some ⟨b4, o4 + k, none⟩) := hd 26 (by decide +kernel)
      refine wpOp_of rfl (by rw [← u1_eq e23]; kernel_rfl) ?_
      have d0 := h4 W hB.out
      go_simp
      exact k_of (HK.out (.int .i64 q) _ rfl hB (Below.refl _ _)) (by rw [← u1_eq e23, ← u1_eq e26]; kernel_rfl)
    · intro u W hB _ hd _ K hK
      have HK := Lib.hid hK; clear hK
      have e23 : u 23 = .bool false := hd 23 (by decide +kernel)
      have e27 : u 27 = .int .i64 q := hd 27 (by decide +kernel)
      refine wpOp_of rfl (by rw [← u1_eq e23]; kernel_rfl) ?_
      go_simp
      exact k_of (HK.out (.bool false) _ rfl hB (Below.refl _ _)) (by rw [← u1_eq e23, ← u1_eq e27]; kernel_rfl)
    · intro u W hB _ hd _ K hK
      have HK := Lib.hid hK; clear hK
      have e23 : u 23 = .bool false := hd 23 (by decide +kernel)
      have e28 : u 28 = .bool false := hd 28 (by decide +kernel)
      refine wpOp_of rfl (by rw [← u1_eq e23]; kernel_rfl) ?_
      go_simp
      exact k_of (HK.out (.bool false) _ rfl hB (Below.refl _ _)) (by rw [← u1_eq e23, ← u1_eq e28]; kernel_rfl)
    · intro u W hB _ hd _ K hK
      have HK := Lib.hid hK; clear hK
      have e29 : u 29 = .bool false := hd 29 (by decide +kernel)
      refine wpOp_skip rfl (by rw [← u1_eq e29]; kernel_rfl) ?_
      exact k_of (HK.out undef _ rfl hB (Below.refl _ _)) (by rw [← u1_eq e29]; kernel_rfl)
    · intro u W hB _ hd _ K hK
      have HK := Lib.hid hK; clear hK
      have e29 : u 29 = .bool false := hd 29 (by decide +kernel)
      refine wpOp_skip rfl (by rw [← u1_eq e29]; kernel_rfl) ?_
      exact k_of (HK.out undef _ rfl hB (Below.refl _ _)) (by rw [← u1_eq e29]; kernel_rfl)
    · intro u W hB _ hd _ K hK
      have HK := Lib.hid hK; clear hK
      have e29 : u 29 = .bool false := hd 29 (by decide +kernel)
      refine wpOp_skip rfl (by rw [← u1_eq e29]; kernel_rfl) ?_
      exact k_of (HK.out undef _ rfl hB (Below.refl _ _)) (by rw [← u1_eq e29]; kernel_rfl)
    · intro u W hB _ hd _ K hK
      have HK := Lib.hid hK; clear hK
      have e29 : u 29 = .bool false := hd 29 (by decide +kernel)
      refine wpOp_skip rfl (by rw [← u1_eq e29]; kernel_rfl) ?_
      exact k_of (HK.out undef _ rfl hB (Below.refl _ _)) (by rw [← u1_eq e29]; kernel_rfl)
    · intro u W hB _ hd _ K hK
      have HK := Lib.hid hK; clear hK
      have e29 : u 29 = .bool false := hd 29 (by decide +kernel)
      refine wpOp_skip rfl (by rw [← u1_eq e29]; kernel_rfl) ?_
      exact k_of (HK.out undef _ rfl hB (Below.refl _ _)) (by rw [← u1_eq e29]; kernel_rfl)
    · intro u W hB _ hd _ K hK
      have HK := Lib.hid hK; clear hK
      have e29 : u 29 = .bool false := hd 29 (by decide +kernel)
      refine wpOp_skip rfl (by rw [← u1_eq e29]; kernel_rfl) ?_
      exact k_of (HK.out undef _ rfl hB (Below.refl _ _)) (by rw [← u1_eq e29]; kernel_rfl)
    · intro u W hB _ hd _ K hK
      have HK := Lib.hid hK; clear hK
      have e29 : u 29 = .bool false := hd 29 (by decide +kernel)
      refine wpOp_skip rfl (by rw [← u1_eq e29]; kernel_rfl) ?_
      exact k_of (HK.out undef _ rfl hB (Below.refl _ _)) (by rw [← u1_eq e29]; kernel_rfl)
    · intro u W hB _ hd _ K hK
      have HK := Lib.hid hK; clear hK
      have e29 : u 29 = .bool false := hd 29 (by decide +kernel)
      refine wpOp_skip rfl (by rw [← u1_eq e29]; kernel_rfl) ?_
      exact k_of (HK.out undef _ rfl hB (Below.refl _ _)) (by rw [← u1_eq e29]; kernel_rfl)
    · intro u W hB _ hd _ K hK
      have HK := Lib.hid hK; clear hK
      have e29 : u 29 = .bool false := hd 29 (by decide +kernel)
      refine wpOp_skip rfl (by rw [← u1_eq e29]; kernel_rfl) ?_
      exact k_of (HK.out undef _ rfl hB (Below.refl _ _)) (by rw [← u1_eq e29]; kernel_rfl)
    · intro u W hB _ hd _ K hK
      have HK := Lib.hid hK; clear hK
      have e23 : u 23 = .bool false := hd 23 (by decide +kernel)
      have e29 : u 29 = .bool false := hd 29 (by decide +kernel)
      have e38 : u 38 = undef := hd 38 (by decide +kernel)
      refine wpOp_of rfl (by rw [← u1_eq e23]; kernel_rfl) ?_
      go_simp
      exact k_of (HK.out (.bool false) _ rfl hB (Below.refl _ _)) (by rw [← u1_eq e23, ← u1_eq e29, ← u1_eq e38]; kernel_rfl)
    · intro u W hB _ hd _ K hK
      have HK := Lib.hid hK; clear hK
      have e23 : u 23 = .bool false := hd 23 (by decide +kernel)
      have e39 : u 39 = .bool false := hd 39 (by decide +kernel)
      refine wpOp_of rfl (by rfl) ?_
      go_simp
      exact k_of (HK.out (.bool false) _ rfl hB (Below.refl _ _)) (by rw [← u1_eq e23, ← u1_eq e39]; kernel_rfl)
  · intro u W hB hd
    have e40 : u 40 = .bool false := hd 40 (by decide)
    exact k_of (HQ.out u W hB.out) (by simp only [e40])

/-- What each operation leaves. -/
def lm22cR (b1 o1 c1 b2 o2 c2 b3 o3 c3 b4 o4 c4 k rl : Nat) (a b p q : Int) : Nat → Value → World → Prop
  | 0, v, _ => v = .slice (some ⟨b1, o1, none⟩) rl c1
  | 1, v, _ => v = .int .i64 (k : Int)
  | 2, v, _ => v = .pointer (some ⟨b1, o1 + k, none⟩)
  | 3, v, _ => v = .int .i64 a
  | 4, v, _ => v = .slice (some ⟨b2, o2, none⟩) rl c2
  | 5, v, _ => v = .int .i64 (k : Int)
  | 6, v, _ => v = .pointer (some ⟨b2, o2 + k, none⟩)
  | 7, v, _ => v = .int .i64 b
  | 8, v, _ => v = .bool false
  | 9, v, _ => v = .bool false
  | 10, v, _ => v = .slice (some ⟨b3, o3, none⟩) rl c3
  | 11, v, _ => v = .int .i64 (k : Int)
  | 12, v, _ => v = .pointer (some ⟨b3, o3 + k, none⟩)
  | 13, v, _ => v = .int .i64 p
  | 14, v, _ => v = .bool false
  | 15, v, _ => v = .bool false
  | 16, v, _ => v = undef
  | 17, v, _ => v = undef
  | 18, v, _ => v = undef
  | 19, v, _ => v = undef
  | 20, v, _ => v = undef
  | 21, v, _ => v = .bool false
  | 22, v, _ => v = .bool false
  | 23, v, _ => v = .bool false
  | 24, v, _ => v = .slice (some ⟨b4, o4, none⟩) rl c4
  | 25, v, _ => v = .int .i64 (k : Int)
  | 26, v, _ => v = .pointer (some ⟨b4, o4 + k, none⟩)
  | 27, v, _ => v = .int .i64 q
  | 28, v, _ => v = .bool true
  | 29, v, _ => v = .bool true
  | 30, v, _ => v = .slice (some ⟨b3, o3, none⟩) rl c3
  | 31, v, _ => v = .int .i64 (k : Int)
  | 32, v, _ => v = .pointer (some ⟨b3, o3 + k, none⟩)
  | 33, v, _ => v = .int .i64 p
  | 34, v, _ => v = .slice (some ⟨b4, o4, none⟩) rl c4
  | 35, v, _ => v = .int .i64 (k : Int)
  | 36, v, _ => v = .pointer (some ⟨b4, o4 + k, none⟩)
  | 37, v, _ => v = .int .i64 q
  | 38, v, _ => v = .bool false
  | 39, v, _ => v = .bool false
  | 40, v, _ => v = .bool false
  | _, _, _ => True
theorem lm22cR_on (b1 o1 c1 b2 o2 c2 b3 o3 c3 b4 o4 c4 k rl : Nat) (a b p q : Int) : ∀ i, i < 41 → ∀ v W W', lm22cR b1 o1 c1 b2 o2 c2 b3 o3 c3 b4 o4 c4 k rl a b p q i v W → Below W.heap.size W W' → lm22cR b1 o1 c1 b2 o2 c2 b3 o3 c3 b4 o4 c4 k rl a b p q i v W' := by
  iterate 41 (refine all_succ ?_ ?_)
  · exact all_zero
  · exact fun _ _ _ h _ => h
  · exact fun _ _ _ h _ => h
  · exact fun _ _ _ h _ => h
  · exact fun _ _ _ h _ => h
  · exact fun _ _ _ h _ => h
  · exact fun _ _ _ h _ => h
  · exact fun _ _ _ h _ => h
  · exact fun _ _ _ h _ => h
  · exact fun _ _ _ h _ => h
  · exact fun _ _ _ h _ => h
  · exact fun _ _ _ h _ => h
  · exact fun _ _ _ h _ => h
  · exact fun _ _ _ h _ => h
  · exact fun _ _ _ h _ => h
  · exact fun _ _ _ h _ => h
  · exact fun _ _ _ h _ => h
  · exact fun _ _ _ h _ => h
  · exact fun _ _ _ h _ => h
  · exact fun _ _ _ h _ => h
  · exact fun _ _ _ h _ => h
  · exact fun _ _ _ h _ => h
  · exact fun _ _ _ h _ => h
  · exact fun _ _ _ h _ => h
  · exact fun _ _ _ h _ => h
  · exact fun _ _ _ h _ => h
  · exact fun _ _ _ h _ => h
  · exact fun _ _ _ h _ => h
  · exact fun _ _ _ h _ => h
  · exact fun _ _ _ h _ => h
  · exact fun _ _ _ h _ => h
  · exact fun _ _ _ h _ => h
  · exact fun _ _ _ h _ => h
  · exact fun _ _ _ h _ => h
  · exact fun _ _ _ h _ => h
  · exact fun _ _ _ h _ => h
  · exact fun _ _ _ h _ => h
  · exact fun _ _ _ h _ => h
  · exact fun _ _ _ h _ => h
  · exact fun _ _ _ h _ => h
  · exact fun _ _ _ h _ => h
  · exact fun _ _ _ h _ => h
set_option maxRecDepth 100000 in
set_option maxHeartbeats 8000000 in
theorem lm22c_region {S : World → Prop} (hon : ∀ W W', S W → Below W.heap.size W W' → S W') {b1 o1 c1 b2 o2 c2 b3 o3 c3 b4 o4 c4 k rl : Nat} {a b p q : Int} (hk : (k : Int) < rl) (h1 : ∀ W, S W → W.cell? ⟨b1, o1 + k, none⟩ = some (.int .i64 a)) (h2 : ∀ W, S W → W.cell? ⟨b2, o2 + k, none⟩ = some (.int .i64 b)) (h3 : ∀ W, S W → W.cell? ⟨b3, o3 + k, none⟩ = some (.int .i64 p)) (h4 : ∀ W, S W → W.cell? ⟨b4, o4 + k, none⟩ = some (.int .i64 q)) (hab : ¬ (b < a)) (hp : ¬ (p < 0)) (hq : 0 ≤ q) (hpq : ¬ (q < p)) {Q : Exit → Act → World → Prop} {s0 s1 s2 s3 s4 s5 s6 s7 s8 s9 s10 s11 s13 s15 s19 s20 s21 s22 s23 s24 s25 s26 s27 s28 s29 s30 s31 s32 s33 s34 s35 s36 s37 s38 s39 s40 s41 s42 s43 s44 s45 s46 s47 s48 s49 s50 s51 s52 s53 s54 s55 s56 s57 s58 s59 s60 s61 s62 s63 s64 s65 s66 s67 s68 s69 s70 s71 s72 s73 s74 s75 s76 s77 s78 s79 s80 s81 s82 s83 s84 s85 s86 s87 s88 s89 s90 s91 s92 s93 s94 s95 s96 s97 s98 s99 s100 s101 s102 s103 s104 s105 s106 s107 s108 s109 s110 s111 s112 s113 s114 s115 s116 s117 s118 s119 s120 s121 s122 s123 s124 s125 s126 s127 s169 s128 s129 s130 s131 s132 s133 s134 s135 s136 s137 s138 s139 s140 s141 s142 s143 s144 s145 s146 s147 s148 s149 s150 s151 s152 s153 s154 s155 s156 s157 s158 s159 s160 s161 s162 s163 s164 s165 s166 s167 s168 : Value} {W0 : World} (HL : Hid (S W0))
    (HQ : Hid (∀ (u : Nat → Value) (W : World), S W → Q .normal ⟨#[s0, s1, s2, s3, s4, s5, s6, s7, s8, s9, s10, s11, .slice (some ⟨b1, o1, none⟩) rl c1, s13, .slice (some ⟨b2, o2, none⟩) rl c2, s15, .slice (some ⟨b3, o3, none⟩) rl c3, .slice (some ⟨b4, o4, none⟩) rl c4, .int .i64 (k : Int), s19, s20, s21, s22, s23, s24, s25, s26, s27, s28, s29, s30, s31, s32, s33, s34, s35, s36, s37, s38, s39, s40, s41, s42, s43, s44, s45, s46, s47, s48, s49, s50, s51, s52, s53, s54, s55, s56, s57, s58, s59, s60, s61, s62, s63, s64, s65, s66, s67, s68, s69, s70, s71, s72, s73, s74, s75, s76, s77, s78, s79, s80, s81, s82, s83, s84, s85, s86, s87, s88, s89, s90, s91, s92, s93, s94, s95, s96, s97, s98, s99, s100, s101, s102, s103, s104, s105, s106, s107, s108, s109, s110, s111, s112, s113, s114, s115, s116, s117, s118, s119, s120, s121, s122, s123, s124, s125, s126, s127, u 0, u 1, u 2, u 3, u 4, u 5, u 6, u 7, u 8, u 9, u 10, u 11, u 12, u 13, u 14, u 15, u 16, u 17, u 18, u 19, u 20, u 21, u 22, u 23, u 24, u 25, u 26, u 27, u 28, u 29, u 30, u 31, u 32, u 33, u 34, u 35, u 36, u 37, u 38, u 39, .bool false, s169], []⟩ W)) :
    Code.wp Try.prog ((Try.f13.body.bind (regionAt 22)).getD .skip) Q ⟨#[s0, s1, s2, s3, s4, s5, s6, s7, s8, s9, s10, s11, .slice (some ⟨b1, o1, none⟩) rl c1, s13, .slice (some ⟨b2, o2, none⟩) rl c2, s15, .slice (some ⟨b3, o3, none⟩) rl c3, .slice (some ⟨b4, o4, none⟩) rl c4, .int .i64 (k : Int), s19, s20, s21, s22, s23, s24, s25, s26, s27, s28, s29, s30, s31, s32, s33, s34, s35, s36, s37, s38, s39, s40, s41, s42, s43, s44, s45, s46, s47, s48, s49, s50, s51, s52, s53, s54, s55, s56, s57, s58, s59, s60, s61, s62, s63, s64, s65, s66, s67, s68, s69, s70, s71, s72, s73, s74, s75, s76, s77, s78, s79, s80, s81, s82, s83, s84, s85, s86, s87, s88, s89, s90, s91, s92, s93, s94, s95, s96, s97, s98, s99, s100, s101, s102, s103, s104, s105, s106, s107, s108, s109, s110, s111, s112, s113, s114, s115, s116, s117, s118, s119, s120, s121, s122, s123, s124, s125, s126, s127, s128, s129, s130, s131, s132, s133, s134, s135, s136, s137, s138, s139, s140, s141, s142, s143, s144, s145, s146, s147, s148, s149, s150, s151, s152, s153, s154, s155, s156, s157, s158, s159, s160, s161, s162, s163, s164, s165, s166, s167, s168, s169], []⟩ W0 := by
  conv => arg 2; whnf
  refine wp_region_spec (by kernel_rfl) 41 (by kernel_rfl) (fun u => ⟨#[s0, s1, s2, s3, s4, s5, s6, s7, s8, s9, s10, s11, .slice (some ⟨b1, o1, none⟩) rl c1, s13, .slice (some ⟨b2, o2, none⟩) rl c2, s15, .slice (some ⟨b3, o3, none⟩) rl c3, .slice (some ⟨b4, o4, none⟩) rl c4, .int .i64 (k : Int), s19, s20, s21, s22, s23, s24, s25, s26, s27, s28, s29, s30, s31, s32, s33, s34, s35, s36, s37, s38, s39, s40, s41, s42, s43, s44, s45, s46, s47, s48, s49, s50, s51, s52, s53, s54, s55, s56, s57, s58, s59, s60, s61, s62, s63, s64, s65, s66, s67, s68, s69, s70, s71, s72, s73, s74, s75, s76, s77, s78, s79, s80, s81, s82, s83, s84, s85, s86, s87, s88, s89, s90, s91, s92, s93, s94, s95, s96, s97, s98, s99, s100, s101, s102, s103, s104, s105, s106, s107, s108, s109, s110, s111, s112, s113, s114, s115, s116, s117, s118, s119, s120, s121, s122, s123, s124, s125, s126, s127, u 0, u 1, u 2, u 3, u 4, u 5, u 6, u 7, u 8, u 9, u 10, u 11, u 12, u 13, u 14, u 15, u 16, u 17, u 18, u 19, u 20, u 21, u 22, u 23, u 24, u 25, u 26, u 27, u 28, u 29, u 30, u 31, u 32, u 33, u 34, u 35, u 36, u 37, u 38, u 39, u 40, s169], []⟩) (fun i => if i = 0 then s128 else if i = 1 then s129 else if i = 2 then s130 else if i = 3 then s131 else if i = 4 then s132 else if i = 5 then s133 else if i = 6 then s134 else if i = 7 then s135 else if i = 8 then s136 else if i = 9 then s137 else if i = 10 then s138 else if i = 11 then s139 else if i = 12 then s140 else if i = 13 then s141 else if i = 14 then s142 else if i = 15 then s143 else if i = 16 then s144 else if i = 17 then s145 else if i = 18 then s146 else if i = 19 then s147 else if i = 20 then s148 else if i = 21 then s149 else if i = 22 then s150 else if i = 23 then s151 else if i = 24 then s152 else if i = 25 then s153 else if i = 26 then s154 else if i = 27 then s155 else if i = 28 then s156 else if i = 29 then s157 else if i = 30 then s158 else if i = 31 then s159 else if i = 32 then s160 else if i = 33 then s161 else if i = 34 then s162 else if i = 35 then s163 else if i = 36 then s164 else if i = 37 then s165 else if i = 38 then s166 else if i = 39 then s167 else if i = 40 then s168 else undef) (fun W => Hid (S W)) (lm22cR b1 o1 c1 b2 o2 c2 b3 o3 c3 b4 o4 c4 k rl a b p q) (by kernel_rfl) (hon _ _ HL.out (Below.refl _ _).drew) (fun i v W W2 hi h hb => lm22cR_on b1 o1 c1 b2 o2 c2 b3 o3 c3 b4 o4 c4 k rl a b p q i hi v W W2 h hb) (by decide +kernel) ?_ ?_
  · iterate 41 (refine all_succ ?_ ?_)
    · exact all_zero
    · intro u W hB _ hd _ K hK
      have HK := Lib.hid hK; clear hK
      refine wpOp_of rfl (by rfl) ?_
      go_simp
      exact k_of (HK.out (.slice (some ⟨b1, o1, none⟩) rl c1) _ rfl hB (Below.refl _ _)) (by kernel_rfl)
    · intro u W hB _ hd _ K hK
      have HK := Lib.hid hK; clear hK
      refine wpOp_of rfl (by rfl) ?_
      go_simp
      exact k_of (HK.out (.int .i64 (k : Int)) _ rfl hB (Below.refl _ _)) (by kernel_rfl)
    · intro u W hB _ hd _ K hK
      have HK := Lib.hid hK; clear hK
      have e0 : u 0 = .slice (some ⟨b1, o1, none⟩) rl c1 := hd 0 (by decide +kernel)
      have e1 : u 1 = .int .i64 (k : Int) := hd 1 (by decide +kernel)
      refine wpOp_of rfl (by rfl) ?_
      go_simp
      exact k_of (HK.out (.pointer (some ⟨b1, o1 + k, none⟩)) _ rfl hB (Below.refl _ _)) (by rw [← u1_eq e0, ← u1_eq e1]; kernel_rfl)
    · intro u W hB _ hd _ K hK
      have HK := Lib.hid hK; clear hK
      have e2 : u 2 = .pointer (some ⟨b1, o1 + k, none⟩) := hd 2 (by decide +kernel)
      refine wpOp_of rfl (by rfl) ?_
      have d0 := h1 W hB.out
      go_simp
      exact k_of (HK.out (.int .i64 a) _ rfl hB (Below.refl _ _)) (by rw [← u1_eq e2]; kernel_rfl)
    · intro u W hB _ hd _ K hK
      have HK := Lib.hid hK; clear hK
      refine wpOp_of rfl (by rfl) ?_
      go_simp
      exact k_of (HK.out (.slice (some ⟨b2, o2, none⟩) rl c2) _ rfl hB (Below.refl _ _)) (by kernel_rfl)
    · intro u W hB _ hd _ K hK
      have HK := Lib.hid hK; clear hK
      refine wpOp_of rfl (by rfl) ?_
      go_simp
      exact k_of (HK.out (.int .i64 (k : Int)) _ rfl hB (Below.refl _ _)) (by kernel_rfl)
    · intro u W hB _ hd _ K hK
      have HK := Lib.hid hK; clear hK
      have e4 : u 4 = .slice (some ⟨b2, o2, none⟩) rl c2 := hd 4 (by decide +kernel)
      have e5 : u 5 = .int .i64 (k : Int) := hd 5 (by decide +kernel)
      refine wpOp_of rfl (by rfl) ?_
      go_simp
      exact k_of (HK.out (.pointer (some ⟨b2, o2 + k, none⟩)) _ rfl hB (Below.refl _ _)) (by rw [← u1_eq e4, ← u1_eq e5]; kernel_rfl)
    · intro u W hB _ hd _ K hK
      have HK := Lib.hid hK; clear hK
      have e6 : u 6 = .pointer (some ⟨b2, o2 + k, none⟩) := hd 6 (by decide +kernel)
      refine wpOp_of rfl (by rfl) ?_
      have d0 := h2 W hB.out
      go_simp
      exact k_of (HK.out (.int .i64 b) _ rfl hB (Below.refl _ _)) (by rw [← u1_eq e6]; kernel_rfl)
    · intro u W hB _ hd _ K hK
      have HK := Lib.hid hK; clear hK
      have e3 : u 3 = .int .i64 a := hd 3 (by decide +kernel)
      have e7 : u 7 = .int .i64 b := hd 7 (by decide +kernel)
      refine wpOp_of rfl (by rfl) ?_
      go_simp
      exact k_of (HK.out (.bool false) _ rfl hB (Below.refl _ _)) (by rw [← u1_eq e3, ← u1_eq e7]; kernel_rfl)
    · intro u W hB _ hd _ K hK
      have HK := Lib.hid hK; clear hK
      have e8 : u 8 = .bool false := hd 8 (by decide +kernel)
      refine wpOp_of rfl (by rfl) ?_
      go_simp
      exact k_of (HK.out (.bool false) _ rfl hB (Below.refl _ _)) (by rw [← u1_eq e8]; kernel_rfl)
    · intro u W hB _ hd _ K hK
      have HK := Lib.hid hK; clear hK
      have e9 : u 9 = .bool false := hd 9 (by decide +kernel)
      refine wpOp_of rfl (by rw [← u1_eq e9]; kernel_rfl) ?_
      go_simp
      exact k_of (HK.out (.slice (some ⟨b3, o3, none⟩) rl c3) _ rfl hB (Below.refl _ _)) (by rw [← u1_eq e9]; kernel_rfl)
    · intro u W hB _ hd _ K hK
      have HK := Lib.hid hK; clear hK
      have e9 : u 9 = .bool false := hd 9 (by decide +kernel)
      refine wpOp_of rfl (by rw [← u1_eq e9]; kernel_rfl) ?_
      go_simp
      exact k_of (HK.out (.int .i64 (k : Int)) _ rfl hB (Below.refl _ _)) (by rw [← u1_eq e9]; kernel_rfl)
    · intro u W hB _ hd _ K hK
      have HK := Lib.hid hK; clear hK
      have e9 : u 9 = .bool false := hd 9 (by decide +kernel)
      have e10 : u 10 = .slice (some ⟨b3, o3, none⟩) rl c3 := hd 10 (by decide +kernel)
      have e11 : u 11 = .int .i64 (k : Int) := hd 11 (by decide +kernel)
      refine wpOp_of rfl (by rw [← u1_eq e9]; kernel_rfl) ?_
      go_simp
      exact k_of (HK.out (.pointer (some ⟨b3, o3 + k, none⟩)) _ rfl hB (Below.refl _ _)) (by rw [← u1_eq e9, ← u1_eq e10, ← u1_eq e11]; kernel_rfl)
    · intro u W hB _ hd _ K hK
      have HK := Lib.hid hK; clear hK
      have e9 : u 9 = .bool false := hd 9 (by decide +kernel)
      have e12 : u 12 = .pointer (some ⟨b3, o3 + k, none⟩) := hd 12 (by decide +kernel)
      refine wpOp_of rfl (by rw [← u1_eq e9]; kernel_rfl) ?_
      have d0 := h3 W hB.out
      go_simp
      exact k_of (HK.out (.int .i64 p) _ rfl hB (Below.refl _ _)) (by rw [← u1_eq e9, ← u1_eq e12]; kernel_rfl)
    · intro u W hB _ hd _ K hK
      have HK := Lib.hid hK; clear hK
      have e9 : u 9 = .bool false := hd 9 (by decide +kernel)
      have e13 : u 13 = .int .i64 p := hd 13 (by decide +kernel)
      refine wpOp_of rfl (by rw [← u1_eq e9]; kernel_rfl) ?_
      go_simp
      exact k_of (HK.out (.bool false) _ rfl hB (Below.refl _ _)) (by rw [← u1_eq e9, ← u1_eq e13]; kernel_rfl)
    · intro u W hB _ hd _ K hK
      have HK := Lib.hid hK; clear hK
      have e9 : u 9 = .bool false := hd 9 (by decide +kernel)
      have e14 : u 14 = .bool false := hd 14 (by decide +kernel)
      refine wpOp_of rfl (by rw [← u1_eq e9]; kernel_rfl) ?_
      go_simp
      exact k_of (HK.out (.bool false) _ rfl hB (Below.refl _ _)) (by rw [← u1_eq e9, ← u1_eq e14]; kernel_rfl)
    · intro u W hB _ hd _ K hK
      have HK := Lib.hid hK; clear hK
      have e15 : u 15 = .bool false := hd 15 (by decide +kernel)
      refine wpOp_skip rfl (by rw [← u1_eq e15]; kernel_rfl) ?_
      exact k_of (HK.out undef _ rfl hB (Below.refl _ _)) (by rw [← u1_eq e15]; kernel_rfl)
    · intro u W hB _ hd _ K hK
      have HK := Lib.hid hK; clear hK
      have e15 : u 15 = .bool false := hd 15 (by decide +kernel)
      refine wpOp_skip rfl (by rw [← u1_eq e15]; kernel_rfl) ?_
      exact k_of (HK.out undef _ rfl hB (Below.refl _ _)) (by rw [← u1_eq e15]; kernel_rfl)
    · intro u W hB _ hd _ K hK
      have HK := Lib.hid hK; clear hK
      have e15 : u 15 = .bool false := hd 15 (by decide +kernel)
      refine wpOp_skip rfl (by rw [← u1_eq e15]; kernel_rfl) ?_
      exact k_of (HK.out undef _ rfl hB (Below.refl _ _)) (by rw [← u1_eq e15]; kernel_rfl)
    · intro u W hB _ hd _ K hK
      have HK := Lib.hid hK; clear hK
      have e15 : u 15 = .bool false := hd 15 (by decide +kernel)
      refine wpOp_skip rfl (by rw [← u1_eq e15]; kernel_rfl) ?_
      exact k_of (HK.out undef _ rfl hB (Below.refl _ _)) (by rw [← u1_eq e15]; kernel_rfl)
    · intro u W hB _ hd _ K hK
      have HK := Lib.hid hK; clear hK
      have e15 : u 15 = .bool false := hd 15 (by decide +kernel)
      refine wpOp_skip rfl (by rw [← u1_eq e15]; kernel_rfl) ?_
      exact k_of (HK.out undef _ rfl hB (Below.refl _ _)) (by rw [← u1_eq e15]; kernel_rfl)
    · intro u W hB _ hd _ K hK
      have HK := Lib.hid hK; clear hK
      have e9 : u 9 = .bool false := hd 9 (by decide +kernel)
      have e15 : u 15 = .bool false := hd 15 (by decide +kernel)
      have e20 : u 20 = undef := hd 20 (by decide +kernel)
      refine wpOp_of rfl (by rw [← u1_eq e9]; kernel_rfl) ?_
      go_simp
      exact k_of (HK.out (.bool false) _ rfl hB (Below.refl _ _)) (by rw [← u1_eq e9, ← u1_eq e15, ← u1_eq e20]; kernel_rfl)
    · intro u W hB _ hd _ K hK
      have HK := Lib.hid hK; clear hK
      have e9 : u 9 = .bool false := hd 9 (by decide +kernel)
      have e21 : u 21 = .bool false := hd 21 (by decide +kernel)
      refine wpOp_of rfl (by rfl) ?_
      go_simp
      exact k_of (HK.out (.bool false) _ rfl hB (Below.refl _ _)) (by rw [← u1_eq e9, ← u1_eq e21]; kernel_rfl)
    · intro u W hB _ hd _ K hK
      have HK := Lib.hid hK; clear hK
      have e22 : u 22 = .bool false := hd 22 (by decide +kernel)
      refine wpOp_of rfl (by rfl) ?_
      go_simp
      exact k_of (HK.out (.bool false) _ rfl hB (Below.refl _ _)) (by rw [← u1_eq e22]; kernel_rfl)
    · intro u W hB _ hd _ K hK
      have HK := Lib.hid hK; clear hK
      have e23 : u 23 = .bool false := hd 23 (by decide +kernel)
      refine wpOp_of rfl (by rw [← u1_eq e23]; kernel_rfl) ?_
      go_simp
      exact k_of (HK.out (.slice (some ⟨b4, o4, none⟩) rl c4) _ rfl hB (Below.refl _ _)) (by rw [← u1_eq e23]; kernel_rfl)
    · intro u W hB _ hd _ K hK
      have HK := Lib.hid hK; clear hK
      have e23 : u 23 = .bool false := hd 23 (by decide +kernel)
      refine wpOp_of rfl (by rw [← u1_eq e23]; kernel_rfl) ?_
      go_simp
      exact k_of (HK.out (.int .i64 (k : Int)) _ rfl hB (Below.refl _ _)) (by rw [← u1_eq e23]; kernel_rfl)
    · intro u W hB _ hd _ K hK
      have HK := Lib.hid hK; clear hK
      have e23 : u 23 = .bool false := hd 23 (by decide +kernel)
      have e24 : u 24 = .slice (some ⟨b4, o4, none⟩) rl c4 := hd 24 (by decide +kernel)
      have e25 : u 25 = .int .i64 (k : Int) := hd 25 (by decide +kernel)
      refine wpOp_of rfl (by rw [← u1_eq e23]; kernel_rfl) ?_
      go_simp
      exact k_of (HK.out (.pointer (some ⟨b4, o4 + k, none⟩)) _ rfl hB (Below.refl _ _)) (by rw [← u1_eq e23, ← u1_eq e24, ← u1_eq e25]; kernel_rfl)
    · intro u W hB _ hd _ K hK
      have HK := Lib.hid hK; clear hK
      have e23 : u 23 = .bool false := hd 23 (by decide +kernel)
      have e26 : u 26 = .pointer (some ⟨b4, o4 + k, none⟩) := hd 26 (by decide +kernel)
      refine wpOp_of rfl (by rw [← u1_eq e23]; kernel_rfl) ?_
      have d0 := h4 W hB.out
      go_simp
      exact k_of (HK.out (.int .i64 q) _ rfl hB (Below.refl _ _)) (by rw [← u1_eq e23, ← u1_eq e26]; kernel_rfl)
    · intro u W hB _ hd _ K hK
      have HK := Lib.hid hK; clear hK
      have e23 : u 23 = .bool false := hd 23 (by decide +kernel)
      have e27 : u 27 = .int .i64 q := hd 27 (by decide +kernel)
      refine wpOp_of rfl (by rw [← u1_eq e23]; kernel_rfl) ?_
      go_simp
      exact k_of (HK.out (.bool true) _ rfl hB (Below.refl _ _)) (by rw [← u1_eq e23, ← u1_eq e27]; kernel_rfl)
    · intro u W hB _ hd _ K hK
      have HK := Lib.hid hK; clear hK
      have e23 : u 23 = .bool false := hd 23 (by decide +kernel)
      have e28 : u 28 = .bool true := hd 28 (by decide +kernel)
      refine wpOp_of rfl (by rw [← u1_eq e23]; kernel_rfl) ?_
      go_simp
      exact k_of (HK.out (.bool true) _ rfl hB (Below.refl _ _)) (by rw [← u1_eq e23, ← u1_eq e28]; kernel_rfl)
    · intro u W hB _ hd _ K hK
      have HK := Lib.hid hK; clear hK
      have e29 : u 29 = .bool true := hd 29 (by decide +kernel)
      refine wpOp_of rfl (by rw [← u1_eq e29]; kernel_rfl) ?_
      go_simp
      exact k_of (HK.out (.slice (some ⟨b3, o3, none⟩) rl c3) _ rfl hB (Below.refl _ _)) (by rw [← u1_eq e29]; kernel_rfl)
    · intro u W hB _ hd _ K hK
      have HK := Lib.hid hK; clear hK
      have e29 : u 29 = .bool true := hd 29 (by decide +kernel)
      refine wpOp_of rfl (by rw [← u1_eq e29]; kernel_rfl) ?_
      go_simp
      exact k_of (HK.out (.int .i64 (k : Int)) _ rfl hB (Below.refl _ _)) (by rw [← u1_eq e29]; kernel_rfl)
    · intro u W hB _ hd _ K hK
      have HK := Lib.hid hK; clear hK
      have e29 : u 29 = .bool true := hd 29 (by decide +kernel)
      have e30 : u 30 = .slice (some ⟨b3, o3, none⟩) rl c3 := hd 30 (by decide +kernel)
      have e31 : u 31 = .int .i64 (k : Int) := hd 31 (by decide +kernel)
      refine wpOp_of rfl (by rw [← u1_eq e29]; kernel_rfl) ?_
      go_simp
      exact k_of (HK.out (.pointer (some ⟨b3, o3 + k, none⟩)) _ rfl hB (Below.refl _ _)) (by rw [← u1_eq e29, ← u1_eq e30, ← u1_eq e31]; kernel_rfl)
    · intro u W hB _ hd _ K hK
      have HK := Lib.hid hK; clear hK
      have e29 : u 29 = .bool true := hd 29 (by decide +kernel)
      have e32 : u 32 = .pointer (some ⟨b3, o3 + k, none⟩) := hd 32 (by decide +kernel)
      refine wpOp_of rfl (by rw [← u1_eq e29]; kernel_rfl) ?_
      have d0 := h3 W hB.out
      go_simp
      exact k_of (HK.out (.int .i64 p) _ rfl hB (Below.refl _ _)) (by rw [← u1_eq e29, ← u1_eq e32]; kernel_rfl)
    · intro u W hB _ hd _ K hK
      have HK := Lib.hid hK; clear hK
      have e29 : u 29 = .bool true := hd 29 (by decide +kernel)
      refine wpOp_of rfl (by rw [← u1_eq e29]; kernel_rfl) ?_
      go_simp
      exact k_of (HK.out (.slice (some ⟨b4, o4, none⟩) rl c4) _ rfl hB (Below.refl _ _)) (by rw [← u1_eq e29]; kernel_rfl)
    · intro u W hB _ hd _ K hK
      have HK := Lib.hid hK; clear hK
      have e29 : u 29 = .bool true := hd 29 (by decide +kernel)
      refine wpOp_of rfl (by rw [← u1_eq e29]; kernel_rfl) ?_
      go_simp
      exact k_of (HK.out (.int .i64 (k : Int)) _ rfl hB (Below.refl _ _)) (by rw [← u1_eq e29]; kernel_rfl)
    · intro u W hB _ hd _ K hK
      have HK := Lib.hid hK; clear hK
      have e29 : u 29 = .bool true := hd 29 (by decide +kernel)
      have e34 : u 34 = .slice (some ⟨b4, o4, none⟩) rl c4 := hd 34 (by decide +kernel)
      have e35 : u 35 = .int .i64 (k : Int) := hd 35 (by decide +kernel)
      refine wpOp_of rfl (by rw [← u1_eq e29]; kernel_rfl) ?_
      go_simp
      exact k_of (HK.out (.pointer (some ⟨b4, o4 + k, none⟩)) _ rfl hB (Below.refl _ _)) (by rw [← u1_eq e29, ← u1_eq e34, ← u1_eq e35]; kernel_rfl)
    · intro u W hB _ hd _ K hK
      have HK := Lib.hid hK; clear hK
      have e29 : u 29 = .bool true := hd 29 (by decide +kernel)
      have e36 : u 36 = .pointer (some ⟨b4, o4 + k, none⟩) := hd 36 (by decide +kernel)
      refine wpOp_of rfl (by rw [← u1_eq e29]; kernel_rfl) ?_
      have d0 := h4 W hB.out
      go_simp
      exact k_of (HK.out (.int .i64 q) _ rfl hB (Below.refl _ _)) (by rw [← u1_eq e29, ← u1_eq e36]; kernel_rfl)
    · intro u W hB _ hd _ K hK
      have HK := Lib.hid hK; clear hK
      have e29 : u 29 = .bool true := hd 29 (by decide +kernel)
      have e33 : u 33 = .int .i64 p := hd 33 (by decide +kernel)
      have e37 : u 37 = .int .i64 q := hd 37 (by decide +kernel)
      refine wpOp_of rfl (by rw [← u1_eq e29]; kernel_rfl) ?_
      go_simp
      exact k_of (HK.out (.bool false) _ rfl hB (Below.refl _ _)) (by rw [← u1_eq e29, ← u1_eq e33, ← u1_eq e37]; kernel_rfl)
    · intro u W hB _ hd _ K hK
      have HK := Lib.hid hK; clear hK
      have e23 : u 23 = .bool false := hd 23 (by decide +kernel)
      have e29 : u 29 = .bool true := hd 29 (by decide +kernel)
      have e38 : u 38 = .bool false := hd 38 (by decide +kernel)
      refine wpOp_of rfl (by rw [← u1_eq e23]; kernel_rfl) ?_
      go_simp
      exact k_of (HK.out (.bool false) _ rfl hB (Below.refl _ _)) (by rw [← u1_eq e23, ← u1_eq e29, ← u1_eq e38]; kernel_rfl)
    · intro u W hB _ hd _ K hK
      have HK := Lib.hid hK; clear hK
      have e23 : u 23 = .bool false := hd 23 (by decide +kernel)
      have e39 : u 39 = .bool false := hd 39 (by decide +kernel)
      refine wpOp_of rfl (by rfl) ?_
      go_simp
      exact k_of (HK.out (.bool false) _ rfl hB (Below.refl _ _)) (by rw [← u1_eq e23, ← u1_eq e39]; kernel_rfl)
  · intro u W hB hd
    have e40 : u 40 = .bool false := hd 40 (by decide)
    exact k_of (HQ.out u W hB.out) (by simp only [e40])
end Go.Proofs.Ytljbjcnfkbmjkaa
