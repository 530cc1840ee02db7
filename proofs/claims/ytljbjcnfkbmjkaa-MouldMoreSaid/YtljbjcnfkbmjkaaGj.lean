/- Layer mould, a part: regions of the law. No statement is proved here. -/
import Derived.Test.YtljbjcnfkbmjkaaGg
import Derived.Test.YtljbjcnfkbmjkaaMeH
import Derived.Test.YtljbjcnfkbmjkaaMg5
import Derived.Test.YtljbjcnfkbmjkaaGa
import Derived.Test.YtljbjcnfkbmjkaaGi
import Derived.Test.YtljbjcnfkbmjkaaGd
import Derived.Test.YtljbjcnfkbmjkaaMf5
import Derived.Test.YtljbjcnfkbmjkaaMg3
namespace Go.Proofs.Ytljbjcnfkbmjkaa
open Go.RowKit Go.Shelf Go.Maps

theorem spn_same (x y : Int) (W : World) : (binOp .neq 23 (.agg #[.int .i64 x, .int .i64 y]) (.agg #[.int .i64 x, .int .i64 y])).run Try.prog W = .ok (.bool false) W := by
  have := span_neq (x, y) (x, y) W
  simpa using this
theorem zip_get {a b : List Int} {k : Nat} {x y : Int} (h1 : a[k]? = some x) (h2 : b[k]? = some y) : (zipS a b)[k]? = some (x, y) := by
  unfold zipS
  rw [List.getElem?_zipWith, h1, h2]
theorem never_step {b : List Int} {k : Nat} {y : Int} (h : b[k]? = some y) : never (b.take (k + 1)) = (never (b.take k) || decide (y < 0)) := by
  unfold never
  rw [List.take_add_one, h, List.any_append]
  simp
theorem warm_ok {m : Md} (h : checkM m = 0) {N : Nat} (hN : N ≤ 600) : warmR m (N : Int) = (zipS (warmL m false N) (warmL m true N), 0) := by
  unfold warmR
  rw [if_neg (fun h2 => h2 h), if_pos (inB_iff.2 ⟨by omega, by omega⟩), Int.toNat_natCast]
theorem skin_ok {m : Md} (h : checkM m = 0) {a b : List Int} (ha : wh m false = a) (hb : wh m true = b) {N : Nat} (hN : N ≤ 600) : skinR m (N : Int) = ((setN b N, setN a N), 0) := by
  unfold skinR
  rw [if_neg (fun h2 => h2 h), if_pos (inB_iff.2 ⟨by omega, by omega⟩), ha, hb]
section
variable {m : Md}
set_option maxRecDepth 100000 in
theorem warm_law (h : checkM m = 0) {N : Nat} (hN : N ≤ 600) (W : World) :
    Calls Try.prog 23 #[.agg #[.int .i64 m.rings, .int .i64 m.give, .int .i64 m.plo, .int .i64 m.phi, .int .i64 m.wlo, .int .i64 m.whi, .int .i64 m.st, .int .i64 m.shrink, .int .i64 m.skin, .int .i64 m.fill, .int .i64 m.gap, .int .i64 m.deep], .int .i64 (N : Int)] W fun e w' => ∃ A c, e = .returned (.tuple #[.slice A (kR m) c, .int .i64 0]) ∧ SpansIn w' A (zipS (warmL m false N) (warmL m true N)) ∧ Below W.heap.size W w' :=
  (mwarm_any m N W).mono fun e w' ⟨v, he, hv, hb⟩ => by
    rw [warm_ok h hN] at he hv
    obtain ⟨A, c, rfl, hin⟩ := SpansOut.in_ hv
    rw [zip_length (by rw [warmL_length, warmL_length]), warmL_length] at he
    exact ⟨A, c, he, hin, hb⟩
theorem skin_law (h : checkM m = 0) {a b : List Int} (ha : wh m false = a) (hb : wh m true = b) {N : Nat} (hN : N ≤ 600) (W : World) :
    Calls Try.prog 29 #[.agg #[.int .i64 m.rings, .int .i64 m.give, .int .i64 m.plo, .int .i64 m.phi, .int .i64 m.wlo, .int .i64 m.whi, .int .i64 m.st, .int .i64 m.shrink, .int .i64 m.skin, .int .i64 m.fill, .int .i64 m.gap, .int .i64 m.deep], .int .i64 (N : Int)] W fun e w' => e = .returned (.tuple #[.agg #[.int .i64 (setN b N), .int .i64 (setN a N)], .int .i64 0]) ∧ Below W.heap.size W w' :=
  (mskin_any m N W).mono fun e w' ⟨he, hb2⟩ => by
    rw [skin_ok h ha hb hN] at he
    exact ⟨he, hb2⟩
set_option maxRecDepth 100000 in
theorem cool_law (hok : MdOk m) (b : Bool) {N : Nat} (hN : N ≤ 600) (W : World) (A1 : Option Addr) (d1 : Nat) (A2 : Option Addr) (d2 : Nat) (hp : IntsIn W A1 (samP m b)) (hq : IntsIn W A2 (samW m b N)) :
    Calls Try.prog 20 #[.agg #[.int .i64 m.rings, .int .i64 m.give, .int .i64 m.plo, .int .i64 m.phi, .int .i64 m.wlo, .int .i64 m.whi, .int .i64 m.st, .int .i64 m.shrink, .int .i64 m.skin, .int .i64 m.fill, .int .i64 m.gap, .int .i64 m.deep], .agg #[.slice A1 (kR m) d1, .slice A2 N d2]] W fun e w' => ∃ A c, e = .returned (.tuple #[.slice A (kR m) c, .int .i64 0]) ∧ IntsIn w' A (warmL m b N) ∧ Below W.heap.size W w' := by
  have h := cool_any (c1 := d1) (c2 := d2) m hp hq
  rw [same_cool hok b hN, samP_length, samW_length] at h
  refine h.mono fun e w' ⟨v, he, hv, hb⟩ => ?_
  obtain ⟨A, c, rfl, hin⟩ := IntsOut.in_ hv
  rw [warmL_length] at he
  exact ⟨A, c, he, hin, hb⟩
theorem sets_good (h : checkM m = 0) {a b : List Int} (ha : wh m false = a) (hb : wh m true = b) (hn : never b = false) (W : World) :
    Calls Try.prog 27 #[.agg #[.int .i64 m.rings, .int .i64 m.give, .int .i64 m.plo, .int .i64 m.phi, .int .i64 m.wlo, .int .i64 m.whi, .int .i64 m.st, .int .i64 m.shrink, .int .i64 m.skin, .int .i64 m.fill, .int .i64 m.gap, .int .i64 m.deep]] W fun e w' => ∃ A c, e = .returned (.tuple #[.slice A (kR m) c, .int .i64 0]) ∧ SpansIn w' A (zipS a b) ∧ Below W.heap.size W w' :=
  (msets_any m W).mono fun e w' ⟨v, he, hv, hb2⟩ => by
    rw [setsR_good h ha hb hn] at he hv
    obtain ⟨A, c, rfl, hin⟩ := SpansOut.in_ hv
    have hla : a.length = kR m := by rw [← ha, wh_length]
    have hlb : b.length = kR m := by rw [← hb, wh_length]
    rw [zip_length (by rw [hla, hlb]), hla] at he
    exact ⟨A, c, he, hin, hb2⟩
theorem sets_never (h : checkM m = 0) {b : List Int} (hb : wh m true = b) (hn : never b = true) (W : World) :
    Calls Try.prog 27 #[.agg #[.int .i64 m.rings, .int .i64 m.give, .int .i64 m.plo, .int .i64 m.phi, .int .i64 m.wlo, .int .i64 m.whi, .int .i64 m.st, .int .i64 m.shrink, .int .i64 m.skin, .int .i64 m.fill, .int .i64 m.gap, .int .i64 m.deep]] W fun e w' => ∃ A c, e = .returned (.tuple #[.slice A 0 c, .int .i64 9]) ∧ Below W.heap.size W w' :=
  (msets_any m W).mono fun e w' ⟨v, he, hv, hb2⟩ => by
    rw [show setsR m = ([], 9) by unfold setsR; rw [if_neg (fun h2 => h2 h), hb, if_pos hn]] at he hv
    obtain ⟨A, c, rfl, hin⟩ := SpansOut.in_ hv
    exact ⟨A, c, he, hb2⟩
end
end Go.Proofs.Ytljbjcnfkbmjkaa

namespace Go.Proofs.Ytljbjcnfkbmjkaa
open Go.RowKit Go.Shelf Go.Maps

theorem truth_in {m : Md} {ps ws : List Int} (hl : ps.length = kR m) (hw : ws.length ≤ 600) (hp : ∀ x ∈ ps, m.plo ≤ x ∧ x ≤ m.phi) (hq : ∀ x ∈ ws, m.wlo ≤ x ∧ x ≤ m.whi) : truthE m ps ws = 0 := by
  unfold truthE
  rw [if_neg (by omega), if_pos (List.all_eq_true.2 fun x hx => inB_iff.2 (hp x hx)), if_pos (List.all_eq_true.2 fun x hx => inB_iff.2 (hq x hx))]
section
variable {m : Md} {N : Nat} {tp tw : List Int}
/-- A truth of a mould, in numbers. -/
structure TrOk (m : Md) (N : Nat) (tp tw : List Int) : Prop where
  lp : tp.length = kR m
  lw : tw.length = N
  n : N ≤ 600
  p : ∀ x ∈ tp, m.plo ≤ x ∧ x ≤ m.phi
  q : ∀ x ∈ tw, m.wlo ≤ x ∧ x ≤ m.whi
theorem TrOk.tr (hok : MdOk m) (hN : N ≤ 600) (ps ws : List Int) : TrOk m N (trL m.plo m.phi ps (kR m)) (trL m.wlo m.whi ws N) :=
  ⟨trL_length _ _ _ _, trL_length _ _ _ _, hN, trL_rng hok.pour _ _, trL_rng hok.wall _ _⟩
theorem TrOk.err (h : TrOk m N tp tw) : truthE m tp tw = 0 := truth_in h.lp (by rw [h.lw]; exact h.n) h.p h.q
set_option maxRecDepth 100000 in
theorem cool_tr (hok : MdOk m) (h : TrOk m N tp tw) (W : World) (A1 : Option Addr) (d1 : Nat) (A2 : Option Addr) (d2 : Nat) (hp : IntsIn W A1 tp) (hq : IntsIn W A2 tw) :
    Calls Try.prog 20 #[.agg #[.int .i64 m.rings, .int .i64 m.give, .int .i64 m.plo, .int .i64 m.phi, .int .i64 m.wlo, .int .i64 m.whi, .int .i64 m.st, .int .i64 m.shrink, .int .i64 m.skin, .int .i64 m.fill, .int .i64 m.gap, .int .i64 m.deep], .agg #[.slice A1 (kR m) d1, .slice A2 N d2]] W fun e w' => ∃ A c, e = .returned (.tuple #[.slice A (kR m) c, .int .i64 0]) ∧ IntsIn w' A (afterL m.give tp tw) ∧ Below W.heap.size W w' := by
  have h2 := cool_any (c1 := d1) (c2 := d2) m hp hq
  rw [coolR_ok (checkM_ok.2 hok) h.err, h.lp, h.lw] at h2
  refine h2.mono fun e w' ⟨v, he, hv, hb⟩ => ?_
  obtain ⟨A, c, rfl, hin⟩ := IntsOut.in_ hv
  rw [afterL_length, h.lp] at he
  exact ⟨A, c, he, hin, hb⟩
theorem when_tr (hok : MdOk m) (h : TrOk m N tp tw) (W : World) (A1 : Option Addr) (d1 : Nat) (A2 : Option Addr) (d2 : Nat) (hp : IntsIn W A1 tp) (hq : IntsIn W A2 tw) :
    Calls Try.prog 40 #[.agg #[.int .i64 m.rings, .int .i64 m.give, .int .i64 m.plo, .int .i64 m.phi, .int .i64 m.wlo, .int .i64 m.whi, .int .i64 m.st, .int .i64 m.shrink, .int .i64 m.skin, .int .i64 m.fill, .int .i64 m.gap, .int .i64 m.deep], .agg #[.slice A1 (kR m) d1, .slice A2 N d2]] W fun e w' => ∃ A c, e = .returned (.slice A (kR m) c) ∧ IntsIn w' A (whenM m tp tw) ∧ Below W.heap.size W w' := by
  have hk := kR_le hok.toMdIn
  have h1 := hok.plo; have h2 := hok.phi; have h3 := hok.wlo; have h4 := hok.whi
  have hh := rwhen_any (c1 := d1) (c2 := d2) m hok.toMdIn hp hq (by rw [h.lp]; omega) (by rw [h.lp]; omega) (by rw [h.lw]; exact h.n) (fun x hx => by have := h.p x hx; omega) (fun x hx => by have := h.q x hx; omega)
  rw [whenM_length, h.lp, h.lw] at hh
  exact hh
theorem truth_law (hok : MdOk m) {w : World} {Y1 Y2 : Option Addr} {c1 c2 : Nat} {ps ws : List Int} (hp : U16In w Y1 ps) (hq : U16In w Y2 ws) (hN : N ≤ 600) {W : World} (hb : Below w.heap.size w W) :
    Calls Try.prog 38 #[.agg #[.int .i64 m.rings, .int .i64 m.give, .int .i64 m.plo, .int .i64 m.phi, .int .i64 m.wlo, .int .i64 m.whi, .int .i64 m.st, .int .i64 m.shrink, .int .i64 m.skin, .int .i64 m.fill, .int .i64 m.gap, .int .i64 m.deep], .int .i64 (N : Int), .agg #[.slice Y1 ps.length c1, .slice Y2 ws.length c2]] W fun e w' => ∃ B1 d1 B2 d2, e = .returned (.agg #[.slice B1 (kR m) d1, .slice B2 N d2]) ∧ IntsIn w' B1 (trL m.plo m.phi ps (kR m)) ∧ IntsIn w' B2 (trL m.wlo m.whi ws N) ∧ Below W.heap.size W w' :=
  ltruth_any hok N hN (hp.on hb) (hq.on hb)
end
theorem when_ab {m : Md} (hok : MdOk m) {a b tp tw : List Int} {N : Nat} (ha : wh m false = a) (hb : wh m true = b) (h : TrOk m N tp tw) (hN : N = 600) : Wle a (whenM m tp tw) ∧ Wle (whenM m tp tw) b := by
  have h2 := when_between hok.toMdIn h.lp (by rw [h.lw]; exact hN) h.p h.q
  rw [ha, hb] at h2
  exact h2
theorem after_ab {m : Md} (hok : MdOk m) {tp tw : List Int} {N : Nat} (h : TrOk m N tp tw) : Lle (warmL m false N) (afterL m.give tp tw) ∧ Lle (afterL m.give tp tw) (warmL m true N) := by
  have h2 := after_between hok.toMdIn h.lp h.p h.q
  rw [h.lw] at h2
  exact h2
/-- The mould, and the turns. -/
structure LtA (w : World) (m : Md) (Y1 : Option Addr) (n1 c1 : Nat) (Y2 : Option Addr) (n2 c2 : Nat) (W : World) : Prop where
  bm : MdBk w w.heap.size 25 m W
  y : Blk W (w.heap.size + 1) 58 #[.slice Y1 n1 c1, .slice Y2 n2 c2]
theorem LtA.on {w W W' : World} {m : Md} {Y1 Y2 : Option Addr} {n1 c1 n2 c2 : Nat} (h : LtA w m Y1 n1 c1 Y2 n2 c2 W) (hb : Below W.heap.size W W') : LtA w m Y1 n1 c1 Y2 n2 c2 W' := ⟨h.bm.on hb, h.y.on hb⟩
theorem LtA.new (w : World) (m : Md) (Y1 : Option Addr) (n1 c1 : Nat) (Y2 : Option Addr) (n2 c2 : Nat) : LtA w m Y1 n1 c1 Y2 n2 c2 ((w.alloc (.cells #[.int .i64 m.rings, .int .i64 m.give, .int .i64 m.plo, .int .i64 m.phi, .int .i64 m.wlo, .int .i64 m.whi, .int .i64 m.st, .int .i64 m.shrink, .int .i64 m.skin, .int .i64 m.fill, .int .i64 m.gap, .int .i64 m.deep] 25)).alloc (.cells #[.slice Y1 n1 c1, .slice Y2 n2 c2] 58)) :=
  ⟨⟨(Blk.new w _ _).alloc _, ((Below.refl _ w).alloc (Nat.le_refl _) _).alloc (by simp) _⟩, Blk.new1 w _ _ _⟩
/-- Each number is in its range. -/
theorem lle_in {lo l hi : List Int} (h1 : Lle lo l) (h2 : Lle l hi) {k : Nat} {x p q : Int} (hx : l[k]? = some x) (hp : lo[k]? = some p) (hq : hi[k]? = some q) : inB x p q = true := inB_iff.2 ⟨h1.get hp hx, h2.get hx hq⟩
theorem wle_in {lo l hi : List Int} (h1 : Wle lo l) (h2 : Wle l hi) {k : Nat} {x p q : Int} (hx : l[k]? = some x) (hp : lo[k]? = some p) (hq : hi[k]? = some q) (h0 : 0 ≤ q) : inB x p q = true := by
  have h3 := h1.get hp hx
  have h4 := h2.get hx hq
  exact inB_iff.2 ⟨by omega, by omega⟩
end Go.Proofs.Ytljbjcnfkbmjkaa

namespace Go.Proofs.Ytljbjcnfkbmjkaa

theorem gat_take {t : Int} : ∀ {ss ws : List Int} {k : Nat} {s a : Int}, ss[k]? = some s → ws[k]? = some a → gat (ss.take (k + 1)) (ws.take (k + 1)) t = gat (ss.take k) (ws.take k) t + (if a = t then s else 0)
  | [], _, k, s, a, h, _ => by simp at h
  | _ :: _, [], k, s, a, _, h => by simp at h
  | s0 :: ss, a0 :: ws, 0, s, a, h1, h2 => by
    simp only [List.getElem?_cons_zero, Option.some.injEq] at h1 h2
    subst h1 h2
    simp [gat]
  | s0 :: ss, a0 :: ws, k + 1, s, a, h1, h2 => by
    simp only [List.getElem?_cons_succ] at h1 h2
    have := gat_take (t := t) h1 h2
    simp only [List.take_succ_cons, gat, this]
    omega
theorem gat_bounds {t : Int} : ∀ (ss ws : List Int), (∀ s ∈ ss, 0 ≤ s ∧ s ≤ 3000) → 0 ≤ gat ss ws t ∧ gat ss ws t ≤ 3000 * (ss.length : Int)
  | [], _, _ => by simp [gat]
  | s :: ss, [], _ => by simp only [gat, List.length_cons]; omega
  | s :: ss, a :: ws, h => by
    have h1 := gat_bounds (t := t) ss ws (fun x hx => h x (by simp [hx]))
    have h2 := h s (by simp)
    simp only [gat, List.length_cons]
    split <;> omega
theorem shrL_get {m : Md} {i : Nat} (hi : i < kR m) : (shrL m)[i]? = some (shrV m i) := by
  unfold shrL
  rw [List.getElem?_map, List.getElem?_range hi]; rfl
theorem shrL_mem {m : Md} (h : MdIn m) : ∀ s ∈ shrL m, 0 ≤ s ∧ s ≤ 3000 := by
  intro s hs
  simp only [shrL, List.mem_map, List.mem_range] at hs
  obtain ⟨i, hi, rfl⟩ := hs
  exact shrV_nonneg h hi
/-- What sets in just this minute, of the first k rings. -/
def gatN (m : Md) (w : List Int) (n : Int) (k : Nat) : Int := gat ((shrL m).take k) (w.take k) n
theorem gatN_zero (m : Md) (w : List Int) (n : Int) : gatN m w n 0 = 0 := by simp [gatN, gat]
theorem gatN_step {m : Md} {w : List Int} {n a : Int} {k : Nat} (hk : k < kR m) (ha : w[k]? = some a) : gatN m w n (k + 1) = gatN m w n k + (if a = n then shrV m k else 0) := gat_take (shrL_get hk) ha
theorem gatN_end {m : Md} {w : List Int} {n : Int} (h : w.length = kR m) : gatN m w n (kR m) = gat (shrL m) w n := by
  unfold gatN
  rw [List.take_of_length_le (by rw [shrL_length]; exact Nat.le_refl _), List.take_of_length_le (by omega)]
theorem gatN_bounds {m : Md} (h : MdIn m) (w : List Int) (n : Int) (k : Nat) : 0 ≤ gatN m w n k ∧ gatN m w n k ≤ 24000 := by
  have h1 := gat_bounds (t := n) ((shrL m).take k) (w.take k) (fun s hs => shrL_mem h s (List.mem_of_mem_take hs))
  have h2 : ((shrL m).take k).length ≤ 8 := by
    rw [List.length_take, shrL_length]
    have := kR_le h
    omega
  unfold gatN
  omega
theorem pourK_append (f n : Int) : ∀ (a b : List Int) (s : Int × Int), pourK f n (a ++ b) s = pourK f n b (pourK f n a s)
  | [], _, _ => rfl
  | t :: a, b, s => by rw [List.cons_append, pourK, pourK_append f n a b, pourK]
theorem pourK_take {f n x : Int} {l : List Int} {k : Nat} (hx : l[k]? = some x) (s : Int × Int) :
    pourK f n (l.take (k + 1)) s = if x = n then ((pourK f n (l.take k) s).1 - min f (pourK f n (l.take k) s).1, (pourK f n (l.take k) s).2 + min f (pourK f n (l.take k) s).1) else pourK f n (l.take k) s := by
  rw [List.take_add_one, hx, pourK_append]
  rfl
/-- Hollow and what was poured, ahead of minute k. -/
structure EndAt (m : Md) (w l : List Int) (k : Nat) (H P : Int) : Prop where
  h : H = gM m w ((k : Int) - 1) - endP m w l k
  p : P = endP m w l k
  h0 : 0 ≤ H
  p0 : 0 ≤ P
  s : H + P ≤ 24000
theorem EndAt.start (m : Md) (w : List Int) {l : List Int} (hl : ∀ t ∈ l, 0 ≤ t) : EndAt m w l 0 0 0 := by
  have h1 := endP_zero m w hl
  have h2 : gM m w (-1) = 0 := gM_neg (by decide)
  exact ⟨by show (0 : Int) = gM m w (-1) - endP m w l 0; rw [h1, h2]; rfl, h1.symm, by decide, by decide, by decide⟩
/-- A minute on. -/
theorem EndAt.step {m : Md} (hm : MdIn m) {w l : List Int} (hw : w.length = kR m) (ha : Asc l) {k : Nat} {H P H2 P2 : Int} (e : EndAt m w l k H P) (hp : (H2, P2) = pourK m.fill k l (H + gatN m w k (kR m), P)) (h0 : 0 ≤ H2) (p0 : 0 ≤ P2) : EndAt m w l (k + 1) H2 P2 := by
  have h1 : H + gatN m w k (kR m) = gM m w k - endP m w l k := by
    have h2 := e.h
    have h3 := gM_step m w (n := (k : Int)) (by omega)
    rw [gatN_end hw]
    omega
  rw [h1, e.p, endP_step m w ha] at hp
  simp only [Prod.mk.injEq] at hp
  have hb := gM_bounds hm w k
  refine ⟨?_, ?_, h0, p0, ?_⟩
  · rw [show ((k + 1 : Nat) : Int) - 1 = k by omega]; exact hp.1
  · exact hp.2
  · have := hp.1; have := hp.2; omega
/-- .. of the toppings of a minute. -/
theorem pour_in {m : Md} (hm : MdIn m) {w l : List Int} (hw : w.length = kR m) {k : Nat} {H P : Int} (e : EndAt m w l k H P) : 0 ≤ H + gatN m w k (kR m) ∧ H + gatN m w k (kR m) + P ≤ 24000 := by
  have h2 := e.h
  have h3 := gM_step m w (n := (k : Int)) (by omega)
  have h4 := gatN_bounds hm w k (kR m)
  have h5 := e.h0
  have h6 := e.p
  have hb := gM_bounds hm w k
  rw [gatN_end hw] at h4 ⊢
  omega
theorem EndAt.done {m : Md} {w l : List Int} (hl : ∀ t ∈ l, t < 601) {H P : Int} (e : EndAt m w l 601 H P) : H = hollM m w l ∧ P = pourM m w l := by
  have h1 := endP_end m w hl
  have h2 := e.h
  have h3 := e.p
  have h4 : endP m w l ((601 : Nat) : Int) = pourM m w l := h1
  rw [h4] at h2 h3
  exact ⟨h2, h3⟩
end Go.Proofs.Ytljbjcnfkbmjkaa

namespace Go.Proofs.Ytljbjcnfkbmjkaa
open Go.RowKit Go.Shelf

/-- What lies in memory: the mould, when rings set, the plan. -/
structure EnB (w : World) (m : Md) (A B : Option Addr) (wn l : List Int) (W : World) : Prop where
  bm : MdBk w w.heap.size 25 m W
  a : IntsIn W A wn
  b : IntsIn W B l
theorem EnB.on {w W W' : World} {m : Md} {A B : Option Addr} {wn l : List Int} (h : EnB w m A B wn l W) (hb : Below W.heap.size W W') : EnB w m A B wn l W' := ⟨h.bm.on hb, h.a.on hb, h.b.on hb⟩
set_option maxRecDepth 100000 in
set_option maxHeartbeats 4000000 in
theorem rend_any {w : World} {m : Md} (hm : MdIn m) {A B : Option Addr} {c d : Nat} {wn l : List Int} (hA : IntsIn w A wn) (hB : IntsIn w B l) (hw : wn.length = kR m) (hl : l.length ≤ 100000) (ha : Asc l) (hr : ∀ t ∈ l, 0 ≤ t ∧ t ≤ 600) :
    Calls Try.prog 44 #[.agg #[.int .i64 m.rings, .int .i64 m.give, .int .i64 m.plo, .int .i64 m.phi, .int .i64 m.wlo, .int .i64 m.whi, .int .i64 m.st, .int .i64 m.shrink, .int .i64 m.skin, .int .i64 m.fill, .int .i64 m.gap, .int .i64 m.deep], .slice A (kR m) c, .slice B l.length d] w fun e w' => e = .returned (.tuple #[.int .i64 (hollM m wn l), .int .i64 (pourM m wn l)]) ∧ Below w.heap.size w w' := by
  have HM : Hid (EnB w m A B wn l (w.alloc (.cells #[.int .i64 m.rings, .int .i64 m.give, .int .i64 m.plo, .int .i64 m.phi, .int .i64 m.wlo, .int .i64 m.whi, .int .i64 m.st, .int .i64 m.shrink, .int .i64 m.skin, .int .i64 m.fill, .int .i64 m.gap, .int .i64 m.deep] 25))) := by
    have h := MdBk.new w 25 m
    exact ⟨h, hA.on h.b, hB.on h.b⟩
  have HE0 := Lib.hid (EndAt.start m wn (fun t ht => (hr t ht).1))
  have HD := Lib.hid (fun (H P : Int) (e : EndAt m wn l 601 H P) => e.done (fun t ht => by have := hr t ht; omega))
  have HG := Lib.hid (fun (n : Int) (k : Nat) => gatN_bounds hm wn n k)
  have HST := Lib.hid (fun (k : Nat) (H P H2 P2 : Int) (e : EndAt m wn l k H P) => e.step hm hw ha (H2 := H2) (P2 := P2))
  have HPI := Lib.hid (fun (k : Nat) (H P : Int) (e : EndAt m wn l k H P) => pour_in hm hw e)
  have HSH := Lib.hid (fun (i : Nat) (hi : i < kR m) (W : World) => rshrinks_any hm hi W)
  have HSV := Lib.hid (fun (i : Nat) (hi : i < kR m) => shrV_nonneg hm hi)
  have hk8 : kR m ≤ 8 := (kR_le hm).2
  have HF := Lib.hid hm.fill
  have HLW := Lib.hid hw
  obtain ⟨M, hM⟩ : ∃ M : Nat, M = 600 := ⟨_, rfl⟩
  clear hA hB hr ha hw hm
  go_enter Try.func44, Try.ntmps44
  go_wp2_with fail
  go_loopw [8, 9, 10] (fun h p n W => ∃ (k : Nat) (H P : Int), k ≤ M + 1 ∧ n = .int .i64 k ∧ h = .int .i64 H ∧ p = .int .i64 P ∧ Hid (EndAt m wn l k H P) ∧ Hid (EnB w m A B wn l W)) (fun _ _ i _ => M + 1 - (intOf i).toNat)
  case atStart => exact ⟨0, 0, 0, Nat.zero_le _, rfl, rfl, rfl, HE0, HM⟩
  case round =>
    obtain ⟨k, H, P, hk, rfl, rfl, rfl, HE, HB⟩ := hrel
    clear HE0 HM
    by_cases hlt : k ≤ M
    · have hlt' : (k : Int) ≤ 600 := by omega
      have hH := HE.out.h0
      have hHs := HE.out.s
      have hP := HE.out.p0
      go_wp2_with fail
      have HX0 : Hid (H = H + gatN m wn k 0) := by show H = H + gatN m wn k 0; rw [gatN_zero]; omega
      go_loopw [8, 11] (fun h i W => ∃ (q : Nat) (X : Int), q ≤ kR m ∧ i = .int .i64 q ∧ h = .int .i64 X ∧ Hid (X = H + gatN m wn k q) ∧ Hid (EnB w m A B wn l W)) (fun _ i _ => kR m - (intOf i).toNat)
      case atStart => exact ⟨0, H, Nat.zero_le _, rfl, rfl, HX0, HB⟩
      case round =>
        obtain ⟨q, X, hq, rfl, rfl, HX, HC⟩ := hrel
        clear HB HX0
        by_cases hlq : q < kR m
        · have hlq' : (q : Int) < kR m := by omega
          obtain ⟨a, ha⟩ : ∃ a, wn[q]? = some a := ⟨wn[q]'(by rw [HLW.out]; exact hlq), List.getElem?_eq_getElem _⟩
          obtain ⟨b1, o1, rfl, _, ca⟩ := ints_at HC.out.a.at_ ha
          have HN := Lib.hid (gatN_step (n := (k : Int)) hlq ha)
          have hX : 0 ≤ X ∧ X ≤ 48000 := by have := HX.out; have := HG.out k q; omega
          have hS := HSV.out q hlq
          clear ha
          by_cases hak : a = k
          · have hak' : (a == (k : Int)) = true := by simpa using hak
            have HX2 : Hid (X + shrV m q = H + gatN m wn k (q + 1)) := by
              show X + shrV m q = H + gatN m wn k (q + 1)
              have h1 := HN.out
              rw [if_pos hak] at h1
              have := HX.out
              omega
            have HS1 := Lib.hid (fun W => HSH.out q hlq W)
            obtain ⟨c0, c1, c2, c3, c4, c5, c6, c7, c8, c9, c10, c11⟩ := HC.out.bm.cells
            clear hak
            generalize shrV m q = sv at *
            go_wp2_with (first
              | (go_at_call 45; (with_reducible refine (HS1.out _).mono ?_); rintro e w3 ⟨rfl, hb3⟩; have HC3 := Lib.hid (HC.out.on hb3); clear hb3; clear c0 c1 c2 c3 c4 c5 c6 c7 c8 c9 c10 c11 ca)
              | fail)
            go_roundw
            case rel => exact ⟨q + 1, X + sv, Nat.succ_le_of_lt hlq, by go_num, by go_num, HX2, HC3⟩
            case measure => exact meas_one hlq
          · have hak' : (a == (k : Int)) = false := by simpa using hak
            have HX2 : Hid (X = H + gatN m wn k (q + 1)) := by
              show X = H + gatN m wn k (q + 1)
              have h1 := HN.out
              rw [if_neg hak] at h1
              have := HX.out
              omega
            clear hak
            go_wp2_with fail
            go_roundw
            case rel => exact ⟨q + 1, X, Nat.succ_le_of_lt hlq, by go_num, rfl, HX2, HC⟩
            case measure => exact meas_one hlq
        · obtain rfl : q = kR m := by omega
          have hn2 : ¬ ((kR m : Int) < (kR m : Int)) := by omega
          have hpi := HPI.out k H P HE.out
          rw [← HX.out] at hpi
          have HY0 : Hid ((X, P) = pourK m.fill k (l.take 0) (X, P)) := rfl
          have hf := HF.out
          go_wp2_with fail
          go_loopw [8, 9, 12] (fun h p i W => ∃ (q : Nat) (Y Z : Int), q ≤ l.length ∧ i = .int .i64 q ∧ h = .int .i64 Y ∧ p = .int .i64 Z ∧ Hid ((Y, Z) = pourK m.fill k (l.take q) (X, P)) ∧ 0 ≤ Y ∧ 0 ≤ Z ∧ Y + Z ≤ 24000 ∧ Hid (EnB w m A B wn l W)) (fun _ _ i _ => l.length - (intOf i).toNat)
          case atStart => exact ⟨0, X, P, Nat.zero_le _, rfl, rfl, rfl, HY0, hpi.1, hP, hpi.2, HC⟩
          case round =>
            obtain ⟨q, Y, Z, hq2, rfl, rfl, rfl, HY, hY, hZ, hYZ, HD2⟩ := hrel
            clear HC HY0
            by_cases hlq : q < l.length
            · have hlq' : (q : Int) < l.length := by omega
              obtain ⟨a, ha⟩ : ∃ a, l[q]? = some a := ⟨l[q], List.getElem?_eq_getElem hlq⟩
              obtain ⟨b1, o1, rfl, _, ca⟩ := ints_at HD2.out.b.at_ ha
              have HN := Lib.hid (pourK_take (f := m.fill) (n := (k : Int)) ha (X, P))
              clear ha
              by_cases hak : a = k
              · have hak' : (a == (k : Int)) = true := by simpa using hak
                have c9 := HD2.out.bm.bk.cell 9
                have hl := HD2.out.bm.bk.lt
                have HY2 : Hid ((Y - min m.fill Y, Z + min m.fill Y) = pourK m.fill k (l.take (q + 1)) (X, P)) := by
                  show _ = _
                  rw [HN.out, if_pos hak, ← HY.out]
                clear hak
                by_cases hmn : m.fill ≤ Y
                · rw [show min m.fill Y = m.fill by omega] at HY2
                  go_wp2_with fail
                  go_roundw
                  case rel => exact ⟨q + 1, Y - m.fill, Z + m.fill, Nat.succ_le_of_lt hlq, by go_num, by go_num, by go_num, HY2, by omega, by omega, by omega, HD2⟩
                  case measure => exact meas_one hlq
                · rw [show min m.fill Y = Y by omega] at HY2
                  go_wp2_with fail
                  go_roundw
                  case rel => exact ⟨q + 1, Y - Y, Z + Y, Nat.succ_le_of_lt hlq, by go_num, by go_num, by go_num, HY2, by omega, by omega, by omega, HD2⟩
                  case measure => exact meas_one hlq
              · have hak' : (a == (k : Int)) = false := by simpa using hak
                have HY2 : Hid ((Y, Z) = pourK m.fill k (l.take (q + 1)) (X, P)) := by
                  show _ = _
                  rw [HN.out, if_neg hak, ← HY.out]
                clear hak
                go_wp2_with fail
                go_roundw
                case rel => exact ⟨q + 1, Y, Z, Nat.succ_le_of_lt hlq, by go_num, rfl, rfl, HY2, hY, hZ, hYZ, HD2⟩
                case measure => exact meas_one hlq
            · obtain rfl : q = l.length := by omega
              have hn3 : ¬ ((l.length : Int) < (l.length : Int)) := by omega
              have HE2 : Hid (EndAt m wn l (k + 1) Y Z) := HST.out k H P Y Z HE.out (by
                have h := HY.out
                rw [List.take_of_length_le (Nat.le_refl _), HX.out] at h
                exact h) hY hZ
              go_wp2_with fail
              go_roundw
              case rel => exact ⟨k + 1, Y, Z, by omega, by go_num, rfl, rfl, HE2, HD2⟩
              case measure => exact meas_one (by omega)
    · obtain rfl : k = M + 1 := by omega
      have hn2 : ¬ (((M + 1 : Nat) : Int) ≤ 600) := by omega
      have hE : EndAt m wn l 601 H P := by have h := HE.out; rw [hM] at h; exact h
      have HDD := Lib.hid (HD.out H P hE)
      clear HE hE
      obtain ⟨h1, h2⟩ := HDD.out
      clear HDD
      subst h1 h2
      go_wp2_with fail
      go_ret2
      exact ⟨rfl, HB.out.bm.b⟩
end Go.Proofs.Ytljbjcnfkbmjkaa

namespace Go.Proofs.Ytljbjcnfkbmjkaa
open Go.RowKit Go.Shelf Go.Maps

theorem spn_eq (x y : Int) (W : World) : (binOp .eql 23 (.agg #[.int .i64 x, .int .i64 y]) (.agg #[.int .i64 x, .int .i64 y])).run Try.prog W = .ok (.bool true) W := by
  have := span_eql (x, y) (x, y) W
  simpa using this
theorem few_split {m : Md} {bl : List Int} {be : Int} (hf : fewR m = (bl, be)) : (be ≠ 0 ∧ bl = []) ∨ (be = 0 ∧ MdOk m ∧ never (wh m true) = false ∧ Best m bl) := by
  by_cases h : checkM m = 0
  · have hok := checkM_ok.1 h
    obtain ⟨b, hb⟩ : ∃ b, wh m true = b := ⟨_, rfl⟩
    cases hn : never b with
    | true =>
      rw [fewR_never h hb hn] at hf
      cases hf
      exact .inl ⟨by decide, rfl⟩
    | false =>
      rw [← hb] at hn
      rcases few_cases hok hn with ⟨j, _, h2, h3, _⟩ | ⟨h2, _⟩
      · rw [h2] at hf
        obtain ⟨rfl, rfl⟩ : lateL m.gap j (lastAt m (wh m false) 601) = bl ∧ 0 = be := by simpa using hf
        exact .inr ⟨rfl, hok, hn, h3⟩
      · rw [h2] at hf
        cases hf
        exact .inl ⟨by decide, rfl⟩
  · rw [fewR_bad h] at hf
    cases hf
    exact .inl ⟨h, rfl⟩
theorem Best.plan {m : Md} {l : List Int} (h : Best m l) : planE m l = 0 := planE_ok.2 ⟨h.len, h.rng, h.gaps⟩
theorem planE_asc {m : Md} (hm : MdIn m) {l : List Int} (h : planE m l = 0) : l.length ≤ 100000 ∧ Asc l ∧ ∀ t ∈ l, 0 ≤ t ∧ t ≤ 600 := by
  obtain ⟨h1, h2, h3⟩ := planE_ok.1 h
  exact ⟨by omega, h3.asc hm.gap.1, h2⟩
/-- What a truth's minutes say of a plan. -/
structure WOk (m : Md) (a b wl : List Int) : Prop where
  ok : MdOk m
  la : a.length = kR m
  lb : b.length = kR m
  lw : wl.length = kR m
  ab : Wle a wl
  wb : Wle wl b
  fa : Bef 601 a
  fb : Bef 601 b
  fw : Bef 601 wl
  nev : never b = false
theorem WOk.of {m : Md} (hok : MdOk m) {a b tp tw : List Int} {N : Nat} (ha : wh m false = a) (hb : wh m true = b) (h : TrOk m N tp tw) (hN : N = 600) (hn : never b = false) : WOk m a b (whenM m tp tw) := by
  obtain ⟨h1, h2⟩ := when_ab hok ha hb h hN
  have h3 := whenM_bef m tp tw
  rw [h.lw, hN] at h3
  exact ⟨hok, by rw [← ha, wh_length], by rw [← hb, wh_length], by rw [whenM_length, h.lp], h1, h2, by rw [← ha]; exact wh_bef m false, by rw [← hb]; exact wh_bef m true, h3, hn⟩
section
variable {m : Md} {a b wl l : List Int}
theorem WOk.pours (h : WOk m a b wl) (hp : pours m a l = true) : pours m wl l = true := pours_mono h.ab hp
theorem WOk.never (h : WOk m a b wl) : never wl = false := never_mono h.wb h.nev
theorem WOk.holl (h : WOk m a b wl) (l : List Int) : hollM m a l ≤ hollM m wl l ∧ hollM m wl l ≤ hollM m b l :=
  ⟨holl_mono h.ok.toMdIn h.ab h.la h.never h.fa h.fw l, holl_mono h.ok.toMdIn h.wb h.lw h.nev h.fw h.fb l⟩
theorem WOk.pour (h : WOk m a b wl) (l : List Int) : pourM m b l ≤ pourM m wl l ∧ pourM m wl l ≤ pourM m a l :=
  ⟨pourM_mono h.ok.toMdIn h.wb l, pourM_mono h.ok.toMdIn h.ab l⟩
theorem WOk.sum (h : WOk m a b wl) (l : List Int) : hollM m wl l + pourM m wl l = sumL (shrL m) ∧ hollM m a l + pourM m a l = sumL (shrL m) ∧ hollM m b l + pourM m b l = sumL (shrL m) := by
  have h1 := holl_end h.lw h.never h.fw l
  have h2 := holl_end h.la (never_mono h.ab h.never) h.fa l
  have h3 := holl_end h.lb h.nev h.fb l
  omega
end
section
variable {m : Md}
theorem few_law {bl : List Int} {be : Int} (hf : fewR m = (bl, be)) (W : World) :
    Calls Try.prog 33 #[.agg #[.int .i64 m.rings, .int .i64 m.give, .int .i64 m.plo, .int .i64 m.phi, .int .i64 m.wlo, .int .i64 m.whi, .int .i64 m.st, .int .i64 m.shrink, .int .i64 m.skin, .int .i64 m.fill, .int .i64 m.gap, .int .i64 m.deep]] W fun e w' => ∃ A c, e = .returned (.tuple #[.slice A bl.length c, .int .i64 be]) ∧ IntsIn w' A bl ∧ Below W.heap.size W w' :=
  (fewest_any m W).mono fun e w' ⟨v, he, hv, hb⟩ => by
    rw [hf] at he hv
    obtain ⟨A, c, rfl, hin⟩ := IntsOut.in_ hv
    exact ⟨A, c, he, hin, hb⟩
theorem end_law (hm : MdIn m) {wl l : List Int} (hw : wl.length = kR m) (h : planE m l = 0) {k n : Nat} (hk : kR m = k) (hn : l.length = n) (W : World) (A : Option Addr) (c : Nat) (B : Option Addr) (d : Nat) (hA : IntsIn W A wl) (hB : IntsIn W B l) :
    Calls Try.prog 44 #[.agg #[.int .i64 m.rings, .int .i64 m.give, .int .i64 m.plo, .int .i64 m.phi, .int .i64 m.wlo, .int .i64 m.whi, .int .i64 m.st, .int .i64 m.shrink, .int .i64 m.skin, .int .i64 m.fill, .int .i64 m.gap, .int .i64 m.deep], .slice A k c, .slice B n d] W fun e w' => e = .returned (.tuple #[.int .i64 (hollM m wl l), .int .i64 (pourM m wl l)]) ∧ Below W.heap.size W w' := by
  obtain ⟨h1, h2, h3⟩ := planE_asc hm h
  subst hk hn
  exact rend_any hm hA hB hw h1 h2 h3
theorem pours_law {wl l : List Int} (hw : wl.length = kR m) {k n : Nat} (hk : kR m = k) (hn : l.length = n) {q : Bool} (hq : pours m wl l = q) (W : World) (A : Option Addr) (c : Nat) (B : Option Addr) (d : Nat) (hA : IntsIn W A wl) (hB : IntsIn W B l) :
    Calls Try.prog 46 #[.agg #[.int .i64 m.rings, .int .i64 m.give, .int .i64 m.plo, .int .i64 m.phi, .int .i64 m.wlo, .int .i64 m.whi, .int .i64 m.st, .int .i64 m.shrink, .int .i64 m.skin, .int .i64 m.fill, .int .i64 m.gap, .int .i64 m.deep], .slice A k c, .slice B n d] W fun e w' => e = .returned (.bool q) ∧ Below W.heap.size W w' := by
  subst hn hq
  rw [← hk, ← hw]
  exact rpours_any m hA hB
theorem plan_law {l : List Int} {n : Nat} (hn : l.length = n) {q : Int} (hq : planE m l = q) (W : World) (B : Option Addr) (d : Nat) (hB : IntsIn W B l) :
    Calls Try.prog 43 #[.agg #[.int .i64 m.rings, .int .i64 m.give, .int .i64 m.plo, .int .i64 m.phi, .int .i64 m.wlo, .int .i64 m.whi, .int .i64 m.st, .int .i64 m.shrink, .int .i64 m.skin, .int .i64 m.fill, .int .i64 m.gap, .int .i64 m.deep], .slice B n d] W fun e w' => e = .returned (.int .i64 q) ∧ Below W.heap.size W w' := by
  subst hn hq
  exact rplan_any m hB
theorem hollow_law {l : List Int} {n : Nat} (hn : l.length = n) {x1 x2 x3 x4 e0 : Int} (hx : hollR m l = (((x1, x2), (x3, x4)), e0)) (W : World) (B : Option Addr) (d : Nat) (hB : IntsIn W B l) :
    Calls Try.prog 31 #[.agg #[.int .i64 m.rings, .int .i64 m.give, .int .i64 m.plo, .int .i64 m.phi, .int .i64 m.wlo, .int .i64 m.whi, .int .i64 m.st, .int .i64 m.shrink, .int .i64 m.skin, .int .i64 m.fill, .int .i64 m.gap, .int .i64 m.deep], .slice B n d] W fun e w' => e = .returned (.tuple #[.agg #[.int .i64 x1, .int .i64 x2, .int .i64 x3, .int .i64 x4], .int .i64 e0]) ∧ Below W.heap.size W w' := by
  subst hn
  have h := hollow_any (c := d) m hB
  rw [hx] at h
  exact h
end
end Go.Proofs.Ytljbjcnfkbmjkaa

namespace Go.Proofs.Ytljbjcnfkbmjkaa
open Go.RowKit Go.Shelf Go.Maps
attribute [local go_sem] Oper.semAt_some

/-- What each operation leaves. -/
def ls4R (m : Md) (N : Nat) (Y1 : Option Addr) (n1 c1 : Nat) (Y2 : Option Addr) (n2 c2 : Nat) (tp tw wl : List Int) : Nat → Value → World → Prop
  | 0, v, _ => v = .agg #[.int .i64 m.rings, .int .i64 m.give, .int .i64 m.plo, .int .i64 m.phi, .int .i64 m.wlo, .int .i64 m.whi, .int .i64 m.st, .int .i64 m.shrink, .int .i64 m.skin, .int .i64 m.fill, .int .i64 m.gap, .int .i64 m.deep]
  | 1, v, _ => v = .agg #[.int .i64 m.rings, .int .i64 m.give, .int .i64 m.plo, .int .i64 m.phi, .int .i64 m.wlo, .int .i64 m.whi, .int .i64 m.st, .int .i64 m.shrink, .int .i64 m.skin, .int .i64 m.fill, .int .i64 m.gap, .int .i64 m.deep]
  | 2, v, _ => v = .agg #[.slice Y1 n1 c1, .slice Y2 n2 c2]
  | 3, v, W => ∃ A1_3 d1_3 A2_3 d2_3, v = .agg #[.slice A1_3 (kR m) d1_3, .slice A2_3 N d2_3] ∧ IntsIn W A1_3 tp ∧ IntsIn W A2_3 tw
  | 4, v, W => ∃ A_4 c_4, v = .slice A_4 (kR m) c_4 ∧ IntsIn W A_4 wl
  | 5, v, W => ∃ A_4 c_4, v = .slice A_4 (kR m) c_4 ∧ IntsIn W A_4 wl
  | _, _, _ => True
theorem ls4R_on (m : Md) (N : Nat) (Y1 : Option Addr) (n1 c1 : Nat) (Y2 : Option Addr) (n2 c2 : Nat) (tp tw wl : List Int) : ∀ i, i < 6 → ∀ v W W', ls4R m N Y1 n1 c1 Y2 n2 c2 tp tw wl i v W → Below W.heap.size W W' → ls4R m N Y1 n1 c1 Y2 n2 c2 tp tw wl i v W' := by
  iterate 6 (refine all_succ ?_ ?_)
  · exact all_zero
  · exact fun _ _ _ h _ => h
  · exact fun _ _ _ h _ => h
  · exact fun _ _ _ h _ => h
  · rintro v W W' ⟨A1_3, d1_3, A2_3, d2_3, e, h0, h1⟩ hb; exact ⟨A1_3, d1_3, A2_3, d2_3, e, h0.on hb, h1.on hb⟩
  · rintro v W W' ⟨A_4, c_4, e, h0⟩ hb; exact ⟨A_4, c_4, e, h0.on hb⟩
  · rintro v W W' ⟨A_4, c_4, e, h0⟩ hb; exact ⟨A_4, c_4, e, h0.on hb⟩
set_option maxRecDepth 100000 in
set_option maxHeartbeats 8000000 in
theorem ls4_region {S : World → Prop} (hon : ∀ W W', S W → Below W.heap.size W W' → S W') {w : World} {m : Md} (hM : ∀ W, S W → MdBk w w.heap.size 25 m W) {Y1 Y2 : Option Addr} {n1 c1 n2 c2 N : Nat} {tp tw : List Int} (hY : ∀ W, S W → Blk W (w.heap.size + 1) 58 #[.slice Y1 n1 c1, .slice Y2 n2 c2]) {wl : List Int} (HT : Hid (∀ W, S W → Calls Try.prog 38 #[.agg #[.int .i64 m.rings, .int .i64 m.give, .int .i64 m.plo, .int .i64 m.phi, .int .i64 m.wlo, .int .i64 m.whi, .int .i64 m.st, .int .i64 m.shrink, .int .i64 m.skin, .int .i64 m.fill, .int .i64 m.gap, .int .i64 m.deep], .int .i64 600, .agg #[.slice Y1 n1 c1, .slice Y2 n2 c2]] W fun e w' => ∃ B1 d1 B2 d2, e = .returned (.agg #[.slice B1 (kR m) d1, .slice B2 N d2]) ∧ IntsIn w' B1 tp ∧ IntsIn w' B2 tw ∧ Below W.heap.size W w')) (HW : Hid (∀ (W : World) (A1 : Option Addr) (d1 : Nat) (A2 : Option Addr) (d2 : Nat), IntsIn W A1 tp → IntsIn W A2 tw → Calls Try.prog 40 #[.agg #[.int .i64 m.rings, .int .i64 m.give, .int .i64 m.plo, .int .i64 m.phi, .int .i64 m.wlo, .int .i64 m.whi, .int .i64 m.st, .int .i64 m.shrink, .int .i64 m.skin, .int .i64 m.fill, .int .i64 m.gap, .int .i64 m.deep], .agg #[.slice A1 (kR m) d1, .slice A2 N d2]] W fun e w' => ∃ A c, e = .returned (.slice A (kR m) c) ∧ IntsIn w' A wl ∧ Below W.heap.size W w')) {Q : Exit → Act → World → Prop} {s0 s1 s4 s5 s6 s8 s9 s10 s11 s12 s13 s14 s15 s16 s17 s18 s19 s20 s21 s22 s23 s24 s25 s26 s27 s28 s29 s30 s31 s37 s38 s39 s40 s41 s42 s43 s44 s45 s46 s47 s48 s49 s50 s51 s52 s53 s54 s55 s56 s57 s58 s59 s60 : Value} {W0 : World} (HL : Hid (S W0))
    (HQ : Hid (∀ (u : Nat → Value) (A_5 : Option Addr) (c_5 : Nat) (W : World), IntsIn W A_5 wl → S W → Q .normal ⟨#[s0, s1, .pointer (some ⟨w.heap.size, 0, none⟩), .pointer (some ⟨w.heap.size + 1, 0, none⟩), s4, s5, s6, .slice A_5 (kR m) c_5, s8, s9, s10, s11, s12, s13, s14, s15, s16, s17, s18, s19, s20, s21, s22, s23, s24, s25, s26, s27, s28, s29, s30, s31, u 0, u 1, u 2, u 3, u 4, s37, s38, s39, s40, s41, s42, s43, s44, s45, s46, s47, s48, s49, s50, s51, s52, s53, s54, s55, s56, s57, s58, s59, s60], []⟩ W)) :
    Code.wp Try.prog ((Try.f11.body.bind (regionAt 4)).getD .skip) Q ⟨#[s0, s1, .pointer (some ⟨w.heap.size, 0, none⟩), .pointer (some ⟨w.heap.size + 1, 0, none⟩), s4, s5, s6, undef, s8, s9, s10, s11, s12, s13, s14, s15, s16, s17, s18, s19, s20, s21, s22, s23, s24, s25, s26, s27, s28, s29, s30, s31, undef, undef, undef, undef, undef, s37, s38, s39, s40, s41, s42, s43, s44, s45, s46, s47, s48, s49, s50, s51, s52, s53, s54, s55, s56, s57, s58, s59, s60], []⟩ W0 := by
  conv => arg 2; whnf
  refine wp_region_spec (by kernel_rfl) 6 (by kernel_rfl) (fun u => ⟨#[s0, s1, .pointer (some ⟨w.heap.size, 0, none⟩), .pointer (some ⟨w.heap.size + 1, 0, none⟩), s4, s5, s6, u 5, s8, s9, s10, s11, s12, s13, s14, s15, s16, s17, s18, s19, s20, s21, s22, s23, s24, s25, s26, s27, s28, s29, s30, s31, u 0, u 1, u 2, u 3, u 4, s37, s38, s39, s40, s41, s42, s43, s44, s45, s46, s47, s48, s49, s50, s51, s52, s53, s54, s55, s56, s57, s58, s59, s60], []⟩) (fun i => undef) (fun W => Hid (S W)) (ls4R m N Y1 n1 c1 Y2 n2 c2 tp tw wl) (by kernel_rfl) (hon _ _ HL.out (Below.refl _ _).drew) (fun i v W W2 hi h hb => ls4R_on m N Y1 n1 c1 Y2 n2 c2 tp tw wl i hi v W W2 h hb) (by decide +kernel) ?_ ?_
  · iterate 6 (refine all_succ ?_ ?_)
    · exact all_zero
    · intro u W hB _ hd _ K hK
      have HK := Lib.hid hK; clear hK
      refine wpOp_of rfl (by rfl) ?_
      obtain ⟨c0, c1, c2, c3, c4, c5, c6, c7, c8, c9, c10, c11⟩ := (hM W hB.out).cells
      go_simp
      exact k_of (HK.out (.agg #[.int .i64 m.rings, .int .i64 m.give, .int .i64 m.plo, .int .i64 m.phi, .int .i64 m.wlo, .int .i64 m.whi, .int .i64 m.st, .int .i64 m.shrink, .int .i64 m.skin, .int .i64 m.fill, .int .i64 m.gap, .int .i64 m.deep]) _ rfl hB (Below.refl _ _)) (by kernel_rfl)
    · intro u W hB _ hd _ K hK
      have HK := Lib.hid hK; clear hK
      refine wpOp_of rfl (by rfl) ?_
      obtain ⟨c0, c1, c2, c3, c4, c5, c6, c7, c8, c9, c10, c11⟩ := (hM W hB.out).cells
      go_simp
      exact k_of (HK.out (.agg #[.int .i64 m.rings, .int .i64 m.give, .int .i64 m.plo, .int .i64 m.phi, .int .i64 m.wlo, .int .i64 m.whi, .int .i64 m.st, .int .i64 m.shrink, .int .i64 m.skin, .int .i64 m.fill, .int .i64 m.gap, .int .i64 m.deep]) _ rfl hB (Below.refl _ _)) (by kernel_rfl)
    · intro u W hB _ hd _ K hK
      have HK := Lib.hid hK; clear hK
      refine wpOp_of rfl (by rfl) ?_
      have y0 := (hY W hB.out).cell 0; have y1 := (hY W hB.out).cell 1
      go_simp
      exact k_of (HK.out (.agg #[.slice Y1 n1 c1, .slice Y2 n2 c2]) _ rfl hB (Below.refl _ _)) (by kernel_rfl)
    · intro u W hB _ hd _ K hK
      have HK := Lib.hid hK; clear hK
      have e1 : u 1 = .agg #[.int .i64 m.rings, .int .i64 m.give, .int .i64 m.plo, .int .i64 m.phi, .int .i64 m.wlo, .int .i64 m.whi, .int .i64 m.st, .int .i64 m.shrink, .int .i64 m.skin, .int .i64 m.fill, .int .i64 m.gap, .int .i64 m.deep] := hd 1 (by decide +kernel)
      have e2 : u 2 = .agg #[.slice Y1 n1 c1, .slice Y2 n2 c2] := hd 2 (by decide +kernel)
      refine wpOp_of rfl (by rfl) ?_
      go_simp
      refine (HT.out W hB.out).mono ?_
      rintro e w' ⟨A1, d1, A2, d2, rfl, i1, i2, hb⟩
      exact k_of (HK.out (.agg #[.slice A1 (kR m) d1, .slice A2 N d2]) _ ⟨A1, d1, A2, d2, rfl, i1, i2⟩ (hon _ _ hB.out hb) hb) (by rw [← u1_eq e1, ← u1_eq e2]; kernel_rfl)
    · intro u W hB _ hd _ K hK
      have HK := Lib.hid hK; clear hK
      have e0 : u 0 = .agg #[.int .i64 m.rings, .int .i64 m.give, .int .i64 m.plo, .int .i64 m.phi, .int .i64 m.wlo, .int .i64 m.whi, .int .i64 m.st, .int .i64 m.shrink, .int .i64 m.skin, .int .i64 m.fill, .int .i64 m.gap, .int .i64 m.deep] := hd 0 (by decide +kernel)
      obtain ⟨A1_3, d1_3, A2_3, d2_3, e3, f3_0, f3_1⟩ : ls4R m N Y1 n1 c1 Y2 n2 c2 tp tw wl 3 (u 3) W := hd 3 (by decide +kernel)
      refine wpOp_of rfl (by rfl) ?_
      go_simp
      refine (HW.out W A1_3 d1_3 A2_3 d2_3 f3_0 f3_1).mono ?_
      rintro e w' ⟨A, c, rfl, i1, hb⟩
      exact k_of (HK.out (.slice A (kR m) c) _ ⟨A, c, rfl, i1⟩ (hon _ _ hB.out hb) hb) (by rw [← u1_eq e0, ← u1_eq e3]; kernel_rfl)
    · intro u W hB _ hd _ K hK
      have HK := Lib.hid hK; clear hK
      obtain ⟨A_4, c_4, e4, f4_0⟩ : ls4R m N Y1 n1 c1 Y2 n2 c2 tp tw wl 4 (u 4) W := hd 4 (by decide +kernel)
      refine wpOp_of rfl (by rfl) ?_
      go_simp
      exact k_of (HK.out (.slice A_4 (kR m) c_4) _ ⟨A_4, c_4, rfl, f4_0⟩ hB (Below.refl _ _)) (by rw [← u1_eq e4]; kernel_rfl)
  · intro u W hB hd
    obtain ⟨A_5, c_5, e5, f5_0⟩ : ls4R m N Y1 n1 c1 Y2 n2 c2 tp tw wl 5 (u 5) W := hd 5 (by decide)
    exact k_of (HQ.out u A_5 c_5 W f5_0 hB.out) (by simp only [e5])

/-- What each operation leaves. -/
def le4R (m : Md) (N : Nat) (Y1 : Option Addr) (n1 c1 : Nat) (Y2 : Option Addr) (n2 c2 : Nat) (tp tw wl : List Int) : Nat → Value → World → Prop
  | 0, v, _ => v = .agg #[.int .i64 m.rings, .int .i64 m.give, .int .i64 m.plo, .int .i64 m.phi, .int .i64 m.wlo, .int .i64 m.whi, .int .i64 m.st, .int .i64 m.shrink, .int .i64 m.skin, .int .i64 m.fill, .int .i64 m.gap, .int .i64 m.deep]
  | 1, v, _ => v = .agg #[.int .i64 m.rings, .int .i64 m.give, .int .i64 m.plo, .int .i64 m.phi, .int .i64 m.wlo, .int .i64 m.whi, .int .i64 m.st, .int .i64 m.shrink, .int .i64 m.skin, .int .i64 m.fill, .int .i64 m.gap, .int .i64 m.deep]
  | 2, v, _ => v = .agg #[.slice Y1 n1 c1, .slice Y2 n2 c2]
  | 3, v, W => ∃ A1_3 d1_3 A2_3 d2_3, v = .agg #[.slice A1_3 (kR m) d1_3, .slice A2_3 N d2_3] ∧ IntsIn W A1_3 tp ∧ IntsIn W A2_3 tw
  | 4, v, W => ∃ A_4 c_4, v = .slice A_4 (kR m) c_4 ∧ IntsIn W A_4 wl
  | 5, v, W => ∃ A_4 c_4, v = .slice A_4 (kR m) c_4 ∧ IntsIn W A_4 wl
  | _, _, _ => True
theorem le4R_on (m : Md) (N : Nat) (Y1 : Option Addr) (n1 c1 : Nat) (Y2 : Option Addr) (n2 c2 : Nat) (tp tw wl : List Int) : ∀ i, i < 6 → ∀ v W W', le4R m N Y1 n1 c1 Y2 n2 c2 tp tw wl i v W → Below W.heap.size W W' → le4R m N Y1 n1 c1 Y2 n2 c2 tp tw wl i v W' := by
  iterate 6 (refine all_succ ?_ ?_)
  · exact all_zero
  · exact fun _ _ _ h _ => h
  · exact fun _ _ _ h _ => h
  · exact fun _ _ _ h _ => h
  · rintro v W W' ⟨A1_3, d1_3, A2_3, d2_3, e, h0, h1⟩ hb; exact ⟨A1_3, d1_3, A2_3, d2_3, e, h0.on hb, h1.on hb⟩
  · rintro v W W' ⟨A_4, c_4, e, h0⟩ hb; exact ⟨A_4, c_4, e, h0.on hb⟩
  · rintro v W W' ⟨A_4, c_4, e, h0⟩ hb; exact ⟨A_4, c_4, e, h0.on hb⟩
set_option maxRecDepth 100000 in
set_option maxHeartbeats 8000000 in
theorem le4_region {S : World → Prop} (hon : ∀ W W', S W → Below W.heap.size W W' → S W') {w : World} {m : Md} (hM : ∀ W, S W → MdBk w w.heap.size 25 m W) {Y1 Y2 : Option Addr} {n1 c1 n2 c2 N : Nat} {tp tw : List Int} (hY : ∀ W, S W → Blk W (w.heap.size + 1) 58 #[.slice Y1 n1 c1, .slice Y2 n2 c2]) {wl : List Int} (HT : Hid (∀ W, S W → Calls Try.prog 38 #[.agg #[.int .i64 m.rings, .int .i64 m.give, .int .i64 m.plo, .int .i64 m.phi, .int .i64 m.wlo, .int .i64 m.whi, .int .i64 m.st, .int .i64 m.shrink, .int .i64 m.skin, .int .i64 m.fill, .int .i64 m.gap, .int .i64 m.deep], .int .i64 600, .agg #[.slice Y1 n1 c1, .slice Y2 n2 c2]] W fun e w' => ∃ B1 d1 B2 d2, e = .returned (.agg #[.slice B1 (kR m) d1, .slice B2 N d2]) ∧ IntsIn w' B1 tp ∧ IntsIn w' B2 tw ∧ Below W.heap.size W w')) (HW : Hid (∀ (W : World) (A1 : Option Addr) (d1 : Nat) (A2 : Option Addr) (d2 : Nat), IntsIn W A1 tp → IntsIn W A2 tw → Calls Try.prog 40 #[.agg #[.int .i64 m.rings, .int .i64 m.give, .int .i64 m.plo, .int .i64 m.phi, .int .i64 m.wlo, .int .i64 m.whi, .int .i64 m.st, .int .i64 m.shrink, .int .i64 m.skin, .int .i64 m.fill, .int .i64 m.gap, .int .i64 m.deep], .agg #[.slice A1 (kR m) d1, .slice A2 N d2]] W fun e w' => ∃ A c, e = .returned (.slice A (kR m) c) ∧ IntsIn w' A wl ∧ Below W.heap.size W w')) {Q : Exit → Act → World → Prop} {s0 s1 s2 s4 s6 s7 s8 s10 s11 s12 s13 s14 s15 s16 s17 s18 s19 s20 s21 s22 s23 s24 s25 s26 s27 s28 s29 s30 s31 s32 s33 s34 s35 s36 s37 s38 s39 s40 s41 s42 s48 s49 s50 s51 s52 s53 s54 s55 s56 s57 s58 s59 s60 s61 s62 s63 s64 s65 s66 s67 s68 s69 s70 s71 s72 s73 s74 s75 s76 s77 s78 s79 s80 s81 s82 s83 s84 s85 s86 s87 s88 s89 s90 s91 s92 s93 s94 s95 s96 s97 s98 s99 s100 s101 s102 s103 s104 s105 s106 s107 s108 s109 s110 s111 s112 s113 s114 s115 s116 s117 s118 : Value} {W0 : World} (HL : Hid (S W0))
    (HQ : Hid (∀ (u : Nat → Value) (A_5 : Option Addr) (c_5 : Nat) (W : World), IntsIn W A_5 wl → S W → Q .normal ⟨#[s0, s1, s2, .pointer (some ⟨w.heap.size, 0, none⟩), s4, .pointer (some ⟨w.heap.size + 1, 0, none⟩), s6, s7, s8, .slice A_5 (kR m) c_5, s10, s11, s12, s13, s14, s15, s16, s17, s18, s19, s20, s21, s22, s23, s24, s25, s26, s27, s28, s29, s30, s31, s32, s33, s34, s35, s36, s37, s38, s39, s40, s41, s42, u 0, u 1, u 2, u 3, u 4, s48, s49, s50, s51, s52, s53, s54, s55, s56, s57, s58, s59, s60, s61, s62, s63, s64, s65, s66, s67, s68, s69, s70, s71, s72, s73, s74, s75, s76, s77, s78, s79, s80, s81, s82, s83, s84, s85, s86, s87, s88, s89, s90, s91, s92, s93, s94, s95, s96, s97, s98, s99, s100, s101, s102, s103, s104, s105, s106, s107, s108, s109, s110, s111, s112, s113, s114, s115, s116, s117, s118], []⟩ W)) :
    Code.wp Try.prog ((Try.f9.body.bind (regionAt 4)).getD .skip) Q ⟨#[s0, s1, s2, .pointer (some ⟨w.heap.size, 0, none⟩), s4, .pointer (some ⟨w.heap.size + 1, 0, none⟩), s6, s7, s8, undef, s10, s11, s12, s13, s14, s15, s16, s17, s18, s19, s20, s21, s22, s23, s24, s25, s26, s27, s28, s29, s30, s31, s32, s33, s34, s35, s36, s37, s38, s39, s40, s41, s42, undef, undef, undef, undef, undef, s48, s49, s50, s51, s52, s53, s54, s55, s56, s57, s58, s59, s60, s61, s62, s63, s64, s65, s66, s67, s68, s69, s70, s71, s72, s73, s74, s75, s76, s77, s78, s79, s80, s81, s82, s83, s84, s85, s86, s87, s88, s89, s90, s91, s92, s93, s94, s95, s96, s97, s98, s99, s100, s101, s102, s103, s104, s105, s106, s107, s108, s109, s110, s111, s112, s113, s114, s115, s116, s117, s118], []⟩ W0 := by
  conv => arg 2; whnf
  refine wp_region_spec (by kernel_rfl) 6 (by kernel_rfl) (fun u => ⟨#[s0, s1, s2, .pointer (some ⟨w.heap.size, 0, none⟩), s4, .pointer (some ⟨w.heap.size + 1, 0, none⟩), s6, s7, s8, u 5, s10, s11, s12, s13, s14, s15, s16, s17, s18, s19, s20, s21, s22, s23, s24, s25, s26, s27, s28, s29, s30, s31, s32, s33, s34, s35, s36, s37, s38, s39, s40, s41, s42, u 0, u 1, u 2, u 3, u 4, s48, s49, s50, s51, s52, s53, s54, s55, s56, s57, s58, s59, s60, s61, s62, s63, s64, s65, s66, s67, s68, s69, s70, s71, s72, s73, s74, s75, s76, s77, s78, s79, s80, s81, s82, s83, s84, s85, s86, s87, s88, s89, s90, s91, s92, s93, s94, s95, s96, s97, s98, s99, s100, s101, s102, s103, s104, s105, s106, s107, s108, s109, s110, s111, s112, s113, s114, s115, s116, s117, s118], []⟩) (fun i => undef) (fun W => Hid (S W)) (le4R m N Y1 n1 c1 Y2 n2 c2 tp tw wl) (by kernel_rfl) (hon _ _ HL.out (Below.refl _ _).drew) (fun i v W W2 hi h hb => le4R_on m N Y1 n1 c1 Y2 n2 c2 tp tw wl i hi v W W2 h hb) (by decide +kernel) ?_ ?_
  · iterate 6 (refine all_succ ?_ ?_)
    · exact all_zero
    · intro u W hB _ hd _ K hK
      have HK := Lib.hid hK; clear hK
      refine wpOp_of rfl (by rfl) ?_
      obtain ⟨c0, c1, c2, c3, c4, c5, c6, c7, c8, c9, c10, c11⟩ := (hM W hB.out).cells
      go_simp
      exact k_of (HK.out (.agg #[.int .i64 m.rings, .int .i64 m.give, .int .i64 m.plo, .int .i64 m.phi, .int .i64 m.wlo, .int .i64 m.whi, .int .i64 m.st, .int .i64 m.shrink, .int .i64 m.skin, .int .i64 m.fill, .int .i64 m.gap, .int .i64 m.deep]) _ rfl hB (Below.refl _ _)) (by kernel_rfl)
    · intro u W hB _ hd _ K hK
      have HK := Lib.hid hK; clear hK
      refine wpOp_of rfl (by rfl) ?_
      obtain ⟨c0, c1, c2, c3, c4, c5, c6, c7, c8, c9, c10, c11⟩ := (hM W hB.out).cells
      go_simp
      exact k_of (HK.out (.agg #[.int .i64 m.rings, .int .i64 m.give, .int .i64 m.plo, .int .i64 m.phi, .int .i64 m.wlo, .int .i64 m.whi, .int .i64 m.st, .int .i64 m.shrink, .int .i64 m.skin, .int .i64 m.fill, .int .i64 m.gap, .int .i64 m.deep]) _ rfl hB (Below.refl _ _)) (by kernel_rfl)
    · intro u W hB _ hd _ K hK
      have HK := Lib.hid hK; clear hK
      refine wpOp_of rfl (by rfl) ?_
      have y0 := (hY W hB.out).cell 0; have y1 := (hY W hB.out).cell 1
      go_simp
      exact k_of (HK.out (.agg #[.slice Y1 n1 c1, .slice Y2 n2 c2]) _ rfl hB (Below.refl _ _)) (by kernel_rfl)
    · intro u W hB _ hd _ K hK
      have HK := Lib.hid hK; clear hK
      have e1 : u 1 = .agg #[.int .i64 m.rings, .int .i64 m.give, .int .i64 m.plo, .int .i64 m.phi, .int .i64 m.wlo, .int .i64 m.whi, .int .i64 m.st, .int .i64 m.shrink, .int .i64 m.skin, .int .i64 m.fill, .int .i64 m.gap, .int .i64 m.deep] := hd 1 (by decide +kernel)
      have e2 : u 2 = .agg #[.slice Y1 n1 c1, .slice Y2 n2 c2] := hd 2 (by decide +kernel)
      refine wpOp_of rfl (by rfl) ?_
      go_simp
      refine (HT.out W hB.out).mono ?_
      rintro e w' ⟨A1, d1, A2, d2, rfl, i1, i2, hb⟩
      exact k_of (HK.out (.agg #[.slice A1 (kR m) d1, .slice A2 N d2]) _ ⟨A1, d1, A2, d2, rfl, i1, i2⟩ (hon _ _ hB.out hb) hb) (by rw [← u1_eq e1, ← u1_eq e2]; kernel_rfl)
    · intro u W hB _ hd _ K hK
      have HK := Lib.hid hK; clear hK
      have e0 : u 0 = .agg #[.int .i64 m.rings, .int .i64 m.give, .int .i64 m.plo, .int .i64 m.phi, .int .i64 m.wlo, .int .i64 m.whi, .int .i64 m.st, .int .i64 m.shrink, .int .i64 m.skin, .int .i64 m.fill, .int .i64 m.gap, .int .i64 m.deep] := hd 0 (by decide +kernel)
      obtain ⟨A1_3, d1_3, A2_3, d2_3, e3, f3_0, f3_1⟩ : le4R m N Y1 n1 c1 Y2 n2 c2 tp tw wl 3 (u 3) W := hd 3 (by decide +kernel)
      refine wpOp_of rfl (by rfl) ?_
      go_simp
      refine (HW.out W A1_3 d1_3 A2_3 d2_3 f3_0 f3_1).mono ?_
      rintro e w' ⟨A, c, rfl, i1, hb⟩
      exact k_of (HK.out (.slice A (kR m) c) _ ⟨A, c, rfl, i1⟩ (hon _ _ hB.out hb) hb) (by rw [← u1_eq e0, ← u1_eq e3]; kernel_rfl)
    · intro u W hB _ hd _ K hK
      have HK := Lib.hid hK; clear hK
      obtain ⟨A_4, c_4, e4, f4_0⟩ : le4R m N Y1 n1 c1 Y2 n2 c2 tp tw wl 4 (u 4) W := hd 4 (by decide +kernel)
      refine wpOp_of rfl (by rfl) ?_
      go_simp
      exact k_of (HK.out (.slice A_4 (kR m) c_4) _ ⟨A_4, c_4, rfl, f4_0⟩ hB (Below.refl _ _)) (by rw [← u1_eq e4]; kernel_rfl)
  · intro u W hB hd
    obtain ⟨A_5, c_5, e5, f5_0⟩ : le4R m N Y1 n1 c1 Y2 n2 c2 tp tw wl 5 (u 5) W := hd 5 (by decide)
    exact k_of (HQ.out u A_5 c_5 W f5_0 hB.out) (by simp only [e5])
end Go.Proofs.Ytljbjcnfkbmjkaa
