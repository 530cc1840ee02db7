/- Layer mould, a part: regions of the law. No statement is proved here. -/
import Derived.Test.YtljbjcnfkbmjkaaMga
import Derived.Test.YtljbjcnfkbmjkaaMeH
import Derived.Test.YtljbjcnfkbmjkaaMg5
import Derived.Test.YtljbjcnfkbmjkaaGa
import Derived.Test.YtljbjcnfkbmjkaaGi
namespace Go.Proofs.Ytljbjcnfkbmjkaa
open Go.RowKit Go.Shelf Go.Maps

theorem spn_same (x y : Int) (W : World) : (binOp .neq 23 (.agg #[.int .i64 x, .int .i64 y]) (.agg #[.int .i64 x, .int .i64 y])).run Try.prog W = .ok (.bool false) W := by
  have := span_neq (x, y) (x, y) W
  simpa using this
theorem zip_get {a b : List Int} {k : Nat} {x y : Int} (h1 : a[k]? = some x) (h2 : b[k]? = some y) : (zipS a b)[k]? = some (x, y) := by
  unfold zipS
  rw [List.getElem?_zipWith, h1, h2]
theorem never_step {b : List Int} {k : Nat} {y : Int} (h : b[k]? = some y) : never (b.take (k + 1)) = (never (b.take k) || decide (y < 0)) := by
  unfold never
  rw [List.take_add_one, h, List.any_append]
  simp
theorem warm_ok {m : Md} (h : checkM m = 0) {N : Nat} (hN : N ≤ 600) : warmR m (N : Int) = (zipS (warmL m false N) (warmL m true N), 0) := by
  unfold warmR
  rw [if_neg (fun h2 => h2 h), if_pos (inB_iff.2 ⟨by omega, by omega⟩), Int.toNat_natCast]
theorem skin_ok {m : Md} (h : checkM m = 0) {a b : List Int} (ha : wh m false = a) (hb : wh m true = b) {N : Nat} (hN : N ≤ 600) : skinR m (N : Int) = ((setN b N, setN a N), 0) := by
  unfold skinR
  rw [if_neg (fun h2 => h2 h), if_pos (inB_iff.2 ⟨by omega, by omega⟩), ha, hb]
section
variable {m : Md}
set_option maxRecDepth 100000 in
theorem warm_law (h : checkM m = 0) {N : Nat} (hN : N ≤ 600) (W : World) :
    Calls Try.prog 23 #[.agg #[.int .i64 m.rings, .int .i64 m.give, .int .i64 m.plo, .int .i64 m.phi, .int .i64 m.wlo, .int .i64 m.whi, .int .i64 m.st, .int .i64 m.shrink, .int .i64 m.skin, .int .i64 m.fill, .int .i64 m.gap, .int .i64 m.deep], .int .i64 (N : Int)] W fun e w' => ∃ A c, e = .returned (.tuple #[.slice A (kR m) c, .int .i64 0]) ∧ SpansIn w' A (zipS (warmL m false N) (warmL m true N)) ∧ Below W.heap.size W w' :=
  (mwarm_any m N W).mono fun e w' ⟨v, he, hv, hb⟩ => by
    rw [warm_ok h hN] at he hv
    obtain ⟨A, c, rfl, hin⟩ := SpansOut.in_ hv
    rw [zip_length (by rw [warmL_length, warmL_length]), warmL_length] at he
    exact ⟨A, c, he, hin, hb⟩
theorem skin_law (h : checkM m = 0) {a b : List Int} (ha : wh m false = a) (hb : wh m true = b) {N : Nat} (hN : N ≤ 600) (W : World) :
    Calls Try.prog 29 #[.agg #[.int .i64 m.rings, .int .i64 m.give, .int .i64 m.plo, .int .i64 m.phi, .int .i64 m.wlo, .int .i64 m.whi, .int .i64 m.st, .int .i64 m.shrink, .int .i64 m.skin, .int .i64 m.fill, .int .i64 m.gap, .int .i64 m.deep], .int .i64 (N : Int)] W fun e w' => e = .returned (.tuple #[.agg #[.int .i64 (setN b N), .int .i64 (setN a N)], .int .i64 0]) ∧ Below W.heap.size W w' :=
  (mskin_any m N W).mono fun e w' ⟨he, hb2⟩ => by
    rw [skin_ok h ha hb hN] at he
    exact ⟨he, hb2⟩
set_option maxRecDepth 100000 in
theorem cool_law (hok : MdOk m) (b : Bool) {N : Nat} (hN : N ≤ 600) (W : World) (A1 : Option Addr) (d1 : Nat) (A2 : Option Addr) (d2 : Nat) (hp : IntsIn W A1 (samP m b)) (hq : IntsIn W A2 (samW m b N)) :
    Calls Try.prog 20 #[.agg #[.int .i64 m.rings, .int .i64 m.give, .int .i64 m.plo, .int .i64 m.phi, .int .i64 m.wlo, .int .i64 m.whi, .int .i64 m.st, .int .i64 m.shrink, .int .i64 m.skin, .int .i64 m.fill, .int .i64 m.gap, .int .i64 m.deep], .agg #[.slice A1 (kR m) d1, .slice A2 N d2]] W fun e w' => ∃ A c, e = .returned (.tuple #[.slice A (kR m) c, .int .i64 0]) ∧ IntsIn w' A (warmL m b N) ∧ Below W.heap.size W w' := by
  have h := cool_any (c1 := d1) (c2 := d2) m hp hq
  rw [same_cool hok b hN, samP_length, samW_length] at h
  refine h.mono fun e w' ⟨v, he, hv, hb⟩ => ?_
  obtain ⟨A, c, rfl, hin⟩ := IntsOut.in_ hv
  rw [warmL_length] at he
  exact ⟨A, c, he, hin, hb⟩
theorem sets_good (h : checkM m = 0) {a b : List Int} (ha : wh m false = a) (hb : wh m true = b) (hn : never b = false) (W : World) :
    Calls Try.prog 27 #[.agg #[.int .i64 m.rings, .int .i64 m.give, .int .i64 m.plo, .int .i64 m.phi, .int .i64 m.wlo, .int .i64 m.whi, .int .i64 m.st, .int .i64 m.shrink, .int .i64 m.skin, .int .i64 m.fill, .int .i64 m.gap, .int .i64 m.deep]] W fun e w' => ∃ A c, e = .returned (.tuple #[.slice A (kR m) c, .int .i64 0]) ∧ SpansIn w' A (zipS a b) ∧ Below W.heap.size W w' :=
  (msets_any m W).mono fun e w' ⟨v, he, hv, hb2⟩ => by
    rw [setsR_good h ha hb hn] at he hv
    obtain ⟨A, c, rfl, hin⟩ := SpansOut.in_ hv
    have hla : a.length = kR m := by rw [← ha, wh_length]
    have hlb : b.length = kR m := by rw [← hb, wh_length]
    rw [zip_length (by rw [hla, hlb]), hla] at he
    exact ⟨A, c, he, hin, hb2⟩
theorem sets_never (h : checkM m = 0) {b : List Int} (hb : wh m true = b) (hn : never b = true) (W : World) :
    Calls Try.prog 27 #[.agg #[.int .i64 m.rings, .int .i64 m.give, .int .i64 m.plo, .int .i64 m.phi, .int .i64 m.wlo, .int .i64 m.whi, .int .i64 m.st, .int .i64 m.shrink, .int .i64 m.skin, .int .i64 m.fill, .int .i64 m.gap, .int .i64 m.deep]] W fun e w' => ∃ A c, e = .returned (.tuple #[.slice A 0 c, .int .i64 9]) ∧ Below W.heap.size W w' :=
  (msets_any m W).mono fun e w' ⟨v, he, hv, hb2⟩ => by
    rw [show setsR m = ([], 9) by unfold setsR; rw [if_neg (fun h2 => h2 h), hb, if_pos hn]] at he hv
    obtain ⟨A, c, rfl, hin⟩ := SpansOut.in_ hv
    exact ⟨A, c, he, hb2⟩
end
end Go.Proofs.Ytljbjcnfkbmjkaa

namespace Go.Proofs.Ytljbjcnfkbmjkaa
open Go.RowKit Go.Shelf Go.Maps

theorem truth_in {m : Md} {ps ws : List Int} (hl : ps.length = kR m) (hw : ws.length ≤ 600) (hp : ∀ x ∈ ps, m.plo ≤ x ∧ x ≤ m.phi) (hq : ∀ x ∈ ws, m.wlo ≤ x ∧ x ≤ m.whi) : truthE m ps ws = 0 := by
  unfold truthE
  rw [if_neg (by omega), if_pos (List.all_eq_true.2 fun x hx => inB_iff.2 (hp x hx)), if_pos (List.all_eq_true.2 fun x hx => inB_iff.2 (hq x hx))]
section
variable {m : Md} {N : Nat} {tp tw : List Int}
/-- A truth of a mould, in numbers. -/
structure TrOk (m : Md) (N : Nat) (tp tw : List Int) : Prop where
  lp : tp.length = kR m
  lw : tw.length = N
  n : N ≤ 600
  p : ∀ x ∈ tp, m.plo ≤ x ∧ x ≤ m.phi
  q : ∀ x ∈ tw, m.wlo ≤ x ∧ x ≤ m.whi
theorem TrOk.tr (hok : MdOk m) (hN : N ≤ 600) (ps ws : List Int) : TrOk m N (trL m.plo m.phi ps (kR m)) (trL m.wlo m.whi ws N) :=
  ⟨trL_length _ _ _ _, trL_length _ _ _ _, hN, trL_rng hok.pour _ _, trL_rng hok.wall _ _⟩
theorem TrOk.err (h : TrOk m N tp tw) : truthE m tp tw = 0 := truth_in h.lp (by rw [h.lw]; exact h.n) h.p h.q
set_option maxRecDepth 100000 in
theorem cool_tr (hok : MdOk m) (h : TrOk m N tp tw) (W : World) (A1 : Option Addr) (d1 : Nat) (A2 : Option Addr) (d2 : Nat) (hp : IntsIn W A1 tp) (hq : IntsIn W A2 tw) :
    Calls Try.prog 20 #[.agg #[.int .i64 m.rings, .int .i64 m.give, .int .i64 m.plo, .int .i64 m.phi, .int .i64 m.wlo, .int .i64 m.whi, .int .i64 m.st, .int .i64 m.shrink, .int .i64 m.skin, .int .i64 m.fill, .int .i64 m.gap, .int .i64 m.deep], .agg #[.slice A1 (kR m) d1, .slice A2 N d2]] W fun e w' => ∃ A c, e = .returned (.tuple #[.slice A (kR m) c, .int .i64 0]) ∧ IntsIn w' A (afterL m.give tp tw) ∧ Below W.heap.size W w' := by
  have h2 := cool_any (c1 := d1) (c2 := d2) m hp hq
  rw [coolR_ok (checkM_ok.2 hok) h.err, h.lp, h.lw] at h2
  refine h2.mono fun e w' ⟨v, he, hv, hb⟩ => ?_
  obtain ⟨A, c, rfl, hin⟩ := IntsOut.in_ hv
  rw [afterL_length, h.lp] at he
  exact ⟨A, c, he, hin, hb⟩
theorem when_tr (hok : MdOk m) (h : TrOk m N tp tw) (W : World) (A1 : Option Addr) (d1 : Nat) (A2 : Option Addr) (d2 : Nat) (hp : IntsIn W A1 tp) (hq : IntsIn W A2 tw) :
    Calls Try.prog 40 #[.agg #[.int .i64 m.rings, .int .i64 m.give, .int .i64 m.plo, .int .i64 m.phi, .int .i64 m.wlo, .int .i64 m.whi, .int .i64 m.st, .int .i64 m.shrink, .int .i64 m.skin, .int .i64 m.fill, .int .i64 m.gap, .int .i64 m.deep], .agg #[.slice A1 (kR m) d1, .slice A2 N d2]] W fun e w' => ∃ A c, e = .returned (.slice A (kR m) c) ∧ IntsIn w' A (whenM m tp tw) ∧ Below W.heap.size W w' := by
  have hk := kR_le hok.toMdIn
  have h1 := hok.plo; have h2 := hok.phi; have h3 := hok.wlo; have h4 := hok.whi
  have hh := rwhen_any (c1 := d1) (c2 := d2) m hok.toMdIn hp hq (by rw [h.lp]; omega) (by rw [h.lp]; omega) (by rw [h.lw]; exact h.n) (fun x hx => by have := h.p x hx; omega) (fun x hx => by have := h.q x hx; omega)
  rw [whenM_length, h.lp, h.lw] at hh
  exact hh
theorem truth_law (hok : MdOk m) {w : World} {Y1 Y2 : Option Addr} {c1 c2 : Nat} {ps ws : List Int} (hp : U16In w Y1 ps) (hq : U16In w Y2 ws) (hN : N ≤ 600) {W : World} (hb : Below w.heap.size w W) :
    Calls Try.prog 38 #[.agg #[.int .i64 m.rings, .int .i64 m.give, .int .i64 m.plo, .int .i64 m.phi, .int .i64 m.wlo, .int .i64 m.whi, .int .i64 m.st, .int .i64 m.shrink, .int .i64 m.skin, .int .i64 m.fill, .int .i64 m.gap, .int .i64 m.deep], .int .i64 (N : Int), .agg #[.slice Y1 ps.length c1, .slice Y2 ws.length c2]] W fun e w' => ∃ B1 d1 B2 d2, e = .returned (.agg #[.slice B1 (kR m) d1, .slice B2 N d2]) ∧ IntsIn w' B1 (trL m.plo m.phi ps (kR m)) ∧ IntsIn w' B2 (trL m.wlo m.whi ws N) ∧ Below W.heap.size W w' :=
  ltruth_any hok N hN (hp.on hb) (hq.on hb)
end
theorem when_ab {m : Md} (hok : MdOk m) {a b tp tw : List Int} {N : Nat} (ha : wh m false = a) (hb : wh m true = b) (h : TrOk m N tp tw) (hN : N = 600) : Wle a (whenM m tp tw) ∧ Wle (whenM m tp tw) b := by
  have h2 := when_between hok.toMdIn h.lp (by rw [h.lw]; exact hN) h.p h.q
  rw [ha, hb] at h2
  exact h2
theorem after_ab {m : Md} (hok : MdOk m) {tp tw : List Int} {N : Nat} (h : TrOk m N tp tw) : Lle (warmL m false N) (afterL m.give tp tw) ∧ Lle (afterL m.give tp tw) (warmL m true N) := by
  have h2 := after_between hok.toMdIn h.lp h.p h.q
  rw [h.lw] at h2
  exact h2
/-- The mould, and the turns. -/
structure LtA (w : World) (m : Md) (Y1 : Option Addr) (n1 c1 : Nat) (Y2 : Option Addr) (n2 c2 : Nat) (W : World) : Prop where
  bm : MdBk w w.heap.size 25 m W
  y : Blk W (w.heap.size + 1) 58 #[.slice Y1 n1 c1, .slice Y2 n2 c2]
theorem LtA.on {w W W' : World} {m : Md} {Y1 Y2 : Option Addr} {n1 c1 n2 c2 : Nat} (h : LtA w m Y1 n1 c1 Y2 n2 c2 W) (hb : Below W.heap.size W W') : LtA w m Y1 n1 c1 Y2 n2 c2 W' := ⟨h.bm.on hb, h.y.on hb⟩
theorem LtA.new (w : World) (m : Md) (Y1 : Option Addr) (n1 c1 : Nat) (Y2 : Option Addr) (n2 c2 : Nat) : LtA w m Y1 n1 c1 Y2 n2 c2 ((w.alloc (.cells #[.int .i64 m.rings, .int .i64 m.give, .int .i64 m.plo, .int .i64 m.phi, .int .i64 m.wlo, .int .i64 m.whi, .int .i64 m.st, .int .i64 m.shrink, .int .i64 m.skin, .int .i64 m.fill, .int .i64 m.gap, .int .i64 m.deep] 25)).alloc (.cells #[.slice Y1 n1 c1, .slice Y2 n2 c2] 58)) :=
  ⟨⟨(Blk.new w _ _).alloc _, ((Below.refl _ w).alloc (Nat.le_refl _) _).alloc (by simp) _⟩, Blk.new1 w _ _ _⟩
/-- Each number is in its range. -/
theorem lle_in {lo l hi : List Int} (h1 : Lle lo l) (h2 : Lle l hi) {k : Nat} {x p q : Int} (hx : l[k]? = some x) (hp : lo[k]? = some p) (hq : hi[k]? = some q) : inB x p q = true := inB_iff.2 ⟨h1.get hp hx, h2.get hx hq⟩
theorem wle_in {lo l hi : List Int} (h1 : Wle lo l) (h2 : Wle l hi) {k : Nat} {x p q : Int} (hx : l[k]? = some x) (hp : lo[k]? = some p) (hq : hi[k]? = some q) (h0 : 0 ≤ q) : inB x p q = true := by
  have h3 := h1.get hp hx
  have h4 := h2.get hx hq
  exact inB_iff.2 ⟨by omega, by omega⟩
end Go.Proofs.Ytljbjcnfkbmjkaa

namespace Go.Proofs.Ytljbjcnfkbmjkaa
open Go.RowKit Go.Shelf Go.Maps
attribute [local go_sem] Oper.semAt_some

/-- What each operation leaves. -/
def lt5R (m : Md) (N : Nat) (Y1 : Option Addr) (n1 c1 : Nat) (Y2 : Option Addr) (n2 c2 : Nat) (tp tw al : List Int) : Nat → Value → World → Prop
  | 0, v, _ => v = .agg #[.int .i64 m.rings, .int .i64 m.give, .int .i64 m.plo, .int .i64 m.phi, .int .i64 m.wlo, .int .i64 m.whi, .int .i64 m.st, .int .i64 m.shrink, .int .i64 m.skin, .int .i64 m.fill, .int .i64 m.gap, .int .i64 m.deep]
  | 1, v, _ => v = .agg #[.int .i64 m.rings, .int .i64 m.give, .int .i64 m.plo, .int .i64 m.phi, .int .i64 m.wlo, .int .i64 m.whi, .int .i64 m.st, .int .i64 m.shrink, .int .i64 m.skin, .int .i64 m.fill, .int .i64 m.gap, .int .i64 m.deep]
  | 2, v, _ => v = .int .i64 (N : Int)
  | 3, v, _ => v = .agg #[.slice Y1 n1 c1, .slice Y2 n2 c2]
  | 4, v, W => ∃ A1_4 d1_4 A2_4 d2_4, v = .agg #[.slice A1_4 (kR m) d1_4, .slice A2_4 N d2_4] ∧ IntsIn W A1_4 tp ∧ IntsIn W A2_4 tw
  | 5, v, W => ∃ A_5 c_5, v = .tuple #[.slice A_5 (kR m) c_5, .int .i64 0] ∧ IntsIn W A_5 al
  | 6, v, W => ∃ A_5 c_5, v = .tuple #[.slice A_5 (kR m) c_5, .int .i64 0] ∧ IntsIn W A_5 al
  | 7, v, W => ∃ A_5 c_5, v = .slice A_5 (kR m) c_5 ∧ IntsIn W A_5 al
  | 8, v, _ => v = .int .i64 0
  | 9, v, W => ∃ A_5 c_5, v = .slice A_5 (kR m) c_5 ∧ IntsIn W A_5 al
  | 10, v, _ => v = .int .i64 0
  | _, _, _ => True
theorem lt5R_on (m : Md) (N : Nat) (Y1 : Option Addr) (n1 c1 : Nat) (Y2 : Option Addr) (n2 c2 : Nat) (tp tw al : List Int) : ∀ i, i < 11 → ∀ v W W', lt5R m N Y1 n1 c1 Y2 n2 c2 tp tw al i v W → Below W.heap.size W W' → lt5R m N Y1 n1 c1 Y2 n2 c2 tp tw al i v W' := by
  iterate 11 (refine all_succ ?_ ?_)
  · exact all_zero
  · exact fun _ _ _ h _ => h
  · exact fun _ _ _ h _ => h
  · exact fun _ _ _ h _ => h
  · exact fun _ _ _ h _ => h
  · rintro v W W' ⟨A1_4, d1_4, A2_4, d2_4, e, h0, h1⟩ hb; exact ⟨A1_4, d1_4, A2_4, d2_4, e, h0.on hb, h1.on hb⟩
  · rintro v W W' ⟨A_5, c_5, e, h0⟩ hb; exact ⟨A_5, c_5, e, h0.on hb⟩
  · rintro v W W' ⟨A_5, c_5, e, h0⟩ hb; exact ⟨A_5, c_5, e, h0.on hb⟩
  · rintro v W W' ⟨A_5, c_5, e, h0⟩ hb; exact ⟨A_5, c_5, e, h0.on hb⟩
  · exact fun _ _ _ h _ => h
  · rintro v W W' ⟨A_5, c_5, e, h0⟩ hb; exact ⟨A_5, c_5, e, h0.on hb⟩
  · exact fun _ _ _ h _ => h
set_option maxRecDepth 100000 in
set_option maxHeartbeats 8000000 in
theorem lt5_region {S : World → Prop} (hon : ∀ W W', S W → Below W.heap.size W W' → S W') {w : World} {m : Md} (hM : ∀ W, S W → MdBk w w.heap.size 25 m W) {Y1 Y2 : Option Addr} {n1 c1 n2 c2 N : Nat} {tp tw : List Int} (hY : ∀ W, S W → Blk W (w.heap.size + 1) 58 #[.slice Y1 n1 c1, .slice Y2 n2 c2]) {al : List Int} (HT : Hid (∀ W, S W → Calls Try.prog 38 #[.agg #[.int .i64 m.rings, .int .i64 m.give, .int .i64 m.plo, .int .i64 m.phi, .int .i64 m.wlo, .int .i64 m.whi, .int .i64 m.st, .int .i64 m.shrink, .int .i64 m.skin, .int .i64 m.fill, .int .i64 m.gap, .int .i64 m.deep], .int .i64 (N : Int), .agg #[.slice Y1 n1 c1, .slice Y2 n2 c2]] W fun e w' => ∃ B1 d1 B2 d2, e = .returned (.agg #[.slice B1 (kR m) d1, .slice B2 N d2]) ∧ IntsIn w' B1 tp ∧ IntsIn w' B2 tw ∧ Below W.heap.size W w')) (HC : Hid (∀ (W : World) (A1 : Option Addr) (d1 : Nat) (A2 : Option Addr) (d2 : Nat), IntsIn W A1 tp → IntsIn W A2 tw → Calls Try.prog 20 #[.agg #[.int .i64 m.rings, .int .i64 m.give, .int .i64 m.plo, .int .i64 m.phi, .int .i64 m.wlo, .int .i64 m.whi, .int .i64 m.st, .int .i64 m.shrink, .int .i64 m.skin, .int .i64 m.fill, .int .i64 m.gap, .int .i64 m.deep], .agg #[.slice A1 (kR m) d1, .slice A2 N d2]] W fun e w' => ∃ A c, e = .returned (.tuple #[.slice A (kR m) c, .int .i64 0]) ∧ IntsIn w' A al ∧ Below W.heap.size W w')) {Q : Exit → Act → World → Prop} {s0 s1 s2 s4 s6 s8 s9 s12 s13 s14 s15 s16 s17 s18 s19 s20 s21 s22 s23 s24 s25 s26 s27 s28 s29 s30 s31 s32 s33 s34 s35 s36 s37 s38 s39 s49 s50 s51 s52 s53 s54 s55 s56 s57 s58 s59 s60 s61 s62 s63 s64 s65 s66 s67 s68 s69 s70 s71 s72 s73 s74 s75 s76 s77 s78 s79 s80 s81 s82 s83 s84 s85 s86 s87 s88 s89 s90 s91 s92 s93 s94 s95 s96 s97 s98 s99 s100 s101 s102 s103 s104 s105 s106 s107 s108 s109 s110 s111 s112 s113 s114 s115 s116 s117 s118 s119 s120 s121 s122 s123 s124 s125 s126 s127 s128 : Value} {W0 : World} (HL : Hid (S W0))
    (HQ : Hid (∀ (u : Nat → Value) (A_9 : Option Addr) (c_9 : Nat) (W : World), IntsIn W A_9 al → S W → Q .normal ⟨#[s0, s1, s2, .pointer (some ⟨w.heap.size, 0, none⟩), s4, .pointer (some ⟨w.heap.size + 1, 0, none⟩), s6, .int .i64 (N : Int), s8, s9, .slice A_9 (kR m) c_9, .int .i64 0, s12, s13, s14, s15, s16, s17, s18, s19, s20, s21, s22, s23, s24, s25, s26, s27, s28, s29, s30, s31, s32, s33, s34, s35, s36, s37, s38, s39, u 6, u 0, u 1, u 2, u 3, u 4, u 5, u 7, u 8, s49, s50, s51, s52, s53, s54, s55, s56, s57, s58, s59, s60, s61, s62, s63, s64, s65, s66, s67, s68, s69, s70, s71, s72, s73, s74, s75, s76, s77, s78, s79, s80, s81, s82, s83, s84, s85, s86, s87, s88, s89, s90, s91, s92, s93, s94, s95, s96, s97, s98, s99, s100, s101, s102, s103, s104, s105, s106, s107, s108, s109, s110, s111, s112, s113, s114, s115, s116, s117, s118, s119, s120, s121, s122, s123, s124, s125, s126, s127, s128], []⟩ W)) :
    Code.wp Try.prog ((Try.f7.body.bind (regionAt 5)).getD .skip) Q ⟨#[s0, s1, s2, .pointer (some ⟨w.heap.size, 0, none⟩), s4, .pointer (some ⟨w.heap.size + 1, 0, none⟩), s6, .int .i64 (N : Int), s8, s9, undef, undef, s12, s13, s14, s15, s16, s17, s18, s19, s20, s21, s22, s23, s24, s25, s26, s27, s28, s29, s30, s31, s32, s33, s34, s35, s36, s37, s38, s39, undef, undef, undef, undef, undef, undef, undef, undef, undef, s49, s50, s51, s52, s53, s54, s55, s56, s57, s58, s59, s60, s61, s62, s63, s64, s65, s66, s67, s68, s69, s70, s71, s72, s73, s74, s75, s76, s77, s78, s79, s80, s81, s82, s83, s84, s85, s86, s87, s88, s89, s90, s91, s92, s93, s94, s95, s96, s97, s98, s99, s100, s101, s102, s103, s104, s105, s106, s107, s108, s109, s110, s111, s112, s113, s114, s115, s116, s117, s118, s119, s120, s121, s122, s123, s124, s125, s126, s127, s128], []⟩ W0 := by
  conv => arg 2; whnf
  refine wp_region_spec (by kernel_rfl) 11 (by kernel_rfl) (fun u => ⟨#[s0, s1, s2, .pointer (some ⟨w.heap.size, 0, none⟩), s4, .pointer (some ⟨w.heap.size + 1, 0, none⟩), s6, .int .i64 (N : Int), s8, s9, u 9, u 10, s12, s13, s14, s15, s16, s17, s18, s19, s20, s21, s22, s23, s24, s25, s26, s27, s28, s29, s30, s31, s32, s33, s34, s35, s36, s37, s38, s39, u 6, u 0, u 1, u 2, u 3, u 4, u 5, u 7, u 8, s49, s50, s51, s52, s53, s54, s55, s56, s57, s58, s59, s60, s61, s62, s63, s64, s65, s66, s67, s68, s69, s70, s71, s72, s73, s74, s75, s76, s77, s78, s79, s80, s81, s82, s83, s84, s85, s86, s87, s88, s89, s90, s91, s92, s93, s94, s95, s96, s97, s98, s99, s100, s101, s102, s103, s104, s105, s106, s107, s108, s109, s110, s111, s112, s113, s114, s115, s116, s117, s118, s119, s120, s121, s122, s123, s124, s125, s126, s127, s128], []⟩) (fun i => undef) (fun W => Hid (S W)) (lt5R m N Y1 n1 c1 Y2 n2 c2 tp tw al) (by kernel_rfl) (hon _ _ HL.out (Below.refl _ _).drew) (fun i v W W2 hi h hb => lt5R_on m N Y1 n1 c1 Y2 n2 c2 tp tw al i hi v W W2 h hb) (by decide +kernel) ?_ ?_
  · iterate 11 (refine all_succ ?_ ?_)
    · exact all_zero
    · intro u W hB _ hd _ K hK
      have HK := Lib.hid hK; clear hK
      refine wpOp_of rfl (by rfl) ?_
      obtain ⟨c0, c1, c2, c3, c4, c5, c6, c7, c8, c9, c10, c11⟩ := (hM W hB.out).cells
      go_simp
      exact k_of (HK.out (.agg #[.int .i64 m.rings, .int .i64 m.give, .int .i64 m.plo, .int .i64 m.phi, .int .i64 m.wlo, .int .i64 m.whi, .int .i64 m.st, .int .i64 m.shrink, .int .i64 m.skin, .int .i64 m.fill, .int .i64 m.gap, .int .i64 m.deep]) _ rfl hB (Below.refl _ _)) (by kernel_rfl)
    · intro u W hB _ hd _ K hK
      have HK := Lib.hid hK; clear hK
      refine wpOp_of rfl (by rfl) ?_
      obtain ⟨c0, c1, c2, c3, c4, c5, c6, c7, c8, c9, c10, c11⟩ := (hM W hB.out).cells
      go_simp
      exact k_of (HK.out (.agg #[.int .i64 m.rings, .int .i64 m.give, .int .i64 m.plo, .int .i64 m.phi, .int .i64 m.wlo, .int .i64 m.whi, .int .i64 m.st, .int .i64 m.shrink, .int .i64 m.skin, .int .i64 m.fill, .int .i64 m.gap, .int .i64 m.deep]) _ rfl hB (Below.refl _ _)) (by kernel_rfl)
    · intro u W hB _ hd _ K hK
      have HK := Lib.hid hK; clear hK
      refine wpOp_of rfl (by rfl) ?_
      go_simp
      exact k_of (HK.out (.int .i64 (N : Int)) _ rfl hB (Below.refl _ _)) (by kernel_rfl)
    · intro u W hB _ hd _ K hK
      have HK := Lib.hid hK; clear hK
      refine wpOp_of rfl (by rfl) ?_
      have y0 := (hY W hB.out).cell 0; have y1 := (hY W hB.out).cell 1
      go_simp
      exact k_of (HK.out (.agg #[.slice Y1 n1 c1, .slice Y2 n2 c2]) _ rfl hB (Below.refl _ _)) (by kernel_rfl)
    · intro u W hB _ hd _ K hK
      have HK := Lib.hid hK; clear hK
      have e1 : u 1 = .agg #[.int .i64 m.rings, .int .i64 m.give, .int .i64 m.plo, .int .i64 m.phi, .int .i64 m.wlo, .int .i64 m.whi, .int .i64 m.st, .int .i64 m.shrink, .int .i64 m.skin, .int .i64 m.fill, .int .i64 m.gap, .int .i64 m.deep] := hd 1 (by decide +kernel)
      have e2 : u 2 = .int .i64 (N : Int) := hd 2 (by decide +kernel)
      have e3 : u 3 = .agg #[.slice Y1 n1 c1, .slice Y2 n2 c2] := hd 3 (by decide +kernel)
      refine wpOp_of rfl (by rfl) ?_
      go_simp
      refine (HT.out W hB.out).mono ?_
      rintro e w' ⟨A1, d1, A2, d2, rfl, i1, i2, hb⟩
      exact k_of (HK.out (.agg #[.slice A1 (kR m) d1, .slice A2 N d2]) _ ⟨A1, d1, A2, d2, rfl, i1, i2⟩ (hon _ _ hB.out hb) hb) (by rw [← u1_eq e1, ← u1_eq e2, ← u1_eq e3]; kernel_rfl)
    · intro u W hB _ hd _ K hK
      have HK := Lib.hid hK; clear hK
      have e0 : u 0 = .agg #[.int .i64 m.rings, .int .i64 m.give, .int .i64 m.plo, .int .i64 m.phi, .int .i64 m.wlo, .int .i64 m.whi, .int .i64 m.st, .int .i64 m.shrink, .int .i64 m.skin, .int .i64 m.fill, .int .i64 m.gap, .int .i64 m.deep] := hd 0 (by decide +kernel)
      obtain ⟨A1_4, d1_4, A2_4, d2_4, e4, f4_0, f4_1⟩ : lt5R m N Y1 n1 c1 Y2 n2 c2 tp tw al 4 (u 4) W := hd 4 (by decide +kernel)
      refine wpOp_of rfl (by rfl) ?_
      go_simp
      refine (HC.out W A1_4 d1_4 A2_4 d2_4 f4_0 f4_1).mono ?_
      rintro e w' ⟨A, c, rfl, i1, hb⟩
      exact k_of (HK.out (.tuple #[.slice A (kR m) c, .int .i64 0]) _ ⟨A, c, rfl, i1⟩ (hon _ _ hB.out hb) hb) (by rw [← u1_eq e0, ← u1_eq e4]; kernel_rfl)
    · intro u W hB _ hd _ K hK
      have HK := Lib.hid hK; clear hK
      obtain ⟨A_5, c_5, e5, f5_0⟩ : lt5R m N Y1 n1 c1 Y2 n2 c2 tp tw al 5 (u 5) W := hd 5 (by decide +kernel)
      refine wpOp_of rfl (by rfl) ?_
      go_simp
      exact k_of (HK.out (.tuple #[.slice A_5 (kR m) c_5, .int .i64 0]) _ ⟨A_5, c_5, rfl, f5_0⟩ hB (Below.refl _ _)) (by rw [← u1_eq e5]; kernel_rfl)
    · intro u W hB _ hd _ K hK
      have HK := Lib.hid hK; clear hK
      obtain ⟨A_6, c_6, e6, f6_0⟩ : lt5R m N Y1 n1 c1 Y2 n2 c2 tp tw al 6 (u 6) W := hd 6 (by decide +kernel)
      refine wpOp_of rfl (by rfl) ?_
      go_simp
      exact k_of (HK.out (.slice A_6 (kR m) c_6) _ ⟨A_6, c_6, rfl, f6_0⟩ hB (Below.refl _ _)) (by rw [← u1_eq e6]; kernel_rfl)
    · intro u W hB _ hd _ K hK
      have HK := Lib.hid hK; clear hK
      obtain ⟨A_6, c_6, e6, f6_0⟩ : lt5R m N Y1 n1 c1 Y2 n2 c2 tp tw al 6 (u 6) W := hd 6 (by decide +kernel)
      refine wpOp_of rfl (by rfl) ?_
      go_simp
      exact k_of (HK.out (.int .i64 0) _ rfl hB (Below.refl _ _)) (by rw [← u1_eq e6]; kernel_rfl)
    · intro u W hB _ hd _ K hK
      have HK := Lib.hid hK; clear hK
      obtain ⟨A_7, c_7, e7, f7_0⟩ : lt5R m N Y1 n1 c1 Y2 n2 c2 tp tw al 7 (u 7) W := hd 7 (by decide +kernel)
      refine wpOp_of rfl (by rfl) ?_
      go_simp
      exact k_of (HK.out (.slice A_7 (kR m) c_7) _ ⟨A_7, c_7, rfl, f7_0⟩ hB (Below.refl _ _)) (by rw [← u1_eq e7]; kernel_rfl)
    · intro u W hB _ hd _ K hK
      have HK := Lib.hid hK; clear hK
      have e8 : u 8 = .int .i64 0 := hd 8 (by decide +kernel)
      refine wpOp_of rfl (by rfl) ?_
      go_simp
      exact k_of (HK.out (.int .i64 0) _ rfl hB (Below.refl _ _)) (by rw [← u1_eq e8]; kernel_rfl)
  · intro u W hB hd
    obtain ⟨A_9, c_9, e9, f9_0⟩ : lt5R m N Y1 n1 c1 Y2 n2 c2 tp tw al 9 (u 9) W := hd 9 (by decide)
    have e10 : u 10 = .int .i64 0 := hd 10 (by decide)
    exact k_of (HQ.out u A_9 c_9 W f9_0 hB.out) (by simp only [e9, e10])

/-- What each operation leaves. -/
def lt16R (m : Md) (N : Nat) (Y1 : Option Addr) (n1 c1 : Nat) (Y2 : Option Addr) (n2 c2 : Nat) (tp tw wl : List Int) : Nat → Value → World → Prop
  | 0, v, _ => v = .agg #[.int .i64 m.rings, .int .i64 m.give, .int .i64 m.plo, .int .i64 m.phi, .int .i64 m.wlo, .int .i64 m.whi, .int .i64 m.st, .int .i64 m.shrink, .int .i64 m.skin, .int .i64 m.fill, .int .i64 m.gap, .int .i64 m.deep]
  | 1, v, _ => v = .agg #[.int .i64 m.rings, .int .i64 m.give, .int .i64 m.plo, .int .i64 m.phi, .int .i64 m.wlo, .int .i64 m.whi, .int .i64 m.st, .int .i64 m.shrink, .int .i64 m.skin, .int .i64 m.fill, .int .i64 m.gap, .int .i64 m.deep]
  | 2, v, _ => v = .agg #[.slice Y1 n1 c1, .slice Y2 n2 c2]
  | 3, v, W => ∃ A1_3 d1_3 A2_3 d2_3, v = .agg #[.slice A1_3 (kR m) d1_3, .slice A2_3 N d2_3] ∧ IntsIn W A1_3 tp ∧ IntsIn W A2_3 tw
  | 4, v, W => ∃ A_4 c_4, v = .slice A_4 (kR m) c_4 ∧ IntsIn W A_4 wl
  | 5, v, W => ∃ A_4 c_4, v = .slice A_4 (kR m) c_4 ∧ IntsIn W A_4 wl
  | _, _, _ => True
theorem lt16R_on (m : Md) (N : Nat) (Y1 : Option Addr) (n1 c1 : Nat) (Y2 : Option Addr) (n2 c2 : Nat) (tp tw wl : List Int) : ∀ i, i < 6 → ∀ v W W', lt16R m N Y1 n1 c1 Y2 n2 c2 tp tw wl i v W → Below W.heap.size W W' → lt16R m N Y1 n1 c1 Y2 n2 c2 tp tw wl i v W' := by
  iterate 6 (refine all_succ ?_ ?_)
  · exact all_zero
  · exact fun _ _ _ h _ => h
  · exact fun _ _ _ h _ => h
  · exact fun _ _ _ h _ => h
  · rintro v W W' ⟨A1_3, d1_3, A2_3, d2_3, e, h0, h1⟩ hb; exact ⟨A1_3, d1_3, A2_3, d2_3, e, h0.on hb, h1.on hb⟩
  · rintro v W W' ⟨A_4, c_4, e, h0⟩ hb; exact ⟨A_4, c_4, e, h0.on hb⟩
  · rintro v W W' ⟨A_4, c_4, e, h0⟩ hb; exact ⟨A_4, c_4, e, h0.on hb⟩
set_option maxRecDepth 100000 in
set_option maxHeartbeats 8000000 in
theorem lt16_region {S : World → Prop} (hon : ∀ W W', S W → Below W.heap.size W W' → S W') {w : World} {m : Md} (hM : ∀ W, S W → MdBk w w.heap.size 25 m W) {Y1 Y2 : Option Addr} {n1 c1 n2 c2 N : Nat} {tp tw : List Int} (hY : ∀ W, S W → Blk W (w.heap.size + 1) 58 #[.slice Y1 n1 c1, .slice Y2 n2 c2]) {wl : List Int} (HT : Hid (∀ W, S W → Calls Try.prog 38 #[.agg #[.int .i64 m.rings, .int .i64 m.give, .int .i64 m.plo, .int .i64 m.phi, .int .i64 m.wlo, .int .i64 m.whi, .int .i64 m.st, .int .i64 m.shrink, .int .i64 m.skin, .int .i64 m.fill, .int .i64 m.gap, .int .i64 m.deep], .int .i64 600, .agg #[.slice Y1 n1 c1, .slice Y2 n2 c2]] W fun e w' => ∃ B1 d1 B2 d2, e = .returned (.agg #[.slice B1 (kR m) d1, .slice B2 N d2]) ∧ IntsIn w' B1 tp ∧ IntsIn w' B2 tw ∧ Below W.heap.size W w')) (HW : Hid (∀ (W : World) (A1 : Option Addr) (d1 : Nat) (A2 : Option Addr) (d2 : Nat), IntsIn W A1 tp → IntsIn W A2 tw → Calls Try.prog 40 #[.agg #[.int .i64 m.rings, .int .i64 m.give, .int .i64 m.plo, .int .i64 m.phi, .int .i64 m.wlo, .int .i64 m.whi, .int .i64 m.st, .int .i64 m.shrink, .int .i64 m.skin, .int .i64 m.fill, .int .i64 m.gap, .int .i64 m.deep], .agg #[.slice A1 (kR m) d1, .slice A2 N d2]] W fun e w' => ∃ A c, e = .returned (.slice A (kR m) c) ∧ IntsIn w' A wl ∧ Below W.heap.size W w')) {Q : Exit → Act → World → Prop} {s0 s1 s2 s4 s6 s7 s8 s9 s10 s11 s12 s13 s15 s16 s17 s18 s19 s20 s21 s22 s23 s24 s25 s26 s27 s28 s29 s30 s31 s32 s33 s34 s35 s36 s37 s38 s39 s40 s41 s42 s43 s44 s45 s46 s47 s48 s49 s50 s51 s52 s53 s54 s55 s56 s57 s58 s59 s60 s61 s62 s63 s64 s65 s66 s67 s68 s69 s70 s71 s72 s73 s74 s75 s76 s77 s78 s79 s80 s81 s82 s83 s84 s85 s86 s87 s88 s89 s90 s91 s92 s93 s94 s95 s96 s97 s98 s99 s100 s101 s107 s108 s109 s110 s111 s112 s113 s114 s115 s116 s117 s118 s119 s120 s121 s122 s123 s124 s125 s126 s127 s128 : Value} {W0 : World} (HL : Hid (S W0))
    (HQ : Hid (∀ (u : Nat → Value) (A_5 : Option Addr) (c_5 : Nat) (W : World), IntsIn W A_5 wl → S W → Q .normal ⟨#[s0, s1, s2, .pointer (some ⟨w.heap.size, 0, none⟩), s4, .pointer (some ⟨w.heap.size + 1, 0, none⟩), s6, s7, s8, s9, s10, s11, s12, s13, .slice A_5 (kR m) c_5, s15, s16, s17, s18, s19, s20, s21, s22, s23, s24, s25, s26, s27, s28, s29, s30, s31, s32, s33, s34, s35, s36, s37, s38, s39, s40, s41, s42, s43, s44, s45, s46, s47, s48, s49, s50, s51, s52, s53, s54, s55, s56, s57, s58, s59, s60, s61, s62, s63, s64, s65, s66, s67, s68, s69, s70, s71, s72, s73, s74, s75, s76, s77, s78, s79, s80, s81, s82, s83, s84, s85, s86, s87, s88, s89, s90, s91, s92, s93, s94, s95, s96, s97, s98, s99, s100, s101, u 0, u 1, u 2, u 3, u 4, s107, s108, s109, s110, s111, s112, s113, s114, s115, s116, s117, s118, s119, s120, s121, s122, s123, s124, s125, s126, s127, s128], []⟩ W)) :
    Code.wp Try.prog ((Try.f7.body.bind (regionAt 16)).getD .skip) Q ⟨#[s0, s1, s2, .pointer (some ⟨w.heap.size, 0, none⟩), s4, .pointer (some ⟨w.heap.size + 1, 0, none⟩), s6, s7, s8, s9, s10, s11, s12, s13, undef, s15, s16, s17, s18, s19, s20, s21, s22, s23, s24, s25, s26, s27, s28, s29, s30, s31, s32, s33, s34, s35, s36, s37, s38, s39, s40, s41, s42, s43, s44, s45, s46, s47, s48, s49, s50, s51, s52, s53, s54, s55, s56, s57, s58, s59, s60, s61, s62, s63, s64, s65, s66, s67, s68, s69, s70, s71, s72, s73, s74, s75, s76, s77, s78, s79, s80, s81, s82, s83, s84, s85, s86, s87, s88, s89, s90, s91, s92, s93, s94, s95, s96, s97, s98, s99, s100, s101, undef, undef, undef, undef, undef, s107, s108, s109, s110, s111, s112, s113, s114, s115, s116, s117, s118, s119, s120, s121, s122, s123, s124, s125, s126, s127, s128], []⟩ W0 := by
  conv => arg 2; whnf
  refine wp_region_spec (by kernel_rfl) 6 (by kernel_rfl) (fun u => ⟨#[s0, s1, s2, .pointer (some ⟨w.heap.size, 0, none⟩), s4, .pointer (some ⟨w.heap.size + 1, 0, none⟩), s6, s7, s8, s9, s10, s11, s12, s13, u 5, s15, s16, s17, s18, s19, s20, s21, s22, s23, s24, s25, s26, s27, s28, s29, s30, s31, s32, s33, s34, s35, s36, s37, s38, s39, s40, s41, s42, s43, s44, s45, s46, s47, s48, s49, s50, s51, s52, s53, s54, s55, s56, s57, s58, s59, s60, s61, s62, s63, s64, s65, s66, s67, s68, s69, s70, s71, s72, s73, s74, s75, s76, s77, s78, s79, s80, s81, s82, s83, s84, s85, s86, s87, s88, s89, s90, s91, s92, s93, s94, s95, s96, s97, s98, s99, s100, s101, u 0, u 1, u 2, u 3, u 4, s107, s108, s109, s110, s111, s112, s113, s114, s115, s116, s117, s118, s119, s120, s121, s122, s123, s124, s125, s126, s127, s128], []⟩) (fun i => undef) (fun W => Hid (S W)) (lt16R m N Y1 n1 c1 Y2 n2 c2 tp tw wl) (by kernel_rfl) (hon _ _ HL.out (Below.refl _ _).drew) (fun i v W W2 hi h hb => lt16R_on m N Y1 n1 c1 Y2 n2 c2 tp tw wl i hi v W W2 h hb) (by decide +kernel) ?_ ?_
  · iterate 6 (refine all_succ ?_ ?_)
    · exact all_zero
    · intro u W hB _ hd _ K hK
      have HK := Lib.hid hK; clear hK
      refine wpOp_of rfl (by rfl) ?_
      obtain ⟨c0, c1, c2, c3, c4, c5, c6, c7, c8, c9, c10, c11⟩ := (hM W hB.out).cells
      go_simp
      exact k_of (HK.out (.agg #[.int .i64 m.rings, .int .i64 m.give, .int .i64 m.plo, .int .i64 m.phi, .int .i64 m.wlo, .int .i64 m.whi, .int .i64 m.st, .int .i64 m.shrink, .int .i64 m.skin, .int .i64 m.fill, .int .i64 m.gap, .int .i64 m.deep]) _ rfl hB (Below.refl _ _)) (by kernel_rfl)
    · intro u W hB _ hd _ K hK
      have HK := Lib.hid hK; clear hK
      refine wpOp_of rfl (by rfl) ?_
      obtain ⟨c0, c1, c2, c3, c4, c5, c6, c7, c8, c9, c10, c11⟩ := (hM W hB.out).cells
      go_simp
      exact k_of (HK.out (.agg #[.int .i64 m.rings, .int .i64 m.give, .int .i64 m.plo, .int .i64 m.phi, .int .i64 m.wlo, .int .i64 m.whi, .int .i64 m.st, .int .i64 m.shrink, .int .i64 m.skin, .int .i64 m.fill, .int .i64 m.gap, .int .i64 m.deep]) _ rfl hB (Below.refl _ _)) (by kernel_rfl)
    · intro u W hB _ hd _ K hK
      have HK := Lib.hid hK; clear hK
      refine wpOp_of rfl (by rfl) ?_
      have y0 := (hY W hB.out).cell 0; have y1 := (hY W hB.out).cell 1
      go_simp
      exact k_of (HK.out (.agg #[.slice Y1 n1 c1, .slice Y2 n2 c2]) _ rfl hB (Below.refl _ _)) (by kernel_rfl)
    · intro u W hB _ hd _ K hK
      have HK := Lib.hid hK; clear hK
      have e1 : u 1 = .agg #[.int .i64 m.rings, .int .i64 m.give, .int .i64 m.plo, .int .i64 m.phi, .int .i64 m.wlo, .int .i64 m.whi, .int .i64 m.st, .int .i64 m.shrink, .int .i64 m.skin, .int .i64 m.fill, .int .i64 m.gap, .int .i64 m.deep] := hd 1 (by decide +kernel)
      have e2 : u 2 = .agg #[.slice Y1 n1 c1, .slice Y2 n2 c2] := hd 2 (by decide +kernel)
      refine wpOp_of rfl (by rfl) ?_
      go_simp
      refine (HT.out W hB.out).mono ?_
      rintro e w' ⟨A1, d1, A2, d2, rfl, i1, i2, hb⟩
      exact k_of (HK.out (.agg #[.slice A1 (kR m) d1, .slice A2 N d2]) _ ⟨A1, d1, A2, d2, rfl, i1, i2⟩ (hon _ _ hB.out hb) hb) (by rw [← u1_eq e1, ← u1_eq e2]; kernel_rfl)
    · intro u W hB _ hd _ K hK
      have HK := Lib.hid hK; clear hK
      have e0 : u 0 = .agg #[.int .i64 m.rings, .int .i64 m.give, .int .i64 m.plo, .int .i64 m.phi, .int .i64 m.wlo, .int .i64 m.whi, .int .i64 m.st, .int .i64 m.shrink, .int .i64 m.skin, .int .i64 m.fill, .int .i64 m.gap, .int .i64 m.deep] := hd 0 (by decide +kernel)
      obtain ⟨A1_3, d1_3, A2_3, d2_3, e3, f3_0, f3_1⟩ : lt16R m N Y1 n1 c1 Y2 n2 c2 tp tw wl 3 (u 3) W := hd 3 (by decide +kernel)
      refine wpOp_of rfl (by rfl) ?_
      go_simp
      refine (HW.out W A1_3 d1_3 A2_3 d2_3 f3_0 f3_1).mono ?_
      rintro e w' ⟨A, c, rfl, i1, hb⟩
      exact k_of (HK.out (.slice A (kR m) c) _ ⟨A, c, rfl, i1⟩ (hon _ _ hB.out hb) hb) (by rw [← u1_eq e0, ← u1_eq e3]; kernel_rfl)
    · intro u W hB _ hd _ K hK
      have HK := Lib.hid hK; clear hK
      obtain ⟨A_4, c_4, e4, f4_0⟩ : lt16R m N Y1 n1 c1 Y2 n2 c2 tp tw wl 4 (u 4) W := hd 4 (by decide +kernel)
      refine wpOp_of rfl (by rfl) ?_
      go_simp
      exact k_of (HK.out (.slice A_4 (kR m) c_4) _ ⟨A_4, c_4, rfl, f4_0⟩ hB (Below.refl _ _)) (by rw [← u1_eq e4]; kernel_rfl)
  · intro u W hB hd
    obtain ⟨A_5, c_5, e5, f5_0⟩ : lt16R m N Y1 n1 c1 Y2 n2 c2 tp tw wl 5 (u 5) W := hd 5 (by decide)
    exact k_of (HQ.out u A_5 c_5 W f5_0 hB.out) (by simp only [e5])
end Go.Proofs.Ytljbjcnfkbmjkaa

namespace Go.Proofs.Ytljbjcnfkbmjkaa
open Go.RowKit Go.Shelf Go.Maps
attribute [local go_sem] Oper.semAt_some

/-- What each operation leaves. -/
def lt11R (b1 o1 c1 b2 o2 c2 k rl : Nat) (x p q : Int) : Nat → Value → World → Prop
  | 0, v, _ => v = .slice (some ⟨b2, o2, none⟩) rl c2
  | 1, v, _ => v = .int .i64 (k : Int)
  | 2, v, _ => v = .pointer (some ⟨b2, o2 + k, none⟩)
  | 3, v, _ => v = .int .i64 x
  | 4, v, _ => v = .slice (some ⟨b1, o1, none⟩) rl c1
  | 5, v, _ => v = .int .i64 (k : Int)
  | 6, v, _ => v = .pointer (some ⟨b1, o1 + k * 2, none⟩)
  | 7, v, _ => v = .agg #[.int .i64 p, .int .i64 q]
  | 8, v, _ => v = .bool true
  | 9, v, _ => v = .bool false
  | _, _, _ => True
theorem lt11R_on (b1 o1 c1 b2 o2 c2 k rl : Nat) (x p q : Int) : ∀ i, i < 10 → ∀ v W W', lt11R b1 o1 c1 b2 o2 c2 k rl x p q i v W → Below W.heap.size W W' → lt11R b1 o1 c1 b2 o2 c2 k rl x p q i v W' := by
  iterate 10 (refine all_succ ?_ ?_)
  · exact all_zero
  · exact fun _ _ _ h _ => h
  · exact fun _ _ _ h _ => h
  · exact fun _ _ _ h _ => h
  · exact fun _ _ _ h _ => h
  · exact fun _ _ _ h _ => h
  · exact fun _ _ _ h _ => h
  · exact fun _ _ _ h _ => h
  · exact fun _ _ _ h _ => h
  · exact fun _ _ _ h _ => h
  · exact fun _ _ _ h _ => h
set_option maxRecDepth 100000 in
set_option maxHeartbeats 8000000 in
theorem lt11_region {S : World → Prop} (hon : ∀ W W', S W → Below W.heap.size W W' → S W') {b1 o1 c1 b2 o2 c2 k rl : Nat} {x p q : Int} (hk : (k : Int) < rl) (h1 : ∀ W, S W → W.cell? ⟨b1, o1 + k * 2, none⟩ = some (.int .i64 p) ∧ W.cell? ⟨b1, o1 + k * 2 + 1, none⟩ = some (.int .i64 q)) (h2 : ∀ W, S W → W.cell? ⟨b2, o2 + k, none⟩ = some (.int .i64 x)) (hin : inB x p q = true) {Q : Exit → Act → World → Prop} {s0 s1 s2 s3 s4 s5 s6 s7 s9 s11 s13 s14 s15 s16 s17 s18 s19 s20 s21 s22 s23 s24 s25 s26 s27 s28 s29 s30 s31 s32 s33 s34 s35 s36 s37 s38 s39 s40 s41 s42 s43 s44 s45 s46 s47 s48 s49 s50 s51 s52 s53 s54 s55 s56 s57 s58 s59 s60 s61 s62 s63 s64 s65 s66 s67 s68 s69 s70 s71 s72 s73 s74 s85 s86 s87 s88 s89 s90 s91 s92 s93 s94 s95 s96 s97 s98 s99 s100 s101 s102 s103 s104 s105 s106 s107 s108 s109 s110 s111 s112 s113 s114 s115 s116 s117 s118 s119 s120 s121 s122 s123 s124 s125 s126 s127 s128 s75 s76 s77 s78 s79 s80 s81 s82 s83 s84 : Value} {W0 : World} (HL : Hid (S W0))
    (HQ : Hid (∀ (u : Nat → Value) (W : World), S W → Q .normal ⟨#[s0, s1, s2, s3, s4, s5, s6, s7, .slice (some ⟨b1, o1, none⟩) rl c1, s9, .slice (some ⟨b2, o2, none⟩) rl c2, s11, .int .i64 (k : Int), s13, s14, s15, s16, s17, s18, s19, s20, s21, s22, s23, s24, s25, s26, s27, s28, s29, s30, s31, s32, s33, s34, s35, s36, s37, s38, s39, s40, s41, s42, s43, s44, s45, s46, s47, s48, s49, s50, s51, s52, s53, s54, s55, s56, s57, s58, s59, s60, s61, s62, s63, s64, s65, s66, s67, s68, s69, s70, s71, s72, s73, s74, u 0, u 1, u 2, u 3, u 4, u 5, u 6, u 7, u 8, .bool false, s85, s86, s87, s88, s89, s90, s91, s92, s93, s94, s95, s96, s97, s98, s99, s100, s101, s102, s103, s104, s105, s106, s107, s108, s109, s110, s111, s112, s113, s114, s115, s116, s117, s118, s119, s120, s121, s122, s123, s124, s125, s126, s127, s128], []⟩ W)) :
    Code.wp Try.prog ((Try.f7.body.bind (regionAt 11)).getD .skip) Q ⟨#[s0, s1, s2, s3, s4, s5, s6, s7, .slice (some ⟨b1, o1, none⟩) rl c1, s9, .slice (some ⟨b2, o2, none⟩) rl c2, s11, .int .i64 (k : Int), s13, s14, s15, s16, s17, s18, s19, s20, s21, s22, s23, s24, s25, s26, s27, s28, s29, s30, s31, s32, s33, s34, s35, s36, s37, s38, s39, s40, s41, s42, s43, s44, s45, s46, s47, s48, s49, s50, s51, s52, s53, s54, s55, s56, s57, s58, s59, s60, s61, s62, s63, s64, s65, s66, s67, s68, s69, s70, s71, s72, s73, s74, s75, s76, s77, s78, s79, s80, s81, s82, s83, s84, s85, s86, s87, s88, s89, s90, s91, s92, s93, s94, s95, s96, s97, s98, s99, s100, s101, s102, s103, s104, s105, s106, s107, s108, s109, s110, s111, s112, s113, s114, s115, s116, s117, s118, s119, s120, s121, s122, s123, s124, s125, s126, s127, s128], []⟩ W0 := by
  conv => arg 2; whnf
  refine wp_region_spec (by kernel_rfl) 10 (by kernel_rfl) (fun u => ⟨#[s0, s1, s2, s3, s4, s5, s6, s7, .slice (some ⟨b1, o1, none⟩) rl c1, s9, .slice (some ⟨b2, o2, none⟩) rl c2, s11, .int .i64 (k : Int), s13, s14, s15, s16, s17, s18, s19, s20, s21, s22, s23, s24, s25, s26, s27, s28, s29, s30, s31, s32, s33, s34, s35, s36, s37, s38, s39, s40, s41, s42, s43, s44, s45, s46, s47, s48, s49, s50, s51, s52, s53, s54, s55, s56, s57, s58, s59, s60, s61, s62, s63, s64, s65, s66, s67, s68, s69, s70, s71, s72, s73, s74, u 0, u 1, u 2, u 3, u 4, u 5, u 6, u 7, u 8, u 9, s85, s86, s87, s88, s89, s90, s91, s92, s93, s94, s95, s96, s97, s98, s99, s100, s101, s102, s103, s104, s105, s106, s107, s108, s109, s110, s111, s112, s113, s114, s115, s116, s117, s118, s119, s120, s121, s122, s123, s124, s125, s126, s127, s128], []⟩) (fun i => if i = 0 then s75 else if i = 1 then s76 else if i = 2 then s77 else if i = 3 then s78 else if i = 4 then s79 else if i = 5 then s80 else if i = 6 then s81 else if i = 7 then s82 else if i = 8 then s83 else if i = 9 then s84 else undef) (fun W => Hid (S W)) (lt11R b1 o1 c1 b2 o2 c2 k rl x p q) (by kernel_rfl) (hon _ _ HL.out (Below.refl _ _).drew) (fun i v W W2 hi h hb => lt11R_on b1 o1 c1 b2 o2 c2 k rl x p q i hi v W W2 h hb) (by decide +kernel) ?_ ?_
  · iterate 10 (refine all_succ ?_ ?_)
    · exact all_zero
    · intro u W hB _ hd _ K hK
      have HK := Lib.hid hK; clear hK
      refine wpOp_of rfl (by rfl) ?_
      go_simp
      exact k_of (HK.out (.slice (some ⟨b2, o2, none⟩) rl c2) _ rfl hB (Below.refl _ _)) (by kernel_rfl)
    · intro u W hB _ hd _ K hK
      have HK := Lib.hid hK; clear hK
      refine wpOp_of rfl (by rfl) ?_
      go_simp
      exact k_of (HK.out (.int .i64 (k : Int)) _ rfl hB (Below.refl _ _)) (by kernel_rfl)
    · intro u W hB _ hd _ K hK
      have HK := Lib.hid hK; clear hK
      have e0 : u 0 = .slice (some ⟨b2, o2, none⟩) rl c2 := hd 0 (by decide +kernel)
      have e1 : u 1 = .int .i64 (k : Int) := hd 1 (by decide +kernel)
      refine wpOp_of rfl (by rfl) ?_
      go_simp
      exact k_of (HK.out (.pointer (some ⟨b2, o2 + k, none⟩)) _ rfl hB (Below.refl _ _)) (by rw [← u1_eq e0, ← u1_eq e1]; kernel_rfl)
    · intro u W hB _ hd _ K hK
      have HK := Lib.hid hK; clear hK
      have e2 : u 2 = .pointer (some ⟨b2, o2 + k, none⟩) := hd 2 (by decide +kernel)
      refine wpOp_of rfl (by rfl) ?_
      have d0 := h2 W hB.out
      go_simp
      exact k_of (HK.out (.int .i64 x) _ rfl hB (Below.refl _ _)) (by rw [← u1_eq e2]; kernel_rfl)
    · intro u W hB _ hd _ K hK
      have HK := Lib.hid hK; clear hK
      refine wpOp_of rfl (by rfl) ?_
      go_simp
      exact k_of (HK.out (.slice (some ⟨b1, o1, none⟩) rl c1) _ rfl hB (Below.refl _ _)) (by kernel_rfl)
    · intro u W hB _ hd _ K hK
      have HK := Lib.hid hK; clear hK
      refine wpOp_of rfl (by rfl) ?_
      go_simp
      exact k_of (HK.out (.int .i64 (k : Int)) _ rfl hB (Below.refl _ _)) (by kernel_rfl)
    · intro u W hB _ hd _ K hK
      have HK := Lib.hid hK; clear hK
      have e4 : u 4 = .slice (some ⟨b1, o1, none⟩) rl c1 := hd 4 (by decide +kernel)
      have e5 : u 5 = .int .i64 (k : Int) := hd 5 (by decide +kernel)
      refine wpOp_of rfl (by rfl) ?_
      go_simp
      exact k_of (HK.out (.pointer (some ⟨b1, o1 + k * 2, none⟩)) _ rfl hB (Below.refl _ _)) (by rw [← u1_eq e4, ← u1_eq e5]; kernel_rfl)
    · intro u W hB _ hd _ K hK
      have HK := Lib.hid hK; clear hK
      have e6 : u 6 = .pointer (some ⟨b1, o1 + k * 2, none⟩) := hd 6 (by decide +kernel)
      refine wpOp_of rfl (by rfl) ?_
      obtain ⟨d0, d1⟩ := h1 W hB.out
      go_simp
      exact k_of (HK.out (.agg #[.int .i64 p, .int .i64 q]) _ rfl hB (Below.refl _ _)) (by rw [← u1_eq e6]; kernel_rfl)
    · intro u W hB _ hd _ K hK
      have HK := Lib.hid hK; clear hK
      have e3 : u 3 = .int .i64 x := hd 3 (by decide +kernel)
      have e7 : u 7 = .agg #[.int .i64 p, .int .i64 q] := hd 7 (by decide +kernel)
      refine wpOp_of rfl (by rfl) ?_
      go_simp
      have hi := inside_any x p q W
      rw [hin] at hi
      refine hi.mono ?_
      rintro e w' ⟨rfl, hb⟩
      exact k_of (HK.out (.bool true) _ rfl (hon _ _ hB.out hb) hb) (by rw [← u1_eq e3, ← u1_eq e7]; kernel_rfl)
    · intro u W hB _ hd _ K hK
      have HK := Lib.hid hK; clear hK
      have e8 : u 8 = .bool true := hd 8 (by decide +kernel)
      refine wpOp_of rfl (by rfl) ?_
      go_simp
      exact k_of (HK.out (.bool false) _ rfl hB (Below.refl _ _)) (by rw [← u1_eq e8]; kernel_rfl)
  · intro u W hB hd
    have e9 : u 9 = .bool false := hd 9 (by decide)
    exact k_of (HQ.out u W hB.out) (by simp only [e9])

/-- What each operation leaves. -/
def lt22R (b1 o1 c1 b2 o2 c2 k rl : Nat) (x p q : Int) : Nat → Value → World → Prop
  | 0, v, _ => v = .slice (some ⟨b2, o2, none⟩) rl c2
  | 1, v, _ => v = .int .i64 (k : Int)
  | 2, v, _ => v = .pointer (some ⟨b2, o2 + k, none⟩)
  | 3, v, _ => v = .int .i64 x
  | 4, v, _ => v = .slice (some ⟨b1, o1, none⟩) rl c1
  | 5, v, _ => v = .int .i64 (k : Int)
  | 6, v, _ => v = .pointer (some ⟨b1, o1 + k * 2, none⟩)
  | 7, v, _ => v = .agg #[.int .i64 p, .int .i64 q]
  | 8, v, _ => v = .bool true
  | 9, v, _ => v = .bool false
  | _, _, _ => True
theorem lt22R_on (b1 o1 c1 b2 o2 c2 k rl : Nat) (x p q : Int) : ∀ i, i < 10 → ∀ v W W', lt22R b1 o1 c1 b2 o2 c2 k rl x p q i v W → Below W.heap.size W W' → lt22R b1 o1 c1 b2 o2 c2 k rl x p q i v W' := by
  iterate 10 (refine all_succ ?_ ?_)
  · exact all_zero
  · exact fun _ _ _ h _ => h
  · exact fun _ _ _ h _ => h
  · exact fun _ _ _ h _ => h
  · exact fun _ _ _ h _ => h
  · exact fun _ _ _ h _ => h
  · exact fun _ _ _ h _ => h
  · exact fun _ _ _ h _ => h
  · exact fun _ _ _ h _ => h
  · exact fun _ _ _ h _ => h
  · exact fun _ _ _ h _ => h
set_option maxRecDepth 100000 in
set_option maxHeartbeats 8000000 in
theorem lt22_region {S : World → Prop} (hon : ∀ W W', S W → Below W.heap.size W W' → S W') {b1 o1 c1 b2 o2 c2 k rl : Nat} {x p q : Int} (hk : (k : Int) < rl) (h1 : ∀ W, S W → W.cell? ⟨b1, o1 + k * 2, none⟩ = some (.int .i64 p) ∧ W.cell? ⟨b1, o1 + k * 2 + 1, none⟩ = some (.int .i64 q)) (h2 : ∀ W, S W → W.cell? ⟨b2, o2 + k, none⟩ = some (.int .i64 x)) (hin : inB x p q = true) {Q : Exit → Act → World → Prop} {s0 s1 s2 s3 s4 s5 s6 s7 s8 s9 s10 s11 s12 s16 s17 s18 s19 s20 s21 s22 s23 s24 s25 s26 s27 s28 s29 s30 s31 s32 s33 s34 s35 s36 s37 s38 s39 s40 s41 s42 s43 s44 s45 s46 s47 s48 s49 s50 s51 s52 s53 s54 s55 s56 s57 s58 s59 s60 s61 s62 s63 s64 s65 s66 s67 s68 s69 s70 s71 s72 s73 s74 s75 s76 s77 s78 s79 s80 s81 s82 s83 s84 s85 s86 s87 s88 s89 s90 s91 s92 s93 s94 s95 s96 s97 s98 s99 s100 s101 s102 s103 s104 s105 s106 s107 s108 s109 s110 s111 s112 s113 s114 s115 s116 s117 s128 s118 s119 s120 s121 s122 s123 s124 s125 s126 s127 : Value} {W0 : World} (HL : Hid (S W0))
    (HQ : Hid (∀ (u : Nat → Value) (W : World), S W → Q .normal ⟨#[s0, s1, s2, s3, s4, s5, s6, s7, s8, s9, s10, s11, s12, .slice (some ⟨b1, o1, none⟩) rl c1, .slice (some ⟨b2, o2, none⟩) rl c2, .int .i64 (k : Int), s16, s17, s18, s19, s20, s21, s22, s23, s24, s25, s26, s27, s28, s29, s30, s31, s32, s33, s34, s35, s36, s37, s38, s39, s40, s41, s42, s43, s44, s45, s46, s47, s48, s49, s50, s51, s52, s53, s54, s55, s56, s57, s58, s59, s60, s61, s62, s63, s64, s65, s66, s67, s68, s69, s70, s71, s72, s73, s74, s75, s76, s77, s78, s79, s80, s81, s82, s83, s84, s85, s86, s87, s88, s89, s90, s91, s92, s93, s94, s95, s96, s97, s98, s99, s100, s101, s102, s103, s104, s105, s106, s107, s108, s109, s110, s111, s112, s113, s114, s115, s116, s117, u 0, u 1, u 2, u 3, u 4, u 5, u 6, u 7, u 8, .bool false, s128], []⟩ W)) :
    Code.wp Try.prog ((Try.f7.body.bind (regionAt 22)).getD .skip) Q ⟨#[s0, s1, s2, s3, s4, s5, s6, s7, s8, s9, s10, s11, s12, .slice (some ⟨b1, o1, none⟩) rl c1, .slice (some ⟨b2, o2, none⟩) rl c2, .int .i64 (k : Int), s16, s17, s18, s19, s20, s21, s22, s23, s24, s25, s26, s27, s28, s29, s30, s31, s32, s33, s34, s35, s36, s37, s38, s39, s40, s41, s42, s43, s44, s45, s46, s47, s48, s49, s50, s51, s52, s53, s54, s55, s56, s57, s58, s59, s60, s61, s62, s63, s64, s65, s66, s67, s68, s69, s70, s71, s72, s73, s74, s75, s76, s77, s78, s79, s80, s81, s82, s83, s84, s85, s86, s87, s88, s89, s90, s91, s92, s93, s94, s95, s96, s97, s98, s99, s100, s101, s102, s103, s104, s105, s106, s107, s108, s109, s110, s111, s112, s113, s114, s115, s116, s117, s118, s119, s120, s121, s122, s123, s124, s125, s126, s127, s128], []⟩ W0 := by
  conv => arg 2; whnf
  refine wp_region_spec (by kernel_rfl) 10 (by kernel_rfl) (fun u => ⟨#[s0, s1, s2, s3, s4, s5, s6, s7, s8, s9, s10, s11, s12, .slice (some ⟨b1, o1, none⟩) rl c1, .slice (some ⟨b2, o2, none⟩) rl c2, .int .i64 (k : Int), s16, s17, s18, s19, s20, s21, s22, s23, s24, s25, s26, s27, s28, s29, s30, s31, s32, s33, s34, s35, s36, s37, s38, s39, s40, s41, s42, s43, s44, s45, s46, s47, s48, s49, s50, s51, s52, s53, s54, s55, s56, s57, s58, s59, s60, s61, s62, s63, s64, s65, s66, s67, s68, s69, s70, s71, s72, s73, s74, s75, s76, s77, s78, s79, s80, s81, s82, s83, s84, s85, s86, s87, s88, s89, s90, s91, s92, s93, s94, s95, s96, s97, s98, s99, s100, s101, s102, s103, s104, s105, s106, s107, s108, s109, s110, s111, s112, s113, s114, s115, s116, s117, u 0, u 1, u 2, u 3, u 4, u 5, u 6, u 7, u 8, u 9, s128], []⟩) (fun i => if i = 0 then s118 else if i = 1 then s119 else if i = 2 then s120 else if i = 3 then s121 else if i = 4 then s122 else if i = 5 then s123 else if i = 6 then s124 else if i = 7 then s125 else if i = 8 then s126 else if i = 9 then s127 else undef) (fun W => Hid (S W)) (lt22R b1 o1 c1 b2 o2 c2 k rl x p q) (by kernel_rfl) (hon _ _ HL.out (Below.refl _ _).drew) (fun i v W W2 hi h hb => lt22R_on b1 o1 c1 b2 o2 c2 k rl x p q i hi v W W2 h hb) (by decide +kernel) ?_ ?_
  · iterate 10 (refine all_succ ?_ ?_)
    · exact all_zero
    · intro u W hB _ hd _ K hK
      have HK := Lib.hid hK; clear hK
      refine wpOp_of rfl (by rfl) ?_
      go_simp
      exact k_of (HK.out (.slice (some ⟨b2, o2, none⟩) rl c2) _ rfl hB (Below.refl _ _)) (by kernel_rfl)
    · intro u W hB _ hd _ K hK
      have HK := Lib.hid hK; clear hK
      refine wpOp_of rfl (by rfl) ?_
      go_simp
      exact k_of (HK.out (.int .i64 (k : Int)) _ rfl hB (Below.refl _ _)) (by kernel_rfl)
    · intro u W hB _ hd _ K hK
      have HK := Lib.hid hK; clear hK
      have e0 : u 0 = .slice (some ⟨b2, o2, none⟩) rl c2 := hd 0 (by decide +kernel)
      have e1 : u 1 = .int .i64 (k : Int) := hd 1 (by decide +kernel)
      refine wpOp_of rfl (by rfl) ?_
      go_simp
      exact k_of (HK.out (.pointer (some ⟨b2, o2 + k, none⟩)) _ rfl hB (Below.refl _ _)) (by rw [← u1_eq e0, ← u1_eq e1]; kernel_rfl)
    · intro u W hB _ hd _ K hK
      have HK := Lib.hid hK; clear hK
      have e2 : u 2 = .pointer (some ⟨b2, o2 + k, none⟩) := hd 2 (by decide +kernel)
      refine wpOp_of rfl (by rfl) ?_
      have d0 := h2 W hB.out
      go_simp
      exact k_of (HK.out (.int .i64 x) _ rfl hB (Below.refl _ _)) (by rw [← u1_eq e2]; kernel_rfl)
    · intro u W hB _ hd _ K hK
      have HK := Lib.hid hK; clear hK
      refine wpOp_of rfl (by rfl) ?_
      go_simp
      exact k_of (HK.out (.slice (some ⟨b1, o1, none⟩) rl c1) _ rfl hB (Below.refl _ _)) (by kernel_rfl)
    · intro u W hB _ hd _ K hK
      have HK := Lib.hid hK; clear hK
      refine wpOp_of rfl (by rfl) ?_
      go_simp
      exact k_of (HK.out (.int .i64 (k : Int)) _ rfl hB (Below.refl _ _)) (by kernel_rfl)
    · intro u W hB _ hd _ K hK
      have HK := Lib.hid hK; clear hK
      have e4 : u 4 = .slice (some ⟨b1, o1, none⟩) rl c1 := hd 4 (by decide +kernel)
      have e5 : u 5 = .int .i64 (k : Int) := hd 5 (by decide +kernel)
      refine wpOp_of rfl (by rfl) ?_
      go_simp
      exact k_of (HK.out (.pointer (some ⟨b1, o1 + k * 2, none⟩)) _ rfl hB (Below.refl _ _)) (by rw [← u1_eq e4, ← u1_eq e5]; kernel_rfl)
    · intro u W hB _ hd _ K hK
      have HK := Lib.hid hK; clear hK
      have e6 : u 6 = .pointer (some ⟨b1, o1 + k * 2, none⟩) := hd 6 (by decide +kernel)
      refine wpOp_of rfl (by rfl) ?_
      obtain ⟨d0, d1⟩ := h1 W hB.out
      go_simp
      exact k_of (HK.out (.agg #[.int .i64 p, .int .i64 q]) _ rfl hB (Below.refl _ _)) (by rw [← u1_eq e6]; kernel_rfl)
    · intro u W hB _ hd _ K hK
      have HK := Lib.hid hK; clear hK
      have e3 : u 3 = .int .i64 x := hd 3 (by decide +kernel)
      have e7 : u 7 = .agg #[.int .i64 p, .int .i64 q] := hd 7 (by decide +kernel)
      refine wpOp_of rfl (by rfl) ?_
      go_simp
      have hi := inside_any x p q W
      rw [hin] at hi
      refine hi.mono ?_
      rintro e w' ⟨rfl, hb⟩
      exact k_of (HK.out (.bool true) _ rfl (hon _ _ hB.out hb) hb) (by rw [← u1_eq e3, ← u1_eq e7]; kernel_rfl)
    · intro u W hB _ hd _ K hK
      have HK := Lib.hid hK; clear hK
      have e8 : u 8 = .bool true := hd 8 (by decide +kernel)
      refine wpOp_of rfl (by rfl) ?_
      go_simp
      exact k_of (HK.out (.bool false) _ rfl hB (Below.refl _ _)) (by rw [← u1_eq e8]; kernel_rfl)
  · intro u W hB hd
    have e9 : u 9 = .bool false := hd 9 (by decide)
    exact k_of (HQ.out u W hB.out) (by simp only [e9])
end Go.Proofs.Ytljbjcnfkbmjkaa
