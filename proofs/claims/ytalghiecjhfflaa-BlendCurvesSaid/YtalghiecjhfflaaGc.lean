/- Layer blend, a part: blends. No statement is proved here. -/
import Derived.Test.YtalghiecjhfflaaGa
import Derived.Test.YtalghiecjhfflaaProg
import Derived.WalkSpells
import Derived.WalkLawsBesides
import Derived.Outline
import Derived.Deep.RegionHeld3
import Derived.Deep.QuietTactic
import Derived.BigQuiet
import Derived.Shelf.Abstract
namespace Go.Proofs.Ytalghiecjhfflaa
open Go.RowKit Go.Shelf

/-- A point of a curve; a wax and where its curve lies; a wish and where its parts lie; a lot. -/
structure Pt where
  p : Int
  a : Int
structure Bw where
  nm : ByteArray
  pr : Int
  mlo : Int
  mhi : Int
  slo : Int
  shi : Int
  ca : Option Addr
  cv : List Pt
  cc : Nat
structure Ws where
  ps : List (Int × Int)
  mlo : Int
  mhi : Int
  slo : Int
  shi : Int

/-- The error of a curve, behind a point with so many parts. -/
def curveE : Int → List Pt → Int
  | _, [] => 0
  | bef, q :: l => if inB q.p 0 20 = false ∨ inB q.a (-300) 300 = false then 7 else if q.p ≤ bef then 2 else curveE q.p l
/-- The error of a wax. -/
def bwE (l : List Bw) (i : Nat) : Int := match l[i]? with
  | some x => if nameErr ((l.take i).map Bw.nm) x.nm ≠ 0 then nameErr ((l.take i).map Bw.nm) x.nm
    else if rangeE 0 100000 [x.pr] ≠ 0 ∨ rangeE 0 2000 [x.mlo, x.mhi] ≠ 0 ∨ rangeE 0 1000 [x.slo, x.shi] ≠ 0 then 7
    else if x.mhi < x.mlo ∨ x.shi < x.slo then 2
    else if 6 < x.cv.length then 3 else curveE (-1) x.cv
  | none => 0
def checkB (l : List Bw) : Int × Int × Int := if inB l.length 1 5 = true then (match firstAt (bwE l) l.length with
  | some (i, e) => (2, i, e)
  | none => (0, 0, 0)) else (1, 0, 3)
def bdE (l : List Bw) : Int := (checkB l).2.2
def sumL : List Int → Int
  | [] => 0
  | x :: l => x + sumL l
def recE (m : Nat) (r : List Int) : Int := if r.length ≠ m then 3 else if rangeE 0 20 r ≠ 0 then 7 else if sumL r ≠ 20 then 2 else 0
def wishE (m : Nat) (w : Ws) : Int := if w.ps.length ≠ m then 3 else if (∃ s ∈ w.ps, rangeE 0 20 [s.1, s.2] ≠ 0) ∨ rangeE 0 2000 [w.mlo, w.mhi] ≠ 0 ∨ rangeE 0 1000 [w.slo, w.shi] ≠ 0 then 7 else if (∃ s ∈ w.ps, s.2 < s.1) ∨ w.mhi < w.mlo ∨ w.shi < w.slo then 2 else 0

/-- A valid curve, wax. -/
def CvIn (l : List Pt) : Prop := ∀ q ∈ l, (0 ≤ q.p ∧ q.p ≤ 20) ∧ -300 ≤ q.a ∧ q.a ≤ 300
structure BwOk (x : Bw) : Prop where
  pr : 0 ≤ x.pr ∧ x.pr ≤ 100000
  m : 0 ≤ x.mlo ∧ x.mlo ≤ x.mhi ∧ x.mhi ≤ 2000
  s : 0 ≤ x.slo ∧ x.slo ≤ x.shi ∧ x.shi ≤ 1000
  len : x.cv.length ≤ 6
  cv : CvIn x.cv
  up : x.cv.Pairwise fun a b => a.p < b.p
theorem curve_ok : ∀ {l : List Pt} {bef : Int}, curveE bef l = 0 → CvIn l ∧ (l.Pairwise fun a b => a.p < b.p) ∧ ∀ q ∈ l, bef < q.p
  | [], bef, _ => ⟨fun q hq => (by cases hq), List.Pairwise.nil, fun q hq => (by cases hq)⟩
  | q :: l, bef, h => by
    unfold curveE at h
    split at h
    · cases h
    · rename_i h1
      split at h
      · cases h
      · rename_i h2
        obtain ⟨a, b, c⟩ := curve_ok h
        have h3 : inB q.p 0 20 = true := by
          cases e : inB q.p 0 20 with
          | true => rfl
          | false => exact absurd (.inl e) h1
        have h4 : inB q.a (-300) 300 = true := by
          cases e : inB q.a (-300) 300 with
          | true => rfl
          | false => exact absurd (.inr e) h1
        rw [inB_iff] at h3 h4
        refine ⟨fun r hr => ?_, List.pairwise_cons.2 ⟨c, b⟩, fun r hr => ?_⟩
        · rcases List.mem_cons.1 hr with rfl | hr
          · exact ⟨h3, h4⟩
          · exact a r hr
        · rcases List.mem_cons.1 hr with rfl | hr
          · omega
          · have := c r hr; omega
theorem bw_ok {l : List Bw} {i : Nat} {x : Bw} (hx : l[i]? = some x) (h : bwE l i = 0) : BwOk x := by
  simp only [bwE, hx] at h
  split at h
  · rename_i h1; exact absurd h h1
  · split at h
    · cases h
    · rename_i h2
      split at h
      · cases h
      · rename_i h3
        split at h
        · cases h
        · rename_i h4
          obtain ⟨c1, c2, _⟩ := curve_ok h
          have r1 : rangeE 0 100000 [x.pr] = 0 := Classical.byContradiction fun e => h2 (.inl e)
          have r2 : rangeE 0 2000 [x.mlo, x.mhi] = 0 := Classical.byContradiction fun e => h2 (.inr (.inl e))
          have r3 : rangeE 0 1000 [x.slo, x.shi] = 0 := Classical.byContradiction fun e => h2 (.inr (.inr e))
          simp only [rangeE_zero, List.mem_cons, List.not_mem_nil, or_false, forall_eq_or_imp, forall_eq] at r1 r2 r3
          exact ⟨by omega, by omega, by omega, by omega, c1, c2⟩
theorem bd_ok {l : List Bw} (h : bdE l = 0) : (1 ≤ l.length ∧ l.length ≤ 5) ∧ ∀ x ∈ l, BwOk x := by
  unfold bdE checkB at h
  split at h
  · rename_i hn
    rw [inB_iff] at hn
    cases h1 : firstAt (bwE l) l.length with
    | some y => rw [h1] at h; exact absurd h (firstAt_ne h1)
    | none =>
      refine ⟨by omega, fun x hx => ?_⟩
      obtain ⟨i, hi, rfl⟩ := List.getElem_of_mem hx
      exact bw_ok (List.getElem?_eq_getElem hi) (firstAt_zero h1 i hi)
  · cases h

/-- a divided by b, which is above 0, rounded down. -/
def flo (a b : Int) : Int := a / b
theorem flo_t {a b : Int} (hb : 0 < b) (h : a.tmod b < 0) : flo a b = a.tdiv b - 1 := by
  unfold flo
  have h1 := Int.tdiv_mul_add_tmod a b
  have h2 := Int.emod_add_mul_ediv a b
  have h3 := Int.emod_nonneg a (show b ≠ 0 by omega)
  have h4 := Int.emod_lt_of_pos a hb
  have h5 : -b < a.tmod b := by
    have h6 := Int.tmod_lt_of_pos (-a) hb
    rw [Int.neg_tmod] at h6
    omega
  have e : b * (a / b) - b * (a.tdiv b - 1) = a.tmod b + b - a % b := by
    rw [Int.mul_sub, Int.mul_one, Int.mul_comm b (a.tdiv b)]
    omega
  rw [← Int.mul_sub] at e
  have h7 : -b < b * (a / b - (a.tdiv b - 1)) ∧ b * (a / b - (a.tdiv b - 1)) < b := by omega
  have h8 : a / b - (a.tdiv b - 1) = 0 := by
    generalize a / b - (a.tdiv b - 1) = z at h7
    rcases Int.lt_trichotomy z 0 with hz | hz | hz
    · have : b * z ≤ b * (-1) := Int.mul_le_mul_of_nonneg_left (by omega) (by omega)
      omega
    · exact hz
    · have : b * 1 ≤ b * z := Int.mul_le_mul_of_nonneg_left (by omega) (by omega)
      omega
  omega
theorem flo_f {a b : Int} (hb : 0 < b) (h : ¬ (a.tmod b < 0)) : flo a b = a.tdiv b := by
  unfold flo
  have h1 := Int.tdiv_mul_add_tmod a b
  have h2 := Int.emod_add_mul_ediv a b
  have h3 := Int.emod_nonneg a (show b ≠ 0 by omega)
  have h4 := Int.emod_lt_of_pos a hb
  have h5 := Int.tmod_lt_of_pos a hb
  have e : b * (a / b) - b * a.tdiv b = a.tmod b - a % b := by
    rw [Int.mul_comm b (a.tdiv b)]; omega
  rw [← Int.mul_sub] at e
  have h7 : -b < b * (a / b - a.tdiv b) ∧ b * (a / b - a.tdiv b) < b := by omega
  have h8 : a / b - a.tdiv b = 0 := by
    generalize a / b - a.tdiv b = z at h7
    rcases Int.lt_trichotomy z 0 with hz | hz | hz
    · have : b * z ≤ b * (-1) := Int.mul_le_mul_of_nonneg_left (by omega) (by omega)
      omega
    · exact hz
    · have : b * 1 ≤ b * z := Int.mul_le_mul_of_nonneg_left (by omega) (by omega)
      omega
  omega
/-- What a curve raises between two points. -/
def midV (f t : Pt) (n : Int) : Int := f.a + flo ((t.a - f.a) * (n - f.p)) (t.p - f.p)
/-- What a curve raises with so many parts: walked point by point. -/
def addW (n : Int) : Pt → List Pt → Int
  | f, [] => f.a
  | f, t :: l => if n ≤ t.p then midV f t n else addW n t l
def addV (n : Int) : List Pt → Int
  | [] => 0
  | f :: l => if n ≤ f.p then f.a else addW n f l
/-- .. and as the program finds it: by the first point that has as many parts. -/
theorem addW_at (n : Int) : ∀ (f : Pt) (l : List Pt), f.p < n → addW n f l = match (f :: l).findIdx? (fun q => decide (n ≤ q.p)) with
    | none => ((f :: l).getLast (by simp)).a
    | some k => match (f :: l)[k - 1]?, (f :: l)[k]? with
      | some a, some b => midV a b n
      | _, _ => 0
  | f, [], h => by
    have e : decide (n ≤ f.p) = false := decide_eq_false (by omega)
    simp [addW, List.findIdx?_cons, e]
  | f, t :: l, h => by
    have e : decide (n ≤ f.p) = false := decide_eq_false (by omega)
    unfold addW
    by_cases ht : n ≤ t.p
    · rw [if_pos ht]
      have e2 : decide (n ≤ t.p) = true := decide_eq_true ht
      simp [List.findIdx?_cons, e, e2]
    · rw [if_neg ht, addW_at n t l (by omega)]
      have e2 : decide (n ≤ t.p) = false := decide_eq_false ht
      cases h1 : (t :: l).findIdx? (fun q => decide (n ≤ q.p)) with
      | none => rw [List.findIdx?_cons, e, h1]; simp
      | some k =>
        rw [List.findIdx?_cons, e, h1]
        have hk : k ≠ 0 := fun e3 => by
          subst e3
          rw [List.findIdx?_cons, e2] at h1
          simp at h1
        obtain ⟨m, rfl⟩ : ∃ m, k = m + 1 := ⟨k - 1, by omega⟩
        simp

/-- What a wax adds to each figure; the figures of a recipe. -/
def softV (x : Bw) (n : Int) : Int := n * x.mlo + 20 * addV n x.cv
def hardV (x : Bw) (n : Int) : Int := n * x.mhi + 20 * addV n x.cv
def figV (g : Bw → Int → Int) (l : List Bw) (r : List Int) : Int := sumL (List.zipWith g l r)
/-- Why a recipe does not fit a wish. -/
def whyV (l : List Bw) (w : Ws) (r : List Int) : Int :=
  if ∃ q ∈ List.zip w.ps r, inB q.2 q.1.1 q.1.2 = false then 1
  else if figV softV l r < 20 * w.mlo then 2
  else if 20 * w.mhi < figV hardV l r then 3
  else if figV (fun x n => n * x.slo) l r < 20 * w.slo ∨ 20 * w.shi < figV (fun x n => n * x.shi) l r then 4 else 0
/-- All recipes whose parts are in their ranges, in their order. -/
def recN : List (Int × Int) → Nat → List (List Int)
  | [], 0 => [[]]
  | [], _ + 1 => []
  | s :: l, m => (List.range (m + 1)).flatMap fun n : Nat => if s.1 ≤ (n : Int) ∧ (n : Int) ≤ s.2 then (recN l (m - n)).map fun r => (n : Int) :: r else []
theorem sum_nn : ∀ {l : List (Int × Int)} {r : List Int}, r.length = l.length → (∀ q ∈ List.zip l r, 0 ≤ q.2) → 0 ≤ sumL r
  | [], r, h, _ => by
    have := List.eq_nil_of_length_eq_zero h
    subst this; exact Int.le_refl _
  | s :: l, [], h, _ => by simp at h
  | s :: l, n :: r, h, hq => by
    have a : 0 ≤ n := hq (s, n) (by rw [List.zip_cons_cons]; simp)
    have b := sum_nn (l := l) (r := r) (by simpa using h) fun q hm => hq q (by rw [List.zip_cons_cons]; exact List.mem_cons_of_mem _ hm)
    simp only [sumL]; omega
theorem recN_mem : ∀ {l : List (Int × Int)} {m : Nat} {r : List Int}, r ∈ recN l m ↔ r.length = l.length ∧ (∀ q ∈ List.zip l r, 0 ≤ q.2 ∧ q.1.1 ≤ q.2 ∧ q.2 ≤ q.1.2) ∧ sumL r = m
  | [], 0, r => by
    simp only [recN, List.mem_singleton]
    constructor
    · rintro rfl; exact ⟨rfl, by simp, rfl⟩
    · intro h; exact List.eq_nil_of_length_eq_zero h.1
  | [], m + 1, r => by
    simp only [recN, List.not_mem_nil, false_iff]
    rintro ⟨h1, _, h3⟩
    have := List.eq_nil_of_length_eq_zero h1
    subst this
    simp only [sumL] at h3; omega
  | s :: l, m, r => by
    simp only [recN, List.mem_flatMap, List.mem_range]
    constructor
    · rintro ⟨n, hn, hr⟩
      split at hr
      · rename_i hs
        obtain ⟨r2, h2, rfl⟩ := List.mem_map.1 hr
        obtain ⟨a, b, c⟩ := recN_mem.1 h2
        refine ⟨by simp [a], fun q hq => ?_, by simp only [sumL]; omega⟩
        rw [List.zip_cons_cons] at hq
        rcases List.mem_cons.1 hq with rfl | hq
        · exact ⟨by show (0 : Int) ≤ (n : Int); omega, hs.1, hs.2⟩
        · exact b q hq
      · cases hr
    · rintro ⟨h1, h2, h3⟩
      match r, h1 with
      | n :: r2, h1 =>
        have hq := h2 (s, n) (by rw [List.zip_cons_cons]; simp)
        have h0 : 0 ≤ sumL r2 := sum_nn (by simpa using h1) fun q hq => (h2 q (by rw [List.zip_cons_cons]; exact List.mem_cons_of_mem _ hq)).1
        have hn0 : 0 ≤ n := hq.1
        simp only [sumL] at h3
        refine ⟨n.toNat, by omega, ?_⟩
        have e : ((n.toNat : Nat) : Int) = n := by omega
        rw [if_pos (by rw [e]; exact ⟨hq.2.1, hq.2.2⟩), e]
        refine List.mem_map.2 ⟨r2, recN_mem.2 ⟨by simpa using h1, fun q hq => h2 q (by rw [List.zip_cons_cons]; exact List.mem_cons_of_mem _ hq), by omega⟩, rfl⟩
end Go.Proofs.Ytalghiecjhfflaa

namespace Go.Proofs.Ytalghiecjhfflaa
open Go.RowKit Go.Shelf

def encPt (x : Pt) (j : Nat) : Value := if j = 0 then .int .i64 x.p else .int .i64 x.a
abbrev PtsAt := RowAt 2 encPt
theorem pts_at {w : World} {B : Nat} {A : Option Addr} {l : List Pt} (h : PtsAt w B A l) {i : Nat} {x : Pt} (hi : l[i]? = some x) :
    ∃ b o, A = some ⟨b, o, none⟩ ∧ b < B ∧ w.cell? ⟨b, o + i * 2, none⟩ = some (.int .i64 x.p) ∧ w.cell? ⟨b, o + i * 2 + 1, none⟩ = some (.int .i64 x.a) := by
  obtain ⟨b, o, e, hb, hc⟩ := h (by have := (List.getElem?_eq_some_iff.1 hi).1; omega)
  exact ⟨b, o, e, hb, hc i x hi 0 (by omega), hc i x hi 1 (by omega)⟩
def encBw (x : Bw) (j : Nat) : Value := if j = 0 then .string x.nm else if j = 1 then .int .i64 x.pr else if j = 2 then .int .i64 x.mlo else if j = 3 then .int .i64 x.mhi else if j = 4 then .int .i64 x.slo else if j = 5 then .int .i64 x.shi else .slice x.ca x.cv.length x.cc
/-- A list of points, of waxes that comes in. -/
structure PtsIn (w : World) (A : Option Addr) (l : List Pt) : Prop where
  at_ : PtsAt w w.heap.size A l
  len : l.length ≤ 9223372036854775807
theorem PtsIn.on {w w' : World} {A : Option Addr} {l : List Pt} (h : PtsIn w A l) (hb : Below w.heap.size w w') : PtsIn w' A l := ⟨(RowAt.below h.at_ hb (Nat.le_refl _)).mono hb.size, h.len⟩
structure BwsIn (w : World) (A : Option Addr) (l : List Bw) : Prop where
  at_ : RowAt 7 encBw w w.heap.size A l
  cv : ∀ x ∈ l, PtsIn w x.ca x.cv
  len : l.length ≤ 9223372036854775807
  nm : ∀ x ∈ l, x.nm.size ≤ 9223372036854775807
theorem BwsIn.on {w w' : World} {A : Option Addr} {l : List Bw} (h : BwsIn w A l) (hb : Below w.heap.size w w') : BwsIn w' A l := ⟨(RowAt.below h.at_ hb (Nat.le_refl _)).mono hb.size, fun x hx => (h.cv x hx).on hb, h.len, h.nm⟩
theorem BwsIn.get {w : World} {A : Option Addr} {l : List Bw} (h : BwsIn w A l) {i : Nat} {x : Bw} (hi : l[i]? = some x) :
    ∃ b o, A = some ⟨b, o, none⟩ ∧ b < w.heap.size ∧ w.cell? ⟨b, o + i * 7, none⟩ = some (.string x.nm) ∧ w.cell? ⟨b, o + i * 7 + 1, none⟩ = some (.int .i64 x.pr) ∧ w.cell? ⟨b, o + i * 7 + 2, none⟩ = some (.int .i64 x.mlo) ∧ w.cell? ⟨b, o + i * 7 + 3, none⟩ = some (.int .i64 x.mhi) ∧ w.cell? ⟨b, o + i * 7 + 4, none⟩ = some (.int .i64 x.slo) ∧ w.cell? ⟨b, o + i * 7 + 5, none⟩ = some (.int .i64 x.shi) ∧ w.cell? ⟨b, o + i * 7 + 6, none⟩ = some (.slice x.ca x.cv.length x.cc) := by
  obtain ⟨b, o, e, hb, hc⟩ := h.at_ (by have := (List.getElem?_eq_some_iff.1 hi).1; omega)
  exact ⟨b, o, e, hb, hc i x hi 0 (by omega), hc i x hi 1 (by omega), hc i x hi 2 (by omega), hc i x hi 3 (by omega), hc i x hi 4 (by omega), hc i x hi 5 (by omega), hc i x hi 6 (by omega)⟩
/-- A wish, and where its parts lie. -/
structure Wm where
  w : Ws
  pa : Option Addr
  pc : Nat
end Go.Proofs.Ytalghiecjhfflaa

namespace Go.Proofs.Ytalghiecjhfflaa
open Go.RowKit Go.Shelf

theorem und_ints : Try.prog.underlying 31 = some (.slice 3) := by kernel_rfl
theorem und_spans : Try.prog.underlying 44 = some (.slice 36) := by kernel_rfl
theorem news_int {w : World} {g0 : Nat} {z : Int} (hc : Blk w g0 3 #[.int .i64 z]) : ∀ j u, ([Value.int .i64 z] : List Value)[j]? = some u → w.cell? ((⟨g0, 0, none⟩ : Addr).add j) = some u := by
  intro j u hj
  match j, hj with
  | 0, hj => simp at hj; subst hj; have h := hc.cell 0; simpa [Addr.add] using h
theorem news_span {w : World} {g0 : Nat} {T : TypeId} {a b : Int} (hc : Blk w g0 T #[.int .i64 a, .int .i64 b]) : ∀ j u, ([Value.int .i64 a, .int .i64 b] : List Value)[j]? = some u → w.cell? ((⟨g0, 0, none⟩ : Addr).add j) = some u := by
  intro j u hj
  match j, hj with
  | 0, hj => simp at hj; subst hj; have h := hc.cell 0; simpa [Addr.add] using h
  | 1, hj => simp at hj; subst hj; have h := hc.cell 1; simpa [Addr.add] using h
theorem spanCells_snoc (l : List (Int × Int)) (a b : Int) : spanCells (l ++ [(a, b)]) = spanCells l ++ [.int .i64 a, .int .i64 b] := by simp [spanCells]
theorem own_low {B : Nat} {e : TypeId} {sz n : Nat} {w w' : World} {v : Value} {xs : List Value} (h : w.ownsRow B e sz v n xs) (hg : w.grownBy w' v.ownBlock) (hB : B ≤ w.heap.size) : Below B w w' :=
  (Below.refl B w).grown hg hB (fun r e => (World.ownsRow.lt h r e).1)
section
variable {ops : Array Oper} {rest : List Oper} {o : Oper} {a : Act} {w : World} {Q : Exit → Act → World → Prop} {K : Act → World → Prop} {E : Prop} {B g0 : Nat} {v : Value}
theorem app_list (hgd : o.guard = none) (s x : Operand) (ho : o.op = .call { callee := .builtin .append, args := #[s, x], argTypes := #[31, 31] })
    {l : List Int} (hs : a.eval s = v) (hown : IntsOut B w v l) (z : Int) (hx : a.eval x = .slice (some ⟨g0, 0, none⟩) 1 1) (hc : Blk w g0 3 #[.int .i64 z]) (hl : l.length < 1000000) (hB : B ≤ w.heap.size)
    (h : ∀ g cap w', IntsOut B w' (.slice (some ⟨g, 0, none⟩) (l.length + 1) cap) (l ++ [z]) → Below B w w' → w.grownBy w' v.ownBlock → (v.ownBlock = some g ∨ g = w.heap.size) → wpList Try.prog ops Q rest (a.put o.dst (.slice (some ⟨g, 0, none⟩) (l.length + 1) cap)) w') : wpList Try.prog ops Q (o :: rest) a w := by
  obtain ⟨i0, hi0, hz0, hz1, hz2⟩ := info_parts infoInt
  refine wpList_append_lies w hgd s x 31 ho B 3 i0 (.int .i64 0) 1 8 und_ints hi0 hz0 hz1 hz2 rfl (by decide) v l.length (l.map (Value.int .i64)) hs hown ⟨g0, 0, none⟩ 1 1 [.int .i64 z] hx rfl (news_int hc) (by simp [Value.oneCell']) (by decide) (by unfold maxLen; omega) (by omega) hB _ rfl ?_
  intro g cap w' h1 h2 h3 _
  exact h g cap w' (by unfold IntsOut; simpa using h1) (own_low hown h2 hB) h2 h3
theorem app_step (hgd : o.guard = none) (s x : Operand) (ho : o.op = .call { callee := .builtin .append, args := #[s, x], argTypes := #[31, 31] })
    {l : List Int} (hs : a.eval s = v) (hown : IntsOut B w v l) (z : Int) (hx : a.eval x = .slice (some ⟨g0, 0, none⟩) 1 1) (hc : Blk w g0 3 #[.int .i64 z]) (hl : l.length < 1000000) (hB : B ≤ w.heap.size)
    (h : ∀ g cap w', IntsOut B w' (.slice (some ⟨g, 0, none⟩) (l.length + 1) cap) (l ++ [z]) → Below B w w' → w.grownBy w' v.ownBlock → (v.ownBlock = some g ∨ g = w.heap.size) → K (a.put o.dst (.slice (some ⟨g, 0, none⟩) (l.length + 1) cap)) w') : if Region.wanted o (yielded ops a.tmps) = true then Oper.wp Try.prog o a w K Q else E := by
  obtain ⟨i0, hi0, hz0, hz1, hz2⟩ := info_parts infoInt
  refine step_append_lies w hgd s x 31 ho B 3 i0 (.int .i64 0) 1 8 und_ints hi0 hz0 hz1 hz2 rfl (by decide) v l.length (l.map (Value.int .i64)) hs hown ⟨g0, 0, none⟩ 1 1 [.int .i64 z] hx rfl (news_int hc) (by simp [Value.oneCell']) (by decide) (by unfold maxLen; omega) (by omega) hB _ rfl ?_
  intro g cap w' h1 h2 h3 _
  exact h g cap w' (by unfold IntsOut; simpa using h1) (own_low hown h2 hB) h2 h3
theorem apps_list (hgd : o.guard = none) (s x : Operand) (ho : o.op = .call { callee := .builtin .append, args := #[s, x], argTypes := #[44, 44] })
    {l : List (Int × Int)} (hs : a.eval s = v) (hown : SpansOut B w v l) (z1 z2 : Int) (hx : a.eval x = .slice (some ⟨g0, 0, none⟩) 1 1) (hc : Blk w g0 36 #[.int .i64 z1, .int .i64 z2]) (hl : l.length < 1000000) (hB : B ≤ w.heap.size)
    (h : ∀ g cap w', SpansOut B w' (.slice (some ⟨g, 0, none⟩) (l.length + 1) cap) (l ++ [(z1, z2)]) → Below B w w' → w.grownBy w' v.ownBlock → (v.ownBlock = some g ∨ g = w.heap.size) → wpList Try.prog ops Q rest (a.put o.dst (.slice (some ⟨g, 0, none⟩) (l.length + 1) cap)) w') : wpList Try.prog ops Q (o :: rest) a w := by
  obtain ⟨i0, hi0, hz0, hz1, hz2⟩ := info_parts infoSp
  refine wpList_append_lies w hgd s x 44 ho B 36 i0 (.agg #[.int .i64 0, .int .i64 0]) 2 16 und_spans hi0 hz0 hz1 hz2 rfl (by decide) v l.length (spanCells l) hs hown ⟨g0, 0, none⟩ 1 1 [.int .i64 z1, .int .i64 z2] hx rfl (news_span hc) (by simp [Value.oneCell']) (by decide) (by unfold maxLen; omega) (by omega) hB _ rfl ?_
  intro g cap w' h1 h2 h3 _
  exact h g cap w' (by unfold SpansOut; rw [spanCells_snoc, List.length_append]; exact h1) (own_low hown h2 hB) h2 h3
theorem apps_step (hgd : o.guard = none) (s x : Operand) (ho : o.op = .call { callee := .builtin .append, args := #[s, x], argTypes := #[44, 44] })
    {l : List (Int × Int)} (hs : a.eval s = v) (hown : SpansOut B w v l) (z1 z2 : Int) (hx : a.eval x = .slice (some ⟨g0, 0, none⟩) 1 1) (hc : Blk w g0 36 #[.int .i64 z1, .int .i64 z2]) (hl : l.length < 1000000) (hB : B ≤ w.heap.size)
    (h : ∀ g cap w', SpansOut B w' (.slice (some ⟨g, 0, none⟩) (l.length + 1) cap) (l ++ [(z1, z2)]) → Below B w w' → w.grownBy w' v.ownBlock → (v.ownBlock = some g ∨ g = w.heap.size) → K (a.put o.dst (.slice (some ⟨g, 0, none⟩) (l.length + 1) cap)) w') : if Region.wanted o (yielded ops a.tmps) = true then Oper.wp Try.prog o a w K Q else E := by
  obtain ⟨i0, hi0, hz0, hz1, hz2⟩ := info_parts infoSp
  refine step_append_lies w hgd s x 44 ho B 36 i0 (.agg #[.int .i64 0, .int .i64 0]) 2 16 und_spans hi0 hz0 hz1 hz2 rfl (by decide) v l.length (spanCells l) hs hown ⟨g0, 0, none⟩ 1 1 [.int .i64 z1, .int .i64 z2] hx rfl (news_span hc) (by simp [Value.oneCell']) (by decide) (by unfold maxLen; omega) (by omega) hB _ rfl ?_
  intro g cap w' h1 h2 h3 _
  exact h g cap w' (by unfold SpansOut; rw [spanCells_snoc, List.length_append]; exact h1) (own_low hown h2 hB) h2 h3
end
/-- Appends to a slice that grew stand behind what was there. -/
theorem Blk.grownOut {B g : Nat} {T : TypeId} {cs : Array Value} {e : TypeId} {sz n : Nat} {w w' : World} {v : Value} {xs : List Value} (h : Blk w g T cs) (hown : w.ownsRow B e sz v n xs) (hg : w.grownBy w' v.ownBlock) (hlt : g < B) : Blk w' g T cs :=
  (hg.block g h.lt (fun e => by have := (World.ownsRow.lt hown _ e.symm).1; omega)).trans h
end Go.Proofs.Ytalghiecjhfflaa

namespace Go.Proofs.Ytalghiecjhfflaa
open Go.RowKit Go.Shelf

theorem drop_at {α : Type} {l : List α} {k : Nat} {x : α} (h : l[k]? = some x) : l.drop k = x :: l.drop (k + 1) := by
  obtain ⟨hlt, he⟩ := List.getElem?_eq_some_iff.1 h
  rw [List.drop_eq_getElem_cons hlt, he]
/-- All numbers are from a to b. -/
def allB (a b : Int) (l : List Int) : Bool := l.all fun x => inB x a b
theorem allB_cons (a b x : Int) (l : List Int) : allB a b (x :: l) = (inB x a b && allB a b l) := by simp [allB]
theorem rangeE_all (a b : Int) (l : List Int) : rangeE a b l = if allB a b l = true then 0 else 7 := rfl
set_option maxRecDepth 100000 in
set_option maxHeartbeats 1000000 in
theorem or_any {w : World} {A : Option Addr} {c : Nat} {l : List Int} (h : IntsIn w A l) :
    Calls Try.prog 54 #[.slice A l.length c] w fun e w' => e = .returned (.int .i64 (orE l)) ∧ w' = w := by
  have HI := Lib.hid h
  have hl := h.len
  clear h
  go_enter Try.func54, Try.ntmps54
  go_wp2_with fail
  go_loop [8] (fun i => ∃ k : Nat, k ≤ l.length ∧ i = .int .i64 k ∧ Hid (orE (l.drop k) = orE l)) (fun i => l.length - (intOf i).toNat)
  case atStart => exact ⟨0, by omega, rfl, rfl⟩
  case round =>
    obtain ⟨k, hk, rfl, HR⟩ := hrel
    by_cases hlt : k < l.length
    · obtain ⟨x, hx⟩ : ∃ x, l[k]? = some x := ⟨l[k], List.getElem?_eq_getElem hlt⟩
      obtain ⟨bb, o, rfl, _, hcell⟩ := ints_at HI.out.at_ hx
      have hd : l.drop k = x :: l.drop (k + 1) := drop_at hx
      have HD := Lib.hid (show orE l = if x ≠ 0 then x else orE (l.drop (k + 1)) by rw [← HR.out, hd, orE])
      clear hx hd HR
      by_cases h1 : x = 0
      · subst h1
        have H := Lib.hid (show orE (l.drop (k + 1)) = orE l by rw [HD.out, if_neg (by simp)])
        clear HD
        go_wp2_with fail
        go_round
        case rel => exact ⟨k + 1, Nat.succ_le_of_lt hlt, by go_num, H⟩
        case measure => exact meas_one hlt
      · have H := Lib.hid (show orE l = x by rw [HD.out, if_pos h1])
        have h2 : (x != 0) = true := by simpa using h1
        have h3 : (x == 0) = false := by simpa using h1
        clear HD
        go_wp2_with fail
        go_ret
        exact ⟨ret_i64 H.out.symm, rfl⟩
    · have H := Lib.hid (show orE l = 0 by rw [← HR.out, List.drop_eq_nil_of_le (by omega)]; rfl)
      clear HR
      go_wp2_with fail
      go_ret
      exact ⟨ret_i64 H.out.symm, rfl⟩
/-- The first place at which p holds, from k on; or -1. -/
def idxL {α : Type} (p : α → Bool) : List α → Int → Int
  | [], _ => -1
  | x :: l, k => if p x = true then k else idxL p l (k + 1)
theorem idxL_any {α : Type} (p : α → Bool) : ∀ (l : List α) (k : Int), 0 ≤ k → decide (0 ≤ idxL p l k) = l.any p
  | [], k, _ => by simp [idxL]
  | x :: l, k, h => by
    rw [idxL, List.any_cons]
    cases hp : p x with
    | true => simp [h]
    | false =>
      rw [if_neg (by simp), idxL_any p l (k + 1) (by omega), Bool.false_or]
theorem ione_in (w : World) (n : Int) : IntsIn (w.alloc (.cells #[.int .i64 n] 3)) (some ⟨w.heap.size, 0, none⟩) [n] := ints_blk (Blk.new w 3 #[.int .i64 n]) rfl (by simp)
theorem idxE_all (n : Nat) (i : Int) : idxE n i = if allB 0 ((n : Int) - 1) [i] = true then 0 else 4 := by simp [idxE, allB]
theorem ione1_in (w : World) (o : Obj) (n : Int) : IntsIn ((w.alloc o).alloc (.cells #[.int .i64 n] 3)) (some ⟨w.heap.size + 1, 0, none⟩) [n] := ints_blk (Blk.new1 w 3 #[.int .i64 n] o) rfl (by simp)
theorem ione2_in (w : World) (o o' : Obj) (n : Int) : IntsIn (((w.alloc o).alloc o').alloc (.cells #[.int .i64 n] 3)) (some ⟨w.heap.size + 1 + 1, 0, none⟩) [n] := ints_blk (Blk.new2 w 3 #[.int .i64 n] o o') rfl (by simp)
theorem allB_one (a b x : Int) : allB a b [x] = inB x a b := by simp [allB]
end Go.Proofs.Ytalghiecjhfflaa

namespace Go.Proofs.Ytalghiecjhfflaa
open Go.RowKit Go.Shelf

theorem drop_cons (s : ByteArray) (p : Nat) (h : p < s.size) : s.data.toList.drop p = (s[p]'h) :: s.data.toList.drop (p + 1) := by
  rw [List.drop_eq_getElem_cons (by simpa using h)]; rfl

theorem cast_beq (a b : Nat) : ((a : Int) == (b : Int)) = (a == b) := by rw [Bool.eq_iff_iff]; simp; omega
set_option maxHeartbeats 2000000 in
set_option maxRecDepth 100000 in
theorem name_short (s : ByteArray) (w : World) (hs : s.size ≤ 20) :
    Calls Try.prog 79 #[.string s] w fun e w' => e = .returned (.bool (nameRest 45 s.data.toList)) ∧ Below w.heap.size w w' := by
  go_enter Try.func79, Try.ntmps79
  go_wp2_with fail
  go_loopw [3] (fun bf w' => ∃ (pos bv : Nat), w' = w.iter s pos ∧ bf = .int .i32 bv ∧ bv < 128 ∧ pos ≤ s.size ∧ Hid (nameRest bv (s.data.toList.drop pos) = nameRest 45 s.data.toList)) (fun _ w' => s.size - w'.iterPos w.heap.size)
  case atStart => exact ⟨0, 45, rfl, rfl, by omega, Nat.zero_le _, by simp [Hid]⟩
  case round =>
    obtain ⟨pos, bv, rfl, rfl, hbv, hps, hR⟩ := hrel
    have hbl : Below w.heap.size w (w.iter s pos) := (Below.refl _ w).alloc (Nat.le_refl _) _
    by_cases hp : pos < s.size
    · have hnx : ∀ ty, (Instr.next (.pointer (some ⟨w.heap.size, 0, none⟩)) true ty).run Try.prog (w.iter s pos) = _ := fun ty => run_next_any w s pos ty hp
      have hd := drop_cons s pos hp
      have hR' := hR.out
      rw [hd] at hR'
      have hbl' : ∀ p, Below w.heap.size w (w.iter s p) := fun p => (Below.refl _ w).alloc (Nat.le_refl _) _
      by_cases h1 : (s[pos]'hp).toNat < 128
      · have hdec := decode_ascii s pos hp h1
        generalize hc : (s[pos]'hp) = c at *
        clear hd hc hR
        by_cases hlet : 97 ≤ c.toNat ∧ c.toNat ≤ 122
        · rw [nameRest, if_pos hlet] at hR'
          have HN := Lib.hid hR'
          clear hR'
          obtain ⟨l1, l2⟩ := hlet
          go_wp2_with fail
          go_roundw
          case rel => exact ⟨pos + 1, c.toNat, rfl, rfl, by omega, by omega, HN⟩
          case measure => simp; omega
        · by_cases hhy : c.toNat = 45 ∧ bv ≠ 45
          · rw [nameRest, if_neg hlet, if_pos hhy] at hR'
            have HN := Lib.hid hR'
            clear hR' hlet
            obtain ⟨y1, y2⟩ := hhy
            have y3 : ((bv : Int) == 45) = false := by simp; omega
            go_wp2_with fail
            go_roundw
            case rel => exact ⟨pos + 1, 45, rfl, rfl, by omega, by omega, HN⟩
            case measure => simp; omega
          · rw [nameRest, if_neg hlet, if_neg hhy] at hR'
            have HN := Lib.hid hR'
            clear hR'
            by_cases k1 : c.toNat = 45
            · have k2 : bv = 45 := by omega
              subst k2
              clear hhy hlet
              go_wp2_with fail
              go_ret
              exact ⟨ret_bool HN.out, hbl' _⟩
            · have k3 : ((c.toNat : Int) == 45) = false := by simp; omega
              have k4 : ((c.toNat : Int) != 45) = true := by simp; omega
              clear hhy
              by_cases k5 : 97 ≤ c.toNat
              · have k6 : decide ((c.toNat : Int) ≤ 122) = false := by simp; omega
                clear hlet
                go_wp2_with fail
                go_ret
                exact ⟨ret_bool HN.out, hbl' _⟩
              · clear hlet
                go_wp2_with fail
                go_ret
                exact ⟨ret_bool HN.out, hbl' _⟩
      · have hdec := (decode_high s pos hp (by omega)).1
        generalize hc : (s[pos]'hp) = c at *
        have hge : ¬ c.toNat < 128 := h1
        rw [nameRest, if_neg (by omega), if_neg (by omega)] at hR'
        have HN := Lib.hid hR'
        clear hR' hR hd hc
        generalize hr : Utf8.decode s pos = r at *
        have k3 : ((r.1 : Int) == 45) = false := by simp; omega
        have k4 : ((r.1 : Int) != 45) = true := by simp; omega
        have k7 : decide ((r.1 : Int) ≤ 122) = false := by simp; omega
        have k8 : 97 ≤ r.1 := by omega
        clear hr
        go_wp2_with fail
        go_ret
        exact ⟨ret_bool HN.out, hbl' _⟩
    · have hnx : ∀ ty, (Instr.next (.pointer (some ⟨w.heap.size, 0, none⟩)) true ty).run Try.prog (w.iter s pos) = _ := fun ty => run_next_end w s pos ty hp
      have hfin := hR.out
      rw [List.drop_eq_nil_of_le (by simp; omega), nameRest] at hfin
      have HN := Lib.hid hfin
      clear hfin hR
      go_wp2_with fail
      go_ret
      exact ⟨ret_bool ((congrArg not (cast_beq bv 45)).trans HN.out), hbl⟩

set_option maxHeartbeats 400000 in
theorem name_any (s : ByteArray) (w : World) (hmax : s.size ≤ 9223372036854775807) :
    Calls Try.prog 79 #[.string s] w fun e w' => e = .returned (.bool (nameB s)) ∧ Below w.heap.size w w' := by
  by_cases hs : s.size ≤ 20
  · have := name_short s w hs
    simpa [nameB, hs] using this
  · have hn : nameB s = false := by simp [nameB, hs]
    rw [hn]
    go_enter Try.func79, Try.ntmps79
    go_wp2_with fail
    go_ret
    exact ⟨rfl, Below.refl _ _⟩
end Go.Proofs.Ytalghiecjhfflaa
