/- mould.sets: which minutes the rings set in, and how the map tells it: the mathematics. -/
import Derived.Test.YtljbjcnfkbmjkaaMdw
import Derived.Maps.OwnIn
import Derived.Maps.Views
import Derived.Maps.RangeWalk
import Derived.Maps.OwnSet
namespace Go.Proofs.Ytljbjcnfkbmjkaa
open Go.RowKit Go.Shelf Go.Maps

/-- In which minute each ring has set, ahead of minute k. -/
def outN (m : Md) (p q : Int) : Nat → List Int
  | 0 => neg1 (kR m)
  | k + 1 => updL m.st k (outN m p q k) (stW m p q k)
theorem outN_length (m : Md) (p q : Int) : ∀ k, (outN m p q k).length = kR m
  | 0 => List.length_replicate
  | k + 1 => by rw [outN, updL_length (by rw [outN_length m p q k, stW_length]), stW_length]
theorem when_outN (m : Md) (p q : Int) : ∀ (j n : Nat), whenL m.give m.st (List.replicate j q) n (stW m p q n) (outN m p q n) = outN m p q (n + j + 1)
  | 0, n => rfl
  | j + 1, n => by
    have h := when_outN m p q j (n + 1)
    rw [List.replicate_succ, whenL, ← stW_succ]
    rw [show (n + (j + 1) + 1) = (n + 1) + j + 1 by omega, ← h]
    rfl
theorem wh_outN (m : Md) (e : Bool) : wh m e = outN m (pourV m e) (wallV m e) 601 := by
  have h := when_outN m (pourV m e) (wallV m e) 600 0
  unfold wh whN whenM
  rw [samP_length]
  exact h
theorem upd_nonneg {st n o x : Int} (h : 0 ≤ o) : upd st n o x = o := by unfold upd; rw [if_neg (by omega)]
theorem updL_all {st n : Int} : ∀ {out l : List Int}, out.length = l.length → (∀ o ∈ out, 0 ≤ o) → updL st n out l = out
  | [], [], _, _ => rfl
  | o :: out, x :: l, hl, h => by
    show upd st n o x :: updL st n out l = _
    rw [upd_nonneg (h o (by simp)), updL_all (by simpa using hl) (fun y hy => h y (by simp [hy]))]
  | [], _ :: _, hl, _ => by simp at hl
  | _ :: _, [], hl, _ => by simp at hl
theorem outN_all {m : Md} {p q : Int} {k : Nat} (h : ∀ o ∈ outN m p q k, 0 ≤ o) : ∀ j, outN m p q (k + j) = outN m p q k
  | 0 => rfl
  | j + 1 => by rw [← Nat.add_assoc, outN, outN_all h j, updL_all (by rw [outN_length, stW_length]) h]
theorem upd_twice {st n n' o x : Int} (_h : -1 ≤ o) (hn : 0 ≤ n) : upd st n' (upd st n o x) x = upd st n o x := by
  unfold upd
  split
  · rw [if_neg (by omega)]
  · rename_i h2; first | rfl | rw [if_neg h2]
theorem updL_twice {st n n' : Int} (hn : 0 ≤ n) : ∀ {out l : List Int}, (∀ o ∈ out, -1 ≤ o) → updL st n' (updL st n out l) l = updL st n out l
  | [], _, _ => by simp [updL]
  | _ :: _, [], _ => by simp [updL]
  | o :: out, x :: l, h => by
    show upd st n' (upd st n o x) x :: updL st n' (updL st n out l) l = upd st n o x :: updL st n out l
    rw [upd_twice (h o (by simp)) hn, updL_twice hn (fun y hy => h y (by simp [hy]))]
theorem outN_ge (m : Md) (p q : Int) : ∀ k, ∀ o ∈ outN m p q k, -1 ≤ o ∧ o < k
  | 0, o, ho => by rw [outN, neg1, List.mem_replicate] at ho; omega
  | k + 1, o, ho => by
    have h := updL_bef (st := m.st) (n := (k : Int)) (l := stW m p q k) (by omega) (fun x hx => outN_ge m p q k x hx) o ho
    omega
/-- What stays sets no more. -/
theorem outN_fix {m : Md} {p q : Int} {k : Nat} (h : stW m p q (k + 1) = stW m p q k) : ∀ j, outN m p q (k + 1 + j) = outN m p q (k + 1)
  | 0 => rfl
  | j + 1 => by
    have h2 := stW_fix h (j + 1)
    rw [← Nat.add_assoc, outN, outN_fix h j, outN, show k + 1 + j = k + (j + 1) by omega, h2]
    exact updL_twice (by omega) (fun o ho => (outN_ge m p q k o ho).1)
/-- A map that tells in which minute each ring set that has. -/
structure MRep {H : Type} (D : DataW H) (out : List Int) : Prop where
  tidy : Tidy D
  has_ : ∀ z : Int, has D (.int .i64 z) = true ↔ ∃ (r : Nat) (x : Int), z = r ∧ out[r]? = some x ∧ 0 ≤ x
  at_ : ∀ (r : Nat) (x : Int), out[r]? = some x → 0 ≤ x → ∀ z, D.atKey (.int .i64 r) z = .lit (.int .i64 x)
  size_ : size D = out.countP (fun x => decide (0 ≤ x))
theorem MRep.nil {H : Type} (n : Nat) : MRep (.map [] : DataW H) (neg1 n) := by
  have h0 : ∀ (r : Nat) (x : Int), (neg1 n)[r]? = some x → 0 ≤ x → False := by
    intro r x h hx
    have := List.mem_of_getElem? h
    rw [neg1, List.mem_replicate] at this
    omega
  refine ⟨tidy_empty, fun z => ⟨fun h => (by cases h), fun ⟨r, x, _, h, hx⟩ => (h0 r x h hx).elim⟩, fun r x h hx => (h0 r x h hx).elim, ?_⟩
  show 0 = _
  symm
  rw [List.countP_eq_zero]
  intro x hx
  rw [neg1, List.mem_replicate] at hx
  simp; omega
theorem lit_ne {a b : Int} (h : a ≠ b) : (Lit.int .i64 a) ≠ .int .i64 b := fun e => h (by simpa using e)
theorem MRep.put {H : Type} {D : DataW H} {out : List Int} (h : MRep D out) {r : Nat} {o : Int} (hr : out[r]? = some o) (ho : o < 0) {x : Int} (hx : 0 ≤ x) : MRep (D.put (.int .i64 r) (.lit (.int .i64 x))) (out.set r x) := by
  have hk : WideAt.IsKeyLit (.int .i64 (r : Int)) := trivial
  have hlt := (List.getElem?_eq_some_iff.1 hr).1
  have hno : has D (.int .i64 (r : Int)) = false := by
    cases hh : has D (.int .i64 (r : Int)) with
    | false => rfl
    | true =>
      obtain ⟨r', x', e, h1, h2⟩ := (h.has_ _).1 hh
      obtain rfl : r = r' := by omega
      rw [hr] at h1; cases h1; omega
  refine ⟨h.tidy.put hk _, fun z => ?_, fun r' x' h1 h2 z => ?_, ?_⟩
  · by_cases hz : z = r
    · subst hz
      rw [has_put_same h.tidy.isMap hk]
      exact ⟨fun _ => ⟨r, x, rfl, by rw [List.getElem?_set_self hlt], hx⟩, fun _ => rfl⟩
    · rw [has_put_other (lit_ne hz), h.has_]
      constructor
      · rintro ⟨r', x', e, h1, h2⟩
        exact ⟨r', x', e, by rw [List.getElem?_set_ne (by omega)]; exact h1, h2⟩
      · rintro ⟨r', x', e, h1, h2⟩
        rw [List.getElem?_set_ne (by omega)] at h1
        exact ⟨r', x', e, h1, h2⟩
  · by_cases hz : r' = r
    · subst hz
      rw [List.getElem?_set_self hlt] at h1
      cases h1
      exact atKey_put_same h.tidy.isMap hk _ _
    · rw [List.getElem?_set_ne (by omega)] at h1
      rw [atKey_put_other (lit_ne (by omega))]
      exact h.at_ r' x' h1 h2 z
  · rw [size_put h.tidy, hno, List.countP_set hlt, h.size_]
    have h2 : out[r] = o := by rw [List.getElem?_eq_getElem hlt] at hr; simpa using hr
    rw [h2]
    simp [hx, show ¬ 0 ≤ o by omega]
theorem count_all {out : List Int} (h : out.countP (fun x => decide (0 ≤ x)) = out.length) : ∀ o ∈ out, 0 ≤ o := by
  rw [List.countP_eq_length] at h
  intro o ho
  simpa using h o ho
theorem count_never {out : List Int} : out.countP (fun x => decide (0 ≤ x)) = out.length ↔ never out = false := by
  rw [List.countP_eq_length]
  unfold never
  rw [List.any_eq_false]
  constructor
  · intro h x hx; have := h x hx; simp at this ⊢; omega
  · intro h x hx; have := h x hx; simp at this ⊢; omega
end Go.Proofs.Ytljbjcnfkbmjkaa
