/- wax.bounds: contract. -/
import Derived.Test.YthihpggjglghoaaGreatDoorOpen
import Derived.Deep.AppendLies
import Derived.OwnWalk
import Derived.Deep.DeepCutAuto
namespace Go.Proofs.YthihpggjglghoaaGreatDoor
open Go.RowKit Go.Shelf

/-- Block p holds just the number f. -/
def OneInt (w : World) (p : Nat) (f : Int) : Prop := w.heap[p]? = some (.cells #[.int .i64 f] 3 (0, 0))
section
variable {w w' : World} {p : Nat} {f : Int}
theorem OneInt.lt (h : OneInt w p f) : p < w.heap.size := by
  rcases Nat.lt_or_ge p w.heap.size with hlt | hge
  · exact hlt
  · unfold OneInt at h; rw [Array.getElem?_eq_none hge] at h; cases h
theorem OneInt.cell (h : OneInt w p f) : w.cell? ⟨p, 0, none⟩ = some (.int .i64 f) := by
  unfold OneInt at h; simp [World.cell?, h]
theorem OneInt.new (w : World) (f : Int) : OneInt (w.alloc (.cells #[.int .i64 f] 3)) w.heap.size f := heap_alloc_new w _
theorem OneInt.alloc (h : OneInt w p f) (o : Obj) : OneInt (w.alloc o) p f := (Below.heap_alloc w o p h.lt).trans h
theorem OneInt.drew (h : OneInt w p f) : OneInt w.drew p f := h
theorem OneInt.below {B : Nat} (h : OneInt w p f) (hb : Below B w w') (hB : p < B) : OneInt w' p f := (hb.block p hB).trans h
theorem OneInt.grown {row : Option Nat} (h : OneInt w p f) (hg : w.grownBy w' row) (hr : row ≠ some p) : OneInt w' p f := (hg.block p h.lt (fun e => hr e.symm)).trans h
theorem OneInt.ne_own {base : Nat} {e : TypeId} {size n : Nat} {v : Value} {xs : List Value} (h : OneInt w p f) (ho : w.ownsRow base e size v n xs) (he : e ≠ 3) : v.ownBlock ≠ some p := by
  rcases ho.2 with ⟨rfl, _⟩ | ⟨g, cap, cur, rfl, _, hh, _⟩
  · simp [Value.ownBlock]
  · intro hx
    have : g = p := by simpa [Value.ownBlock] using hx
    subst this
    unfold OneInt at h
    rw [h] at hh
    injection hh with hh
    injection hh with _ ht
    exact he ht.symm
end

/-- A list of bounds as the program keeps it. -/
def Bnds (w : World) (base : Nat) (v : Value) (bs : List (Int × Int)) : Prop :=
  ∃ xs : List Value, w.ownsRow base 137 1 v bs.length xs ∧ ∀ (i : Nat) (y : Int × Int), bs[i]? = some y → ∃ p q, base ≤ p ∧ base ≤ q ∧ OneInt w p y.1 ∧ OneInt w q y.2 ∧
    xs[i]? = some (Value.func (.func 104) #[] #[.pointer (some ⟨p, 0, none⟩), .pointer (some ⟨q, 0, none⟩)])

/-- The bounds of one property. -/
def bound2 (x y : Int × Int) (er rd : Int) : List (Int × Int) := [(x.1 - y.1, 1000 * (rd + er - y.1)), (y.2 - x.2, 1000 * (y.2 - (rd - er)))]

theorem own_below {base : Nat} {e : TypeId} {size n : Nat} {v : Value} {xs : List Value} {w w' : World} (h : w.ownsRow base e size v n xs) (hb : Below w.heap.size w w') : w'.ownsRow base e size v n xs := by
  refine ⟨h.1, ?_⟩
  rcases h.2 with h2 | ⟨g, cap, cur, hv, hg, hh, r⟩
  · exact .inl h2
  · refine .inr ⟨g, cap, cur, hv, hg, (hb.block g ?_).trans hh, r⟩
    rcases Nat.lt_or_ge g w.heap.size with hlt | hge
    · exact hlt
    · rw [Array.getElem?_eq_none hge] at hh; cases hh
theorem own_lt {base : Nat} {e : TypeId} {size n : Nat} {v : Value} {xs : List Value} {w : World} (h : w.ownsRow base e size v n xs) {X : Nat} (hX : w.heap.size ≤ X) : some X ≠ v.ownBlock := by
  rcases h.2 with ⟨rfl, _⟩ | ⟨g, cap, cur, rfl, hg, hh, r⟩
  · simp [Value.ownBlock]
  · intro e
    have : X = g := by simpa [Value.ownBlock] using e
    subst this
    rw [Array.getElem?_eq_none hX] at hh; cases hh
theorem new_at2 (w : World) (o : Obj) (n : Nat) (hn : n = w.heap.size) : (w.alloc o).drew.drew.heap[n]? = some o := by subst hn; exact heap_alloc_new w o
theorem Tryz.infoBound : (Tryz.prog.info? 137).map (fun i => (i.zero, i.size, i.bytes)) = some (some .nilFunc, 1, 8) := by kernel_rfl

/-- The bounds of property i. -/
def boundsAt (ps : List Pr) (xa xb : List (Int × Int)) (l : List Int) (i : Nat) : List (Int × Int) :=
  match l[i]?, xa[i]?, xb[i]?, ps[i]? with
  | some r, some x, some y, some p => if r = -1 then [] else bound2 x y p.er r
  | _, _, _, _ => []
/-- .. of the first k. -/
def boundsK (ps : List Pr) (xa xb : List (Int × Int)) (l : List Int) (k : Nat) : List (Int × Int) := (List.range k).flatMap (boundsAt ps xa xb l)
theorem boundsK_succ (ps : List Pr) (xa xb : List (Int × Int)) (l : List Int) (k : Nat) : boundsK ps xa xb l (k + 1) = boundsK ps xa xb l k ++ boundsAt ps xa xb l k := by
  simp [boundsK, List.range_succ, List.flatMap_append]
/-- What bounds leaves. -/
def BndsPost (w : World) (bs : List (Int × Int)) (e : Ending) (w' : World) : Prop := ∃ v, e = .returned v ∧ Bnds w' w.heap.size v bs ∧ Below w.heap.size w w'
theorem Bnds.base {w : World} {B B' : Nat} {v : Value} {bs : List (Int × Int)} (h : Bnds w B v bs) (hB : B' ≤ B) : Bnds w B' v bs := by
  obtain ⟨xs, ho, hc⟩ := h
  refine ⟨xs, ⟨ho.1, ?_⟩, fun i y hy => ?_⟩
  · rcases ho.2 with h2 | ⟨g, cap, cur, hv, hg, r⟩
    · exact .inl h2
    · exact .inr ⟨g, cap, cur, hv, by omega, r⟩
  · obtain ⟨p, q, h1, h2, r⟩ := hc i y hy
    exact ⟨p, q, by omega, by omega, r⟩
/-- Two bounds more. -/
theorem Bnds.more {wr wc w1 : World} {B : Nat} {v : Value} {bs : List (Int × Int)} {xs : List Value} {f1 l1 f2 l2 : Int} {F1 F2 : Value} {gg cap : Nat}
    (hown : wr.ownsRow B 137 1 v bs.length xs)
    (hc : ∀ (i : Nat) (y : Int × Int), bs[i]? = some y → ∃ p q, B ≤ p ∧ B ≤ q ∧ OneInt wr p y.1 ∧ OneInt wr q y.2 ∧ xs[i]? = some (Value.func (.func 104) #[] #[.pointer (some ⟨p, 0, none⟩), .pointer (some ⟨q, 0, none⟩)]))
    (hb : Below wr.heap.size wr wc) (hB : B ≤ wc.heap.size)
    (hF1 : F1 = .func (.func 104) #[] #[.pointer (some ⟨wc.heap.size, 0, none⟩), .pointer (some ⟨wc.heap.size + 1, 0, none⟩)])
    (hF2 : F2 = .func (.func 104) #[] #[.pointer (some ⟨wc.heap.size + 1 + 1, 0, none⟩), .pointer (some ⟨wc.heap.size + 1 + 1 + 1, 0, none⟩)])
    {o : Obj} (hg : ((((((wc.alloc (.cells #[.int .i64 f1] 3)).alloc (.cells #[.int .i64 l1] 3)).alloc (.cells #[.int .i64 f2] 3)).alloc (.cells #[.int .i64 l2] 3)).alloc o).drew.drew).grownBy w1 v.ownBlock)
    (hown1 : w1.ownsRow B 137 1 (.slice (some ⟨gg, 0, none⟩) (bs.length + 2) cap) (bs.length + 2) (xs ++ [F1, F2])) :
    Bnds w1 B (.slice (some ⟨gg, 0, none⟩) (bs.length + 2) cap) (bs ++ [(f1, l1), (f2, l2)]) := by
  have hxl : xs.length = bs.length := by have := hown.1; omega
  have step : ∀ {p f}, OneInt wc p f → v.ownBlock ≠ some p → OneInt w1 p f := fun h hne => OneInt.grown (w := ((((((wc.alloc (.cells #[.int .i64 f1] 3)).alloc (.cells #[.int .i64 l1] 3)).alloc (.cells #[.int .i64 f2] 3)).alloc (.cells #[.int .i64 l2] 3)).alloc o).drew.drew)) (((((h.alloc _).alloc _).alloc _).alloc _).alloc o) hg hne
  have hnew : ∀ {X}, wr.heap.size ≤ X → v.ownBlock ≠ some X := fun h => (own_lt hown h).symm
  have hsz := hb.size
  refine ⟨xs ++ [F1, F2], by simpa using hown1, fun i y hy => ?_⟩
  by_cases hi : i < bs.length
  · rw [List.getElem?_append_left hi] at hy
    obtain ⟨p, q, h1, h2, h3, h4, h5⟩ := hc i y hy
    exact ⟨p, q, h1, h2, step (h3.below hb h3.lt) (h3.ne_own hown (by decide)), step (h4.below hb h4.lt) (h4.ne_own hown (by decide)), by rw [List.getElem?_append_left (by omega)]; exact h5⟩
  · rw [List.getElem?_append_right (by omega)] at hy
    rw [List.getElem?_append_right (by omega), hxl]
    generalize i - bs.length = j at *
    have s1 : OneInt (wc.alloc (.cells #[.int .i64 f1] 3)) wc.heap.size f1 := OneInt.new wc f1
    have s2 : OneInt ((wc.alloc (.cells #[.int .i64 f1] 3)).alloc (.cells #[.int .i64 l1] 3)) (wc.heap.size + 1) l1 := by simpa using OneInt.new (wc.alloc (.cells #[.int .i64 f1] 3)) l1
    have s3 : OneInt (((wc.alloc (.cells #[.int .i64 f1] 3)).alloc (.cells #[.int .i64 l1] 3)).alloc (.cells #[.int .i64 f2] 3)) (wc.heap.size + 1 + 1) f2 := by simpa using OneInt.new ((wc.alloc (.cells #[.int .i64 f1] 3)).alloc (.cells #[.int .i64 l1] 3)) f2
    have s4 : OneInt ((((wc.alloc (.cells #[.int .i64 f1] 3)).alloc (.cells #[.int .i64 l1] 3)).alloc (.cells #[.int .i64 f2] 3)).alloc (.cells #[.int .i64 l2] 3)) (wc.heap.size + 1 + 1 + 1) l2 := by simpa using OneInt.new (((wc.alloc (.cells #[.int .i64 f1] 3)).alloc (.cells #[.int .i64 l1] 3)).alloc (.cells #[.int .i64 f2] 3)) l2
    match j, hy with
    | 0, hy =>
      obtain rfl : (f1, l1) = y := by simpa using hy
      exact ⟨wc.heap.size, wc.heap.size + 1, hB, by omega, OneInt.grown (((((s1.alloc _).alloc _).alloc _).alloc o).drew.drew) hg (hnew hsz), OneInt.grown ((((s2.alloc _).alloc _).alloc o).drew.drew) hg (hnew (by omega)), by rw [hF1]; rfl⟩
    | 1, hy =>
      obtain rfl : (f2, l2) = y := by simpa using hy
      exact ⟨wc.heap.size + 1 + 1, wc.heap.size + 1 + 1 + 1, by omega, by omega, OneInt.grown (((s3.alloc _).alloc o).drew.drew) hg (hnew (by omega)), OneInt.grown ((s4.alloc o).drew.drew) hg (hnew (by omega)), by rw [hF2]; rfl⟩
    | j + 2, hy => simp at hy

end Go.Proofs.YthihpggjglghoaaGreatDoor
