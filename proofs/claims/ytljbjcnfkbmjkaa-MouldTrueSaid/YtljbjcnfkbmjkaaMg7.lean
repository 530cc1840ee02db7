/- ref.When: the mathematics of its loops, the list that it changes in its place. -/
import Derived.Test.YtljbjcnfkbmjkaaMg2
import Derived.Test.YtljbjcnfkbmjkaaMg4
import Derived.Test.YtljbjcnfkbmjkaaMe6
import Derived.Test.YtljbjcnfkbmjkaaGc
namespace Go.Proofs.Ytljbjcnfkbmjkaa
open Go.RowKit Go.Shelf

/-- The minutes of the rings, as far as one walk through them has come. -/
def mixL (st n : Int) (o l : List Int) (i : Nat) : List Int := (updL st n o l).take i ++ o.drop i
theorem mix_zero (st n : Int) (o l : List Int) : mixL st n o l 0 = o := by unfold mixL; simp
theorem mix_end {st n : Int} {o l : List Int} (h : o.length = l.length) : mixL st n o l l.length = updL st n o l := by
  unfold mixL
  rw [List.take_of_length_le (by rw [updL_length h]; exact Nat.le_refl _), List.drop_of_length_le (by omega), List.append_nil]
theorem mix_length {st n : Int} {o l : List Int} (h : o.length = l.length) {i : Nat} (hi : i ≤ l.length) : (mixL st n o l i).length = l.length := by
  unfold mixL
  rw [List.length_append, List.length_take, List.length_drop, updL_length h]; omega
theorem updL_at {st n : Int} {o l : List Int} {i : Nat} {x y : Int} (hx : o[i]? = some x) (hy : l[i]? = some y) : (updL st n o l)[i]? = some (upd st n x y) := by
  unfold updL
  rw [List.getElem?_zipWith, hx, hy]
theorem mix_at {st n : Int} {o l : List Int} {i : Nat} {x : Int} (h : o.length = l.length) (hx : o[i]? = some x) : (mixL st n o l i)[i]? = some x := by
  have hi : i < o.length := (List.getElem?_eq_some_iff.1 hx).1
  have hl : ((updL st n o l).take i).length = i := by rw [List.length_take, updL_length h]; omega
  unfold mixL
  rw [List.getElem?_append_right (by omega), hl, Nat.sub_self, List.getElem?_drop, Nat.add_zero, hx]
theorem mix_step {st n : Int} {o l : List Int} {i : Nat} {x y : Int} (h : o.length = l.length) (hx : o[i]? = some x) (hy : l[i]? = some y) : (mixL st n o l i).set i (upd st n x y) = mixL st n o l (i + 1) := by
  have hi : i < o.length := (List.getElem?_eq_some_iff.1 hx).1
  have hl : ((updL st n o l).take i).length = i := by rw [List.length_take, updL_length h]; omega
  have hd : o.drop i = x :: o.drop (i + 1) := by
    rw [List.drop_eq_getElem_cons hi]; congr 1; exact (List.getElem?_eq_some_iff.1 hx).2
  unfold mixL
  rw [List.set_append_right _ _ (by omega), hl, Nat.sub_self, hd, List.set_cons_zero, List.take_add_one, updL_at hx hy]
  simp
theorem mix_same {st n : Int} {o l : List Int} {i : Nat} {x y : Int} (h : o.length = l.length) (hx : o[i]? = some x) (hy : l[i]? = some y) (hu : upd st n x y = x) : mixL st n o l i = mixL st n o l (i + 1) := by
  rw [← mix_step h hx hy, hu]
  obtain ⟨hlt, he⟩ := List.getElem?_eq_some_iff.1 (mix_at (st := st) (n := n) h hx)
  have h2 := List.set_getElem_self hlt
  rw [he] at h2
  exact h2.symm
/-- What the loop over the minutes has still to do. -/
def WhF (g st : Int) (ws F : List Int) (k : Nat) (l o : List Int) : Prop :=
  (k ≤ ws.length → F = whenL g st (ws.drop k) k (if k = 0 then l else nextL g (ws.getD (k - 1) 0) l) o) ∧ (ws.length < k → F = o)
theorem WhF.start (m : Md) (ps ws : List Int) : WhF m.give m.st ws (whenM m ps ws) 0 ps (neg1 ps.length) := ⟨fun _ => by simp [whenM], fun h => absurd h (by omega)⟩
theorem WhF.step {g st : Int} {ws F l o : List Int} {k : Nat} (h : WhF g st ws F k l o) (hk : k ≤ ws.length) :
    WhF g st ws F (k + 1) (if k = 0 then l else nextL g (ws.getD (k - 1) 0) l) (updL st k o (if k = 0 then l else nextL g (ws.getD (k - 1) 0) l)) := by
  have h1 := h.1 hk
  refine ⟨fun h2 => ?_, fun h2 => ?_⟩
  · rw [List.drop_eq_getElem_cons (show k < ws.length by omega), whenL] at h1
    rw [if_neg (by omega), Nat.add_sub_cancel, List.getD_eq_getElem?_getD, List.getElem?_eq_getElem (show k < ws.length by omega), Option.getD_some]
    simpa using h1
  · rw [List.drop_of_length_le (by omega), whenL] at h1
    exact h1
/-- A list of ints that fills a block. -/
def BlkL (W : World) (g : Nat) (l : List Int) : Prop := Blk W g 3 (l.map (Value.int .i64)).toArray
theorem BlkL.set {W : World} {g : Nat} {l : List Int} (h : BlkL W g l) (i : Nat) (v : Int) : BlkL (W.setCell ⟨g, i, none⟩ (.int .i64 v)) g (l.set i v) := by
  have := Blk.set_ h i (.int .i64 v)
  unfold BlkL
  rw [List.map_set]
  simpa using this
theorem BlkL.at_ {W : World} {g : Nat} {l : List Int} (h : BlkL W g l) {i : Nat} {x : Int} (hx : l[i]? = some x) : W.cell? ⟨g, i, none⟩ = some (.int .i64 x) := by
  have hc := Blk.cell h i
  rw [hc]
  simp [hx]
theorem BlkL.ints {W : World} {g : Nat} {l : List Int} (h : BlkL W g l) (hl : l.length ≤ 9223372036854775807) : IntsIn W (some ⟨g, 0, none⟩) l := ints_blk h rfl hl
/-- A list elsewhere, when a block is written. -/
theorem ints_set {W : World} {A : Option Addr} {l : List Int} {g k : Nat} {u : Value} (h : IntsIn W A l) (hne : ∀ a, A = some a → a.block ≠ g) : IntsIn (W.setCell ⟨g, k, none⟩ u) A l := by
  refine ⟨fun h0 => ?_, h.len⟩
  obtain ⟨b, o, e, hb, hc⟩ := h.at_ h0
  refine ⟨b, o, e, by simpa using hb, fun i x hi j hj => ?_⟩
  have hn : b ≠ g := hne _ e
  have := (grown_set W g k u).cell_far ⟨b, o + i * 1 + j, none⟩ hb (fun e2 => hn (Option.some.inj e2))
  rw [this]
  exact hc i x hi j hj
end Go.Proofs.Ytljbjcnfkbmjkaa
