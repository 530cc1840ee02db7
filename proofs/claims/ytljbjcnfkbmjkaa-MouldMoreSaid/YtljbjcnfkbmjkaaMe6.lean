/- append of a whole list of ints to a new one; slices.Clone: contracts. -/
import Derived.Test.YtljbjcnfkbmjkaaGb
namespace Go.Proofs.Ytljbjcnfkbmjkaa
open Go.RowKit Go.Shelf

/-- A new list without elements. -/
theorem own_empty (w : World) (B : Nat) (hB : B ≤ w.heap.size) : IntsOut B (w.alloc (.cells #[] 3)) (.slice (some ⟨w.heap.size, 0, none⟩) 0 0) [] := by
  refine ⟨rfl, .inr ⟨w.heap.size, 0, _, rfl, hB, heap_alloc_new w _, ?_⟩⟩
  exact ⟨Nat.le_refl _, Nat.zero_le _, rfl, rfl⟩
section
variable {ops : Array Oper} {rest : List Oper} {o : Oper} {a : Act} {w : World} {Q : Exit → Act → World → Prop} {K : Act → World → Prop} {E : Prop} {B : Nat} {v : Value}
theorem app_many (hgd : o.guard = none) (s x : Operand) (ho : o.op = .call { callee := .builtin .append, args := #[s, x], argTypes := #[26, 26] })
    {l l2 : List Int} {A : Option Addr} {c : Nat} (hs : a.eval s = v) (hown : IntsOut B w v l) (hx : a.eval x = .slice A l2.length c) (hc : IntsIn w A l2) (h0 : 0 < l2.length) (hl : l.length + l2.length < 1000000) (hB : B ≤ w.heap.size)
    (h : ∀ g cap w', IntsOut B w' (.slice (some ⟨g, 0, none⟩) (l.length + l2.length) cap) (l ++ l2) → Below B w w' → w.grownBy w' v.ownBlock → (v.ownBlock = some g ∨ g = w.heap.size) → wpList Try.prog ops Q rest (a.put o.dst (.slice (some ⟨g, 0, none⟩) (l.length + l2.length) cap)) w') : wpList Try.prog ops Q (o :: rest) a w := by
  obtain ⟨i0, hi0, hz0, hz1, hz2⟩ := info_parts infoInt
  obtain ⟨y, hy⟩ : ∃ y, l2[0]? = some y := ⟨l2[0], List.getElem?_eq_getElem h0⟩
  obtain ⟨bb, of, rfl, _, _⟩ := ints_at hc.at_ hy
  refine wpList_append_lies w hgd s x 26 ho B 3 i0 (.int .i64 0) 1 8 und_ints hi0 hz0 hz1 hz2 rfl (by decide) v l.length (l.map (Value.int .i64)) hs hown ⟨bb, of, none⟩ l2.length c (l2.map (Value.int .i64)) hx (by simp) ?_ (by simp [Value.oneCell']) h0 (by unfold maxLen; omega) (by omega) hB _ rfl ?_
  · intro j u hj
    rw [List.getElem?_map] at hj
    obtain ⟨z, hz, rfl⟩ := Option.map_eq_some_iff.1 hj
    obtain ⟨b2, o2, he, _, hc2⟩ := ints_at hc.at_ hz
    cases he
    by_cases hj : j = 0
    · subst hj; simpa [Addr.add] using hc2
    · simpa [Addr.add, hj] using hc2
  · intro g cap w' h1 h2 h3 _
    exact h g cap w' (by unfold IntsOut; simpa using h1) (own_low hown h2 hB) h2 h3
end
set_option maxRecDepth 100000 in
theorem clone_any {w : World} {A : Option Addr} {c : Nat} {l : List Int} (h : IntsIn w A l) (h0 : 0 < l.length) (h8 : l.length ≤ 8) :
    Calls Try.prog 55 #[.slice A l.length c] w fun e w' => ∃ v, e = .returned v ∧ IntsOut w.heap.size w' v l ∧ Below w.heap.size w w' := by
  have HI := Lib.hid h
  obtain ⟨y, hy⟩ : ∃ y, l[0]? = some y := ⟨l[0], List.getElem?_eq_getElem h0⟩
  obtain ⟨bb, of, rfl, _, _⟩ := ints_at h.at_ hy
  have HB := Lib.hid ((Below.refl _ w).alloc (Nat.le_refl _) (.cells #[] 3))
  clear h hy
  have hn : ∀ n c W, (binOp .eql 26 (.slice (some ⟨bb, of, none⟩) n c) (.slice none 0 0)).run Try.prog W = .ok (.bool false) W := fun n c W => by kernel_rfl
  go_enter Try.func55, Try.ntmps55
  go_wp2_with (first
    | (at_builtin; go_must (refine app_many rfl _ _ rfl (l := []) (l2 := l) rfl (own_empty w w.heap.size (Nat.le_refl _)) rfl (HI.out.on HB.out) h0 (by simp; omega) (by simp) ?_); intro g cap w4 h1 h2 h3 h4)
    | fail)
  go_ret
  exact ⟨_, rfl, by simpa using h1, HB.out.trans h2⟩
end Go.Proofs.Ytljbjcnfkbmjkaa
