/- ref03.Check: words, the calls of spans, how errors come out. -/
import Derived.Test.YtkjfommdeljefaaQ4
import Derived.Test.YtkjfommdeljefaaGb
namespace Go.Proofs.Ytkjfommdeljefaa
open Go.RowKit Go.Shelf Go.Maps
attribute [local go_sem] Oper.semAt_some


theorem und_strs : Try.prog.underlying 88 = some (.slice 9) := by kernel_rfl
theorem infoStr : (Try.prog.info? 9).map (fun i => (i.zero, i.size, i.bytes)) = some (some (.string ⟨#[]⟩), 1, 16) := by kernel_rfl
def StrsOut (B : Nat) (w' : World) (v : Value) (l : List ByteArray) : Prop := w'.ownsRow B 9 1 v l.length (l.map Value.string)
theorem StrsOut.reads {B n c : Nat} {w : World} {A : Option Addr} {l : List ByteArray} (h : StrsOut B w (.slice A n c) l) : n = l.length ∧ StrsAt w w.heap.size A l ∧ l.length ≤ c ∧ l.length ≤ maxLen :=
  own_rowAt (enc := encB) h (fun i x hi j hj => by
    obtain rfl : j = 0 := by omega
    rw [Nat.mul_one, Nat.add_zero, List.getElem?_map, hi]; rfl)
theorem news_str {w : World} {g0 : Nat} {z : ByteArray} (hc : Blk w g0 9 #[.string z]) : ∀ j u, ([Value.string z] : List Value)[j]? = some u → w.cell? ((⟨g0, 0, none⟩ : Addr).add j) = some u := by
  intro j u hj
  match j, hj with
  | 0, hj => simp at hj; subst hj; have h := hc.cell 0; simpa [Addr.add] using h
section
variable {ops : Array Oper} {rest : List Oper} {o : Oper} {a : Act} {w : World} {Q : Exit → Act → World → Prop} {B g0 : Nat} {v : Value}
theorem app_strs (hgd : o.guard = none) (s x : Operand) (ho : o.op = .call { callee := .builtin .append, args := #[s, x], argTypes := #[88, 88] })
    {l : List ByteArray} (hs : a.eval s = v) (hown : StrsOut B w v l) (z : ByteArray) (hx : a.eval x = .slice (some ⟨g0, 0, none⟩) 1 1) (hc : Blk w g0 9 #[.string z]) (hl : l.length < 1000000) (hB : B ≤ w.heap.size)
    (h : ∀ g cap w', StrsOut B w' (.slice (some ⟨g, 0, none⟩) (l.length + 1) cap) (l ++ [z]) → Below B w w' → w.grownBy w' v.ownBlock → wpList Try.prog ops Q rest (a.put o.dst (.slice (some ⟨g, 0, none⟩) (l.length + 1) cap)) w') : wpList Try.prog ops Q (o :: rest) a w := by
  obtain ⟨i0, hi0, hz0, hz1, hz2⟩ := info_parts infoStr
  refine wpList_append_lies w hgd s x 88 ho B 9 i0 (.string ⟨#[]⟩) 1 16 und_strs hi0 hz0 hz1 hz2 rfl (by decide) v l.length (l.map Value.string) hs hown ⟨g0, 0, none⟩ 1 1 [.string z] hx rfl (news_str hc) (by simp [Value.oneCell']) (by decide) (by unfold maxLen; omega) (by omega) hB _ rfl ?_
  intro g cap w' h1 h2 h3 _
  exact h g cap w' (by unfold StrsOut; simpa using h1) (own_low hown h2 hB) h2
end
/-- Between two rounds of ref.Check. -/
structure CkJ (w wr : World) (p : Sp) (v : Value) (l : List ByteArray) : Prop where
  own : StrsOut (w.heap.size + 1) wr v l
  box : Blk wr w.heap.size 27 #[.slice p.ka p.s.ks.length p.kc, .slice p.xa p.s.xs.length p.xc, .int .i64 p.s.flo, .int .i64 p.s.fhi, .int .i64 p.s.plo, .int .i64 p.s.phi]
  bel : Below w.heap.size w wr
theorem CkJ.on {w wr wr' : World} {p : Sp} {v : Value} {l : List ByteArray} (h : CkJ w wr p v l) (hb : Below wr.heap.size wr wr') : CkJ w wr' p v l :=
  ⟨own_below h.own hb, h.box.on hb, h.bel.trans (hb.mono h.bel.size)⟩
theorem CkJ.nil {w wr : World} {p : Sp} {v : Value} {l : List ByteArray} (h : CkJ w wr p v l) : CkJ w wr p (.slice none 0 0) [] := ⟨World.ownsRow_nil _ _ _ _, h.box, h.bel⟩
theorem CkJ.more {w wr w1 : World} {p : Sp} {v v1 : Value} {l l1 : List ByteArray} {cs : Array Value} {T : TypeId} {o : Obj} (h : CkJ w wr p v l) (hown : StrsOut (w.heap.size + 1) w1 v1 l1) (hgrow : ((wr.alloc (.cells cs T)).alloc o).grownBy w1 v.ownBlock) :
    CkJ w w1 p v1 l1 ∧ Blk w1 wr.heap.size T cs := by
  have ha : Below wr.heap.size wr ((wr.alloc (.cells cs T)).alloc o) := ((Below.refl _ wr).alloc (Nat.le_refl _) _).alloc (by simp) _
  have hn : ∀ r, v.ownBlock = some r → w.heap.size + 1 ≤ r ∧ r < wr.heap.size := fun r e => World.ownsRow.lt h.own r e
  have hs := h.bel.size
  have hb : Below w.heap.size w w1 := (h.bel.trans (ha.mono hs)).grown hgrow (by simp; omega) (fun r e => by have := (hn r e).1; omega)
  refine ⟨⟨hown, ?_, hb⟩, ?_⟩
  · exact (hgrow.block _ (h.box.on ha).lt (fun e => by have := (hn _ e.symm).1; omega)).trans (h.box.on ha)
  · have hk : Blk ((wr.alloc (.cells cs T)).alloc o) wr.heap.size T cs := (Blk.new wr T cs).alloc o
    exact (hgrow.block _ hk.lt (fun e => by have := (hn _ e.symm).2; omega)).trans hk
theorem map_take_one {α β : Type} (f : α → β) {l : List α} {k : Nat} {x : α} (h : l[k]? = some x) : (l.take (k + 1)).map f = (l.take k).map f ++ [f x] := by
  rw [List.take_add_one, h]; simp
theorem spanErr_in (x : Int × Int) (a b : Int) : spanErr x a b = 0 ∨ spanErr x a b = 2 ∨ spanErr x a b = 7 := by
  unfold spanErr
  split
  · exact .inr (.inr rfl)
  · split
    · exact .inr (.inl rfl)
    · exact .inl rfl
theorem orE_one (e : Int) : orE [e] = e := by unfold orE orE; split <;> simp_all
theorem orE_cons (e : Int) (l : List Int) : orE (e :: l) = if e ≠ 0 then e else orE l := rfl
theorem rangeE_in (a b : Int) (l : List Int) : rangeE a b l = 0 ∨ rangeE a b l = 7 := by
  unfold rangeE; split
  · exact .inl rfl
  · exact .inr rfl
theorem orderE_cons (x : Int × Int) (l : List (Int × Int)) : orderE (x :: l) = if x.2 < x.1 then 2 else orderE l := by
  unfold orderE
  rw [List.any_cons]
  by_cases h : x.2 < x.1
  · simp [emptyB, h]
  · have hd : decide (x.2 < x.1) = false := decide_eq_false h
    simp only [emptyB, hd, Bool.false_or, if_neg h]
theorem orderE_nil : orderE [] = 0 := rfl
theorem span_parts (x : Int × Int) (a b : Int) : spanErr x a b = if rangeE a b [x.1, x.2] ≠ 0 then 7 else if x.2 < x.1 then 2 else 0 := by
  rw [spanErr_or, orE_cons, orE_one, orderE_cons, orderE_nil]
  rcases rangeE_in a b [x.1, x.2] with h | h <;> simp [h]
theorem two_all (a b : Int) (x y : Int × Int) : rangeE a b [x.1, x.2, y.1, y.2] = if rangeE a b [x.1, x.2] ≠ 0 then 7 else rangeE a b [y.1, y.2] := by
  simp only [rangeE_cons]
  cases inB x.1 a b <;> cases inB x.2 a b <;> simp [rangeE]
theorem boundE_sp (s : Sh) (h : inB s.ks.length 1 12 = true ∧ inB s.xs.length 1 6 = true) : boundE s = spStep (spStep 0 (spanErr (s.flo, s.fhi) 0 2000)) (spanErr (s.plo, s.phi) 0 2000) := by
  unfold boundE
  rw [if_pos h, orE_cons, orE_one, two_all 0 2000 (s.flo, s.fhi) (s.plo, s.phi), orderE_cons, orderE_cons, orderE_nil, span_parts, span_parts]
  unfold spStep
  rcases rangeE_in 0 2000 [s.flo, s.fhi] with h1 | h1 <;> rcases rangeE_in 0 2000 [s.plo, s.phi] with h2 | h2 <;> by_cases h3 : s.fhi < s.flo <;> by_cases h4 : s.phi < s.plo <;> simp [h1, h2, h3, h4]
theorem wickE_at {l : List Wk} {k : Nat} {x : Wk} (h : l[k]? = some x) : wickE l k = if nameErr ((l.take k).map Wk.nm) x.nm ≠ 0 then nameErr ((l.take k).map Wk.nm) x.nm else if inB x.th 1 100 = false then 7 else spanErr (x.plo, x.phi) 1 1000 := by
  unfold wickE
  rw [h]
  simp only [orE_cons, spanErr_or]
  cases hb : inB x.th 1 100 <;> simp [rangeE, hb, orE]
theorem waxE_at {l : List Wx} {k : Nat} {x : Wx} (h : l[k]? = some x) : waxE l k = if nameErr ((l.take k).map Wx.nm) x.nm ≠ 0 then nameErr ((l.take k).map Wx.nm) x.nm else if inB x.ch 0 50 = false then 7 else spStep (spStep (spStep 0 (spanErr (x.flo, x.fhi) 1 300)) (spanErr (x.rlo, x.rhi) 1 1000)) (spanErr (x.slo, x.shi) 1 2000) := by
  unfold waxE
  rw [h]
  have h0 : rangeE 0 50 [x.ch] = if inB x.ch 0 50 = false then 7 else 0 := by cases hb : inB x.ch 0 50 <;> simp [rangeE, hb]
  simp only [orE_cons, orderE_cons, orderE_nil, span_parts, h0]
  unfold spStep
  cases inB x.ch 0 50
  · simp
  · rcases rangeE_in 1 300 [x.flo, x.fhi] with h1 | h1 <;> rcases rangeE_in 1 1000 [x.rlo, x.rhi] with h2 | h2 <;> rcases rangeE_in 1 2000 [x.slo, x.shi] with h3 | h3 <;> by_cases h4 : x.fhi < x.flo <;> by_cases h5 : x.rhi < x.rlo <;> by_cases h6 : x.shi < x.slo <;> simp [h1, h2, h3, h4, h5, h6, orE]
theorem spans2_call (W : World) (x1 y1 x2 y2 a1 a2 b1 b2 : Int) :
    Calls Try.prog 46 #[.slice (some ⟨W.heap.size, 0, none⟩) 2 2, .slice (some ⟨W.heap.size + 1, 0, none⟩) 2 2, .slice (some ⟨W.heap.size + 1 + 1, 0, none⟩) 2 2]
      (((W.alloc (.cells #[.int .i64 x1, .int .i64 y1, .int .i64 x2, .int .i64 y2] 25)).alloc (.cells #[.int .i64 a1, .int .i64 a2] 3)).alloc (.cells #[.int .i64 b1, .int .i64 b2] 3))
      fun e w' => e = .returned (.int .i64 (spStep (spStep 0 (spanErr (x1, y1) a1 b1)) (spanErr (x2, y2) a2 b2))) ∧ Below W.heap.size W w' := by
  have k1 := ((Blk.new W 25 #[.int .i64 x1, .int .i64 y1, .int .i64 x2, .int .i64 y2]).alloc (.cells #[.int .i64 a1, .int .i64 a2] 3)).alloc (.cells #[.int .i64 b1, .int .i64 b2] 3)
  have k2 := (Blk.new (W.alloc (.cells #[.int .i64 x1, .int .i64 y1, .int .i64 x2, .int .i64 y2] 25)) 3 #[.int .i64 a1, .int .i64 a2]).alloc (.cells #[.int .i64 b1, .int .i64 b2] 3)
  have k3 := Blk.new ((W.alloc (.cells #[.int .i64 x1, .int .i64 y1, .int .i64 x2, .int .i64 y2] 25)).alloc (.cells #[.int .i64 a1, .int .i64 a2] 3)) 3 #[.int .i64 b1, .int .i64 b2]
  simp only [World.size_alloc] at k2 k3
  have hb : Below W.heap.size W (((W.alloc (.cells #[.int .i64 x1, .int .i64 y1, .int .i64 x2, .int .i64 y2] 25)).alloc (.cells #[.int .i64 a1, .int .i64 a2] 3)).alloc (.cells #[.int .i64 b1, .int .i64 b2] 3)) := (((Below.refl _ W).alloc (Nat.le_refl _) _).alloc (by simp) _).alloc (by simp; omega) _
  refine (rspans_any (l := [(x1, y1), (x2, y2)]) (lo := [a1, a2]) (hi := [b1, b2]) (n := 2) (E := fun k => match k with | 0 => spanErr (x1, y1) a1 b1 | _ => spanErr (x2, y2) a2 b2) (spans_blk k1 rfl (by simp)) (ints_blk k2 rfl (by simp)) (ints_blk k3 rfl (by simp)) rfl rfl rfl (fun k x a b e1 e2 e3 => ?_)).mono fun e w' h => ⟨h.1, hb.trans (h.2.mono hb.size)⟩
  match k, e1, e2, e3 with
  | 0, e1, e2, e3 => cases e1; cases e2; cases e3; rfl
  | 1, e1, e2, e3 => cases e1; cases e2; cases e3; rfl
  | (n + 2), e1, _, _ => simp at e1
theorem spans3_call (W : World) (x1 y1 x2 y2 x3 y3 a1 a2 a3 b1 b2 b3 : Int) :
    Calls Try.prog 46 #[.slice (some ⟨W.heap.size, 0, none⟩) 3 3, .slice (some ⟨W.heap.size + 1, 0, none⟩) 3 3, .slice (some ⟨W.heap.size + 1 + 1, 0, none⟩) 3 3]
      (((W.alloc (.cells #[.int .i64 x1, .int .i64 y1, .int .i64 x2, .int .i64 y2, .int .i64 x3, .int .i64 y3] 25)).alloc (.cells #[.int .i64 a1, .int .i64 a2, .int .i64 a3] 3)).alloc (.cells #[.int .i64 b1, .int .i64 b2, .int .i64 b3] 3))
      fun e w' => e = .returned (.int .i64 (spStep (spStep (spStep 0 (spanErr (x1, y1) a1 b1)) (spanErr (x2, y2) a2 b2)) (spanErr (x3, y3) a3 b3))) ∧ Below W.heap.size W w' := by
  have k1 := ((Blk.new W 25 #[.int .i64 x1, .int .i64 y1, .int .i64 x2, .int .i64 y2, .int .i64 x3, .int .i64 y3]).alloc (.cells #[.int .i64 a1, .int .i64 a2, .int .i64 a3] 3)).alloc (.cells #[.int .i64 b1, .int .i64 b2, .int .i64 b3] 3)
  have k2 := (Blk.new (W.alloc (.cells #[.int .i64 x1, .int .i64 y1, .int .i64 x2, .int .i64 y2, .int .i64 x3, .int .i64 y3] 25)) 3 #[.int .i64 a1, .int .i64 a2, .int .i64 a3]).alloc (.cells #[.int .i64 b1, .int .i64 b2, .int .i64 b3] 3)
  have k3 := Blk.new ((W.alloc (.cells #[.int .i64 x1, .int .i64 y1, .int .i64 x2, .int .i64 y2, .int .i64 x3, .int .i64 y3] 25)).alloc (.cells #[.int .i64 a1, .int .i64 a2, .int .i64 a3] 3)) 3 #[.int .i64 b1, .int .i64 b2, .int .i64 b3]
  simp only [World.size_alloc] at k2 k3
  have hb : Below W.heap.size W (((W.alloc (.cells #[.int .i64 x1, .int .i64 y1, .int .i64 x2, .int .i64 y2, .int .i64 x3, .int .i64 y3] 25)).alloc (.cells #[.int .i64 a1, .int .i64 a2, .int .i64 a3] 3)).alloc (.cells #[.int .i64 b1, .int .i64 b2, .int .i64 b3] 3)) := (((Below.refl _ W).alloc (Nat.le_refl _) _).alloc (by simp) _).alloc (by simp; omega) _
  refine (rspans_any (l := [(x1, y1), (x2, y2), (x3, y3)]) (lo := [a1, a2, a3]) (hi := [b1, b2, b3]) (n := 3) (E := fun k => match k with | 0 => spanErr (x1, y1) a1 b1 | 1 => spanErr (x2, y2) a2 b2 | _ => spanErr (x3, y3) a3 b3) (spans_blk k1 rfl (by simp)) (ints_blk k2 rfl (by simp)) (ints_blk k3 rfl (by simp)) rfl rfl rfl (fun k x a b e1 e2 e3 => ?_)).mono fun e w' h => ⟨h.1, hb.trans (h.2.mono hb.size)⟩
  match k, e1, e2, e3 with
  | 0, e1, e2, e3 => cases e1; cases e2; cases e3; rfl
  | 1, e1, e2, e3 => cases e1; cases e2; cases e3; rfl
  | 2, e1, e2, e3 => cases e1; cases e2; cases e3; rfl
  | (n + 3), e1, _, _ => simp at e1
end Go.Proofs.Ytkjfommdeljefaa
