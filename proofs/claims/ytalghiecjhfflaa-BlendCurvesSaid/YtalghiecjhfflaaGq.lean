/- Layer blend, a part: Stays, Weigh. No statement is proved here. -/
import Derived.Test.YtalghiecjhfflaaGa
import Derived.OwnWalkIn
import Derived.TacticsInMore
import Derived.Scope
import Derived.Sort.QuietIn
import Derived.RangeFuncNested
import Derived.Test.YtalghiecjhfflaaGo
import Derived.Test.YtalghiecjhfflaaGp
import Derived.WalkMore
import Derived.Test.YtalghiecjhfflaaGm
namespace Go.Proofs.Ytalghiecjhfflaa
open Go.RowKit Go.Shelf

theorem wpIn_scope_wide {n : Nat} {P : Program} {Q : Exit → Act → World → Prop} {a : Act} {w : World} {c : Code} (h : c.wpIn Fence.wide n P (Exit.noGoto Q) a w) : (Code.scope c).wpIn Fence.wide n P Q a w :=
  wpIn_wide.2 (wp_scope_straight (wpIn_wide.1 h))
section
variable {F : Fence} {n : Nat} {P : Program} {ops : Array Oper} {Q : Exit → Act → World → Prop} {md : Region.Mode}
theorem upon_round {l : Nat} {o : Oper} {a : Act} {K : Act → World → Prop} {r : Result Next} (h : o.uponIn F n P a K Q r) : o.uponIn (F.inRound l) n P a K Q r := by
  cases r with
  | ok x w' => cases x <;> exact h
  | halt x w' => cases x <;> exact h
theorem wpOp_round {l : Nat} (hro : F.round = none) (hd : ∀ (j : Nat) (o : Oper), ops[j]? = some o → ∀ c, o.op ≠ .defer c) {i : Nat} {K : Act → World → Prop} {a : Act} {w : World} (h : wpOpIn F n P ops Q i K a w) : wpOpIn (F.inRound l) n P ops Q i K a w := by
  unfold wpOpIn at *
  cases ho : ops[i]? with
  | none => rw [ho] at h; exact h
  | some o =>
    rw [ho] at h
    simp only at h ⊢
    split
    · rename_i hw
      rw [if_pos hw] at h
      obtain ⟨h1, h2⟩ := h
      refine ⟨h1, ?_⟩
      rw [hro, Oper.semAt_none] at h2
      show o.uponIn (F.inRound l) n P a K Q ((Oper.semAt (some l) a.eval o).run P w)
      rw [Oper.semAt_some l a.eval o (hd i o ho)]
      exact upon_round h2
    · rename_i hw
      rw [if_neg hw] at h
      exact h
theorem wpAny_round {l : Nat} (hro : F.round = none) (hd : ∀ (j : Nat) (o : Oper), ops[j]? = some o → ∀ c, o.op ≠ .defer c) : ∀ (fuel : Nat) (listed : Array Bool) (a : Act) (w : World), wpAnyIn F n P md ops Q fuel listed a w → wpAnyIn (F.inRound l) n P md ops Q fuel listed a w
  | 0, _, _, _, h => h
  | fuel + 1, _, _, _, h => ⟨h.1, fun i hi => wpOpIn_mono (fun a w hh => wpAny_round hro hd fuel _ a w hh) (wpOp_round hro hd (h.2 i hi))⟩
def noDefer (l : List Oper) : Bool := l.all fun o => match o.op with
  | .defer _ => false
  | _ => true
theorem noDefer_spec {l : List Oper} (h : noDefer l = true) : ∀ (j : Nat) (o : Oper), l.toArray[j]? = some o → ∀ c, o.op ≠ .defer c := by
  intro j o ho c e
  have h1 := List.all_eq_true.1 h o (List.mem_of_getElem? (by simpa using ho))
  rw [e] at h1
  cases h1
/-- A region that only reads, in a round: walked once. -/
theorem quiet_round {l : Nat} {id : Nat} {a : Act} {w : World} {os : List Oper} (hro : F.round = none) (hm : P.follows .mixedOrders = true) (hB : Region.lexB .any os.toArray = true) (hd : noDefer os = true)
    (h : wpQuietIn F n P os.toArray (fun w' => ∃ n, w' = w.drewN n) (fun a' => ∀ w', (∃ n, w' = w.drewN n) → Q .normal a' w') os a) : (Code.region id os.toArray true).wpIn (F.inRound l) n P Q a w := by
  simp only [Region.lexB, Bool.and_eq_true] at hB
  refine wpIn_region_any hm (wpAny_round hro (noDefer_spec hd) _ _ _ _ (wpAnyIn_of_quiet (C := fun w' => ∃ n, w' = w.drewN n) (Q := fun a' => ∀ w', (∃ n, w' = w.drewN n) → Q .normal a' w') hro (fun _ w' hw' h => h w' hw') _ _ _ _ ⟨1, rfl⟩ ?_))
  have h2 := wpAnyQIn_lex (F := F) (n := n) (C := fun w' => ∃ n, w' = w.drewN n) (md := .any) hB.1 os 0 (Array.replicate os.toArray.size false) a (by simp) (by simpa using hB.2) h
  simpa using h2
end
end Go.Proofs.Ytalghiecjhfflaa

namespace Go.Proofs.Ytalghiecjhfflaa
open Go.RowKit Go.Shelf Go.Maps
attribute [local go_sem] Oper.semAt_some


theorem blk_put {W : World} {g D : Nat} {T : TypeId} {cs : Array Value} {o : Obj} (h : Blk W g T cs) (hne : g ≠ D) : Blk (W.putObj D o) g T cs := (World.putObj_heap_other hne).trans h
/-- A wax for nothing; the waxes with one of them so. -/
def frB (x : Bw) : Bw := ⟨x.nm, 0, x.mlo, x.mhi, x.slo, x.shi, x.ca, x.cv, x.cc⟩
def frL (l : List Bw) (k : Nat) : List Bw := match l[k]? with
  | some x => l.set k (frB x)
  | none => l
theorem frL_at {l : List Bw} {k : Nat} {x : Bw} (h : l[k]? = some x) : frL l k = l.set k (frB x) := by unfold frL; rw [h]
theorem frL_len (l : List Bw) (k : Nat) : (frL l k).length = l.length := by unfold frL; split <;> simp
theorem frL_mem {l : List Bw} {k : Nat} {z : Bw} (h : z ∈ frL l k) : ∃ x ∈ l, z = x ∨ z = frB x := by
  unfold frL at h
  split at h
  · rename_i x hx
    rcases List.mem_or_eq_of_mem_set h with h1 | h1
    · exact ⟨z, h1, .inl rfl⟩
    · exact ⟨x, List.mem_of_getElem? hx, .inr h1⟩
  · exact ⟨z, h, .inl rfl⟩
theorem frL_ok {l : List Bw} {k : Nat} (h : ∀ x ∈ l, BwOk x) : ∀ z ∈ frL l k, BwOk z := fun z hz => by
  obtain ⟨x, hx, h1⟩ := frL_mem hz
  have ok := h x hx
  rcases h1 with rfl | rfl
  · exact ok
  · exact ⟨⟨Int.le_refl _, by show (0 : Int) ≤ 100000; decide⟩, ok.m, ok.s, ok.len, ok.cv, ok.up⟩
theorem bwCells_pr : ∀ (l : List Bw) (i : Nat) (x : Bw), l[i]? = some x → (bwCells l).set (i * 7 + 1) (.int .i64 0) = bwCells (l.set i (frB x))
  | [], i, x, h => by simp at h
  | z :: l, 0, x, h => by
    simp at h; subst h
    simp [bwCells, bwCell, frB]
  | z :: l, i + 1, x, h => by
    have ih := bwCells_pr l i x (by simpa using h)
    show (bwCell z ++ bwCells l).set ((i + 1) * 7 + 1) _ = bwCell z ++ bwCells (l.set i (frB x))
    rw [List.set_append_right _ _ (by simp [bwCell]; omega), ← ih]
    congr 2; simp [bwCell]; omega
/-- What another recipe asks of the price. -/
def moS (r s : List Int) (k : Nat) : Int := r[k]?.getD 0 - s[k]?.getD 0
def svS (l : List Bw) (r s : List Int) : Int := prV l s - prV l r
def badB (l : List Bw) (r : List Int) (k : Nat) (s : List Int) : Bool := decide (moS r s k = 0) && decide (svS l r s < 0)
def stepS (l : List Bw) (r : List Int) (k : Nat) (p : Int × Int) (s : List Int) : Int × Int := if 0 < moS r s k then (p.1, min p.2 (flo (svS l r s) (moS r s k))) else if moS r s k < 0 then (max p.1 (-flo (svS l r s) (-moS r s k)), p.2) else p
def foldS (l : List Bw) (r : List Int) (k : Nat) (rs : List (List Int)) : Int × Int := rs.foldl (stepS l r k) (0, 100000)
theorem foldS_snoc (l : List Bw) (r : List Int) (k : Nat) (rs : List (List Int)) (s : List Int) : foldS l r k (rs ++ [s]) = stepS l r k (foldS l r k rs) s := by simp [foldS]
def staysV (l : List Bw) (x : Ws) (r : List Int) (i : Int) : Int × Int × Int :=
  if orE [bdE l, wishE l.length x, recE l.length r, idxE l.length i] ≠ 0 then (0, 0, orE [bdE l, wishE l.length x, recE l.length r, idxE l.length i])
  else if whyV (frL l i.toNat) x r ≠ 0 then (0, 0, 9)
  else if (fitL (frL l i.toNat) x).any (badB (frL l i.toNat) r i.toNat) = true then (0, 0, 9)
  else if (foldS (frL l i.toNat) r i.toNat (fitL (frL l i.toNat) x)).2 < (foldS (frL l i.toNat) r i.toNat (fitL (frL l i.toNat) x)).1 then (0, 0, 9)
  else ((foldS (frL l i.toNat) r i.toNat (fitL (frL l i.toNat) x)).1, (foldS (frL l i.toNat) r i.toNat (fitL (frL l i.toNat) x)).2, 0)
theorem sumL_in : ∀ {l : List Int}, (∀ x ∈ l, -1000000000 ≤ x ∧ x ≤ 1000000000) → -1000000000 * (l.length : Int) ≤ sumL l ∧ sumL l ≤ 1000000000 * (l.length : Int)
  | [], _ => by simp [sumL]
  | x :: l, h => by
    have h1 := h x List.mem_cons_self
    have h2 := sumL_in (l := l) fun y hy => h y (List.mem_cons_of_mem _ hy)
    have h3 : ((x :: l).length : Int) = l.length + 1 := by simp
    simp only [sumL]; omega
theorem prV_in {l : List Bw} {r : List Int} (hl : ∀ x ∈ l, BwOk x) (hn : l.length ≤ 5) (hr : RcOk l.length r) : -5000000000 ≤ prV l r ∧ prV l r ≤ 5000000000 := by
  have h := sumL_in (l := List.zipWith (fun (x : Bw) (n : Int) => n * x.pr) l r) (fun y hy => by
    obtain ⟨i, hi⟩ := List.getElem?_of_mem hy
    rw [List.getElem?_zipWith] at hi
    cases h1 : l[i]? with
    | none => rw [h1] at hi; simp at hi
    | some x =>
      cases h2 : r[i]? with
      | none => rw [h1, h2] at hi; simp at hi
      | some n =>
        rw [h1, h2] at hi
        simp at hi
        rw [← hi]
        exact mul_in2 (m := 100000) (hl x (List.mem_of_getElem? h1)).pr (by decide) (hr.in_ n (List.mem_of_getElem? h2)))
  rw [List.length_zipWith] at h
  have e : prV l r = sumL (List.zipWith (fun (x : Bw) (n : Int) => n * x.pr) l r) := rfl
  rw [e]
  omega
theorem flo_inb {a b : Int} (hb : 0 < b) (ha : -10000000000 ≤ a ∧ a ≤ 10000000000) : -10000000000 ≤ flo a b ∧ flo a b ≤ 10000000000 := by
  unfold flo
  constructor
  · rw [Int.le_ediv_iff_mul_le hb]; omega
  · have : a / b < 10000000001 := by rw [Int.ediv_lt_iff_lt_mul hb]; omega
    omega
theorem moS_in {m k : Nat} {r s : List Int} (hr : RcOk m r) (hs : RcOk m s) : -20 ≤ moS r s k ∧ moS r s k ≤ 20 := by
  have h : ∀ {t : List Int}, RcOk m t → 0 ≤ t[k]?.getD 0 ∧ t[k]?.getD 0 ≤ 20 := fun {t} ht => by
    cases h1 : t[k]? with
    | none => simp
    | some n => exact ht.in_ n (List.mem_of_getElem? h1)
  have h1 := h hr
  have h2 := h hs
  unfold moS
  omega
/-- The prices stay small numbers. -/
def PrIn (p : Int × Int) : Prop := (-10000000000 ≤ p.1 ∧ p.1 ≤ 10000000000) ∧ -10000000000 ≤ p.2 ∧ p.2 ≤ 10000000000
theorem stepS_in {l : List Bw} {r s : List Int} {k : Nat} {p : Int × Int} (hp : PrIn p) (hl : ∀ x ∈ l, BwOk x) (hn : l.length ≤ 5) (hr : RcOk l.length r) (hs : RcOk l.length s) : PrIn (stepS l r k p s) := by
  have h1 := prV_in hl hn hr
  have h2 := prV_in hl hn hs
  have h3 : -10000000000 ≤ svS l r s ∧ svS l r s ≤ 10000000000 := by unfold svS; omega
  obtain ⟨p1, p2⟩ := hp
  unfold stepS
  split
  · rename_i hm
    have := flo_inb hm h3
    exact ⟨p1, by show _ ≤ min p.2 _ ∧ min p.2 _ ≤ _; omega⟩
  · split
    · rename_i _ hm
      have := flo_inb (a := svS l r s) (b := -moS r s k) (by omega) h3
      exact ⟨by show _ ≤ max p.1 _ ∧ max p.1 _ ≤ _; omega, p2⟩
    · exact ⟨p1, p2⟩
theorem foldS_in {l : List Bw} {r : List Int} {k : Nat} (hl : ∀ x ∈ l, BwOk x) (hn : l.length ≤ 5) (hr : RcOk l.length r) : ∀ (rs : List (List Int)) (p : Int × Int), PrIn p → (∀ s ∈ rs, RcOk l.length s) → PrIn (rs.foldl (stepS l r k) p)
  | [], _p, hp, _ => hp
  | s :: rs, _p, hp, h => foldS_in hl hn hr rs _ (stepS_in hp hl hn hr (h s List.mem_cons_self)) fun t ht => h t (List.mem_cons_of_mem _ ht)
/-- Between two rounds of Stays. -/
structure StI (V : World) (l : List Bw) (x : Ws) (r : List Int) (k Q : Nat) (pre : List Rq) (X : World) : Prop where
  pr : Blk X Q 36 #[.int .i64 (foldS l r k (pre.map (·.1))).1, .int .i64 (foldS l r k (pre.map (·.1))).2]
  no : ∀ y ∈ pre, y.1 ∈ fitL l x ∧ badB l r k y.1 = false
  b : Below V.heap.size V X
/-- Where a round has ended all. -/
def StX (V : World) (l : List Bw) (x : Ws) (r : List Int) (k Q : Nat) (X : World) : Prop := (∃ a, Blk X Q 36 #[.int .i64 a, .int .i64 (a - 1)] ∧ -10000000000 ≤ a ∧ a ≤ 10000000000) ∧ (fitL l x).any (badB l r k) = true ∧ Below V.heap.size V X
end Go.Proofs.Ytalghiecjhfflaa

namespace Go.Proofs.Ytalghiecjhfflaa
open Go.RowKit Go.Shelf Go.Maps
attribute [local go_sem] Oper.semAt_some


theorem idx_ok {m : Nat} {i : Int} (h : idxE m i = 0) : 0 ≤ i ∧ i < (m : Int) := by
  unfold idxE at h
  split at h
  · rename_i hb
    have := inB_iff.1 hb
    omega
  · cases h
set_option maxRecDepth 100000 in
set_option maxHeartbeats 8000000 in
theorem stays_ok {w : World} {A R : Option Addr} {c rc : Nat} {l : List Bw} {r : List Int} {q : Wm} {i : Int} (h : BwsIn w A l) (hc : l.length ≤ c) (hs : SpansIn w q.pa q.w.ps) (hr : IntsIn w R r) (hz : orE [bdE l, wishE l.length q.w, recE l.length r, idxE l.length i] = 0) :
    Calls Try.prog 31 #[.slice A l.length c, .agg #[.slice q.pa q.w.ps.length q.pc, .int .i64 q.w.mlo, .int .i64 q.w.mhi, .int .i64 q.w.slo, .int .i64 q.w.shi], .slice R r.length rc, .int .i64 i] w fun e w' => e = .returned (.tuple #[.agg #[.int .i64 (staysV l q.w r i).1, .int .i64 (staysV l q.w r i).2.1], .int .i64 (staysV l q.w r i).2.2]) ∧ Below w.heap.size w w' := by
  have HE1 := Lib.hid (fun (W : World) (hb : Below w.heap.size w W) => waxes_any (h.on hb) hc)
  have HE2 := Lib.hid (fun (W : World) (hb : Below w.heap.size w W) => wishE_any (A0 := A) (c0 := c) (pc := q.pc) (m := l.length) (x := q.w) (hs.on hb))
  have HE3 := Lib.hid (fun (W : World) (hb : Below w.heap.size w W) => (recE_any (A0 := A) (c0 := c) (c := rc) (m := l.length) rfl (hr.on hb)).mono (fun e w' (hq : e = .returned (.int .i64 (recQ l.length r)) ∧ w' = W) => (⟨hq.1, by rw [hq.2]; exact Below.refl _ _⟩ : e = .returned (.int .i64 (recQ l.length r)) ∧ Below W.heap.size W w')))
  have HE4 := Lib.hid (fun (W : World) => indexE_any (w := W) (A := A) (c := c) (n := l.length) i h.len)
  have hb0 := (((Bx.nil w).alloc #[.slice q.pa q.w.ps.length q.pc, .int .i64 q.w.mlo, .int .i64 q.w.mhi, .int .i64 q.w.slo, .int .i64 q.w.shi] 46).alloc #[.int .i64 i] 3).alloc #[.int .i64 0, .int .i64 0] 36
  simp only [World.size_alloc] at hb0
  have HB : Hid (Bx w [(w.heap.size + 1 + 1, 36, #[.int .i64 0, .int .i64 0]), (w.heap.size + 1, 3, #[.int .i64 i]), (w.heap.size, 46, #[.slice q.pa q.w.ps.length q.pc, .int .i64 q.w.mlo, .int .i64 q.w.mhi, .int .i64 q.w.slo, .int .i64 q.w.shi])] _) := Lib.hid hb0
  have hq := or_bdw (l := l) (m := wishE l.length q.w) (r := r) (t := [idxE l.length i])
  rw [hz] at hq
  have HQ := Lib.hid hq
  have hok := bd_ok (orE_zero.1 hz (bdE l) (by simp))
  have hwk := wish_ok.1 (orE_zero.1 hz (wishE l.length q.w) (by simp))
  have hrk := rec_ok.1 (orE_zero.1 hz (recE l.length r) (by simp))
  have hik := idx_ok (orE_zero.1 hz (idxE l.length i) (by simp))
  obtain ⟨k, rfl⟩ : ∃ k : Nat, i = (k : Int) := ⟨i.toNat, by omega⟩
  have hkl : k < l.length := by omega
  obtain ⟨x, hx⟩ : ∃ x, l[k]? = some x := ⟨l[k], List.getElem?_eq_getElem hkl⟩
  have HFR := Lib.hid (frL_at hx)
  obtain ⟨b, o, rfl⟩ := h.addr hok.1.1
  have HCL := Lib.hid (fun (W : World) (hb : Below w.heap.size w W) => cloneW_any (c := c) (h.on hb) (by omega) (by omega))
  have HV := Lib.hid (show staysV l q.w r (k : Int) = if whyV (frL l k) q.w r ≠ 0 then (0, 0, 9)
    else if (fitL (frL l k) q.w).any (badB (frL l k) r k) = true then (0, 0, 9)
    else if (foldS (frL l k) r k (fitL (frL l k) q.w)).2 < (foldS (frL l k) r k (fitL (frL l k) q.w)).1 then (0, 0, 9)
    else ((foldS (frL l k) r k (fitL (frL l k) q.w)).1, (foldS (frL l k) r k (fitL (frL l k) q.w)).2, 0) by unfold staysV; rw [if_neg (by simpa using hz)]; rfl)
  have hfo := frL_ok (k := k) hok.2
  have hfl := frL_len l k
  have hki : (k : Int) < (l.length : Int) := by omega
  have HI := Lib.hid h
  have HRI := Lib.hid hr
  have HSI := Lib.hid hs
  have HX := Lib.hid hx
  have HOK := Lib.hid hok
  have HWK := Lib.hid hwk
  have HRK := Lib.hid hrk
  have HFO := Lib.hid hfo
  have HFL := Lib.hid hfl
  clear h hs hr hz hb0 hq hok hwk hrk hik hx hfo hfl
  refine (callsIn_wide (n := 10)).1 ?_
  refine callsIn_of_wp_marks Try.func31 rfl trivial ?_ rfl
  simp only [Try.ntmps31, List.size_toArray, List.length_cons, List.length_nil, Nat.reduceAdd, Nat.reduceSub, Array.replicate_succ, Array.replicate_zero, List.push_toArray, List.append_toArray, List.nil_append, List.cons_append]
  gi_wp2_with fail
  refine wpIn_scope_wide ?_
  gi_wp2_with fail
  refine wpIn_wide.2 (wp_of_eq (st1_region (S := Bx w [(w.heap.size + 1 + 1, 36, #[.int .i64 0, .int .i64 0]), (w.heap.size + 1, 3, #[.int .i64 (k : Int)]), (w.heap.size, 46, #[.slice q.pa q.w.ps.length q.pc, .int .i64 q.w.mlo, .int .i64 q.w.mhi, .int .i64 q.w.slo, .int .i64 q.w.shi])]) (fun _ _ h hb => h.on hb) (P := w.heap.size) (X := w.heap.size + 1) (x1 := q.w.mlo) (x2 := q.w.mhi) (x3 := q.w.slo) (x4 := q.w.shi) (ix := (k : Int)) (fun W h => h.get (by simp)) (fun W h => h.get (by simp)) (Lib.hid fun W h => HE1.out W h.b) (Lib.hid fun W h => HE2.out W h.b) (Lib.hid fun W h => HE3.out W h.b) (Lib.hid fun W h => HE4.out W) HB (Lib.hid fun u W1 hS => ?_)) (by kernel_rfl))
  rw [HQ.out]
  have HS1 := Lib.hid hS
  clear hS
  gi_wp2_with fail
  refine ⟨trivial, ?_⟩
  refine CallsIn.mono (callsIn_wide.2 (HCL.out _ HS1.out.b)) ?_
  rintro e W2 ⟨g, cap, rfl, hp, hb2⟩
  have HS2 := Lib.hid (HS1.out.on hb2)
  have x0 := ((HS1.out.on hb2).get (g := w.heap.size + 1) (T := 3) (cs := #[.int .i64 (k : Int)]) (by simp)).cell 0
  have hb1 := bwCells_at l k x HX.out
  obtain ⟨c1, f1⟩ := own_cell_at (j := k * 7 + 1) hp (hb1 1 (by omega))
  have hga := own_at hp
  simp [encBw] at c1
  have HO2 := Lib.hid hp
  have HGA := Lib.hid hga
  clear hp hb2 hb1 hga
  gi_upto_region 6 with (fail)
  have hz1 : w.heap.size + 2 < W1.heap.size := (HS1.out.get (g := w.heap.size + 1 + 1) (T := 36) (cs := #[.int .i64 0, .int .i64 0]) (by simp)).lt
  have o3 := own_set HO2.out (j := k * 7 + 1) (by omega) (.int .i64 0)
  rw [bwCells_pr l k x HX.out, ← HFR.out] at o3
  have b3 := HS2.out.put (grown_one W2 g (k * 7 + 1) (.int .i64 0)) (by have := HGA.out.1; omega) (fun q hq => by
    simp only [List.mem_cons, List.not_mem_nil, or_false] at hq
    have := HGA.out.1
    rcases hq with rfl | rfl | rfl <;> (simp only; omega))
  clear c1 f1 x0
  generalize W2.setCell ⟨g, k * 7 + 1, none⟩ (.int .i64 0) = W3 at *
  have hO3 : BwsOut W1.heap.size W3 (.slice (some ⟨g, 0, none⟩) l.length cap) (frL l k) := by
    show W3.ownsRow _ _ _ _ _ _
    rw [HFL.out]; exact o3
  have hfr := ex_in HI.out b3.b hO3 (fun z hz => by
    obtain ⟨y, hy, h1⟩ := frL_mem hz
    rcases h1 with rfl | rfl
    · exact ⟨z, hy, rfl, rfl, rfl⟩
    · exact ⟨y, hy, rfl, rfl, rfl⟩)
  have hmx := mixOf_any (c := cap) (rc := rc) hfr (HRI.out.on b3.b) (HRK.out.len.trans HFL.out.symm) (by rw [HFL.out]; exact HOK.out.1)
  rw [HFL.out] at hmx
  have HMX := Lib.hid hmx
  have HFRI := Lib.hid hfr
  have HB3 := Lib.hid b3
  clear o3 b3 hO3 hfr hmx
  gi_wp2_with fail
  refine ⟨trivial, ?_⟩
  refine CallsIn.mono (callsIn_wide.2 HMX.out) ?_
  rintro e W4 ⟨g2, cap2, rfl, hp2, hb4⟩
  have hpi := (mix_in HFRI.out hb4 hp2).2
  have HB4 := Lib.hid (HB3.out.on hb4)
  have pb := (HB3.out.on hb4).get (g := w.heap.size) (T := 46) (cs := #[.slice q.pa q.w.ps.length q.pc, .int .i64 q.w.mlo, .int .i64 q.w.mhi, .int .i64 q.w.slo, .int .i64 q.w.shi]) (by simp)
  have p0 := pb.cell 0; have p1 := pb.cell 1; have p2 := pb.cell 2; have p3 := pb.cell 3; have p4 := pb.cell 4; have pl := pb.lt
  have hb5 : Below W4.heap.size W4 (W4.alloc (.cells #[.slice (some ⟨g2, 0, none⟩) l.length cap2] 107)) := (Below.refl _ W4).alloc (Nat.le_refl _) _
  have hfa := fault_any (c := cap2) (q := q) (hpi.on hb5) HFO.out (by rw [HFL.out]; exact HOK.out.1) (by rw [HFL.out]; exact HRK.out) (by rw [HFL.out]; exact HWK.out) (HSI.out.on (HB4.out.b.trans (hb5.mono HB4.out.b.size)))
  rw [HFL.out] at hfa
  have HFA := Lib.hid hfa
  have HB5 := Lib.hid (HB4.out.on hb5)
  have HQ1 : Hid (Blk (W4.alloc (.cells #[.slice (some ⟨g2, 0, none⟩) l.length cap2] 107)) W4.heap.size 107 #[.slice (some ⟨g2, 0, none⟩) l.length cap2]) := Blk.new W4 _ _
  have HPI := Lib.hid (hpi.on hb5)
  have HFI5 := Lib.hid ((HFRI.out.on hb4).on hb5)
  clear hfa hb5 hpi hp2 hb4 pb
  gi_wp2_with fail
  refine ⟨trivial, ?_⟩
  refine CallsIn.mono (callsIn_wide.2 HFA.out) ?_
  rintro e W6 ⟨rfl, hb6⟩
  have HB6 := Lib.hid (HB5.out.on hb6)
  have HQ6 := Lib.hid (HQ1.out.on hb6)
  have HPI6 := Lib.hid (HPI.out.on hb6)
  have HFI6 := Lib.hid (HFI5.out.on hb6)
  clear p0 p1 p2 p3 p4 pl hb6
  by_cases hwhy : whyV (frL l k) q.w r = 0
  · have hwn : (whyV (frL l k) q.w r != 0) = false := by simp [hwhy]
    have hv := HV.out
    rw [if_neg (by simp [hwhy])] at hv
    have HVV := Lib.hid hv
    clear hv hwhy HV
    have pb := HB6.out.get (g := w.heap.size) (T := 46) (cs := #[.slice q.pa q.w.ps.length q.pc, .int .i64 q.w.mlo, .int .i64 q.w.mhi, .int .i64 q.w.slo, .int .i64 q.w.shi]) (by simp)
    have p0 := pb.cell 0; have p1 := pb.cell 1; have p2 := pb.cell 2; have p3 := pb.cell 3; have p4 := pb.cell 4; have pl := pb.lt
    clear pb
    gi_wp2_with fail
    refine wpIn_label ?_
    gi_wp2_with fail
    refine ⟨trivial, ?_⟩
    refine CallsIn.mono (callsIn_wide.2 (fitting_any _ _ _ _ _)) ?_
    rintro e w8 ⟨rfl, hw8⟩
    rw [hw8]
    clear hw8 p0 p1 p2 p3 p4 pl hwn
    have hs8 : (((W6.alloc (.cells #[.int .i64 0, .int .i64 100000] 36)).alloc (.cells #[.slice (some ⟨g, 0, none⟩) l.length cap] 22)).alloc (.cells #[.slice q.pa q.w.ps.length q.pc, .int .i64 q.w.mlo, .int .i64 q.w.mhi, .int .i64 q.w.slo, .int .i64 q.w.shi] 46)).heap.size = W6.heap.size + 3 := by simp
    have hb8 : Below W6.heap.size W6 (((W6.alloc (.cells #[.int .i64 0, .int .i64 100000] 36)).alloc (.cells #[.slice (some ⟨g, 0, none⟩) l.length cap] 22)).alloc (.cells #[.slice q.pa q.w.ps.length q.pc, .int .i64 q.w.mlo, .int .i64 q.w.mhi, .int .i64 q.w.slo, .int .i64 q.w.shi] 46)) := (((Below.refl _ W6).alloc (Nat.le_refl _) _).alloc (by simp) _).alloc (by simp; omega) _
    have hq8 : Blk (((W6.alloc (.cells #[.int .i64 0, .int .i64 100000] 36)).alloc (.cells #[.slice (some ⟨g, 0, none⟩) l.length cap] 22)).alloc (.cells #[.slice q.pa q.w.ps.length q.pc, .int .i64 q.w.mlo, .int .i64 q.w.mhi, .int .i64 q.w.slo, .int .i64 q.w.shi] 46)) W6.heap.size 36 #[.int .i64 0, .int .i64 100000] := ((Blk.new W6 _ _).alloc _).alloc _
    have hl8 : Blk (((W6.alloc (.cells #[.int .i64 0, .int .i64 100000] 36)).alloc (.cells #[.slice (some ⟨g, 0, none⟩) l.length cap] 22)).alloc (.cells #[.slice q.pa q.w.ps.length q.pc, .int .i64 q.w.mlo, .int .i64 q.w.mhi, .int .i64 q.w.slo, .int .i64 q.w.shi] 46)) (W6.heap.size + 1) 22 #[.slice (some ⟨g, 0, none⟩) l.length cap] := (Blk.at (by simp)).alloc _
    have hw8 : Blk (((W6.alloc (.cells #[.int .i64 0, .int .i64 100000] 36)).alloc (.cells #[.slice (some ⟨g, 0, none⟩) l.length cap] 22)).alloc (.cells #[.slice q.pa q.w.ps.length q.pc, .int .i64 q.w.mlo, .int .i64 q.w.mhi, .int .i64 q.w.slo, .int .i64 q.w.shi] 46)) (W6.heap.size + 1 + 1) 46 #[.slice q.pa q.w.ps.length q.pc, .int .i64 q.w.mlo, .int .i64 q.w.mhi, .int .i64 q.w.slo, .int .i64 q.w.shi] := Blk.at (by simp)
    simp only [World.size_alloc]
    gi_wp2_with fail
    generalize ((W6.alloc (.cells #[.int .i64 0, .int .i64 100000] 36)).alloc (.cells #[.slice (some ⟨g, 0, none⟩) l.length cap] 22)).alloc (.cells #[.slice q.pa q.w.ps.length q.pc, .int .i64 q.w.mlo, .int .i64 q.w.mhi, .int .i64 q.w.slo, .int .i64 q.w.shi] 46) = W8 at *
    have hsg := HB6.out.b.size
    have hz6 : w.heap.size + 2 < W6.heap.size := (HB6.out.get (g := w.heap.size + 1 + 1) (T := 36) (cs := #[.int .i64 0, .int .i64 0]) (by simp)).lt
    have hq46 : W4.heap.size < W6.heap.size := HQ6.out.lt
    have hwk2 : WsOk (frL l k).length q.w := by rw [HFL.out]; exact HWK.out
    rw [← HFL.out] at hl8
    have hFS := fit_seq (wB := W6) HFI6.out HFO.out (by rw [HFL.out]; exact HOK.out.1) (HSI.out.on HB6.out.b) (by rw [HFL.out]; exact HWK.out) hb8 hw8 hl8
    refine wpIn_rangeM (gf := 96) (lb := #[.pointer (some ⟨W6.heap.size + 1 + 1, 0, none⟩), .pointer (some ⟨W6.heap.size + 1, 0, none⟩)]) rfl (enters_of Try.func96 (by kernel_rfl) rfl) hFS hb8.size (fun j hj => by omega) (Below.refl _ _) (fun _ => rfl)
      (fun pre X => StI W6 (frL l k) q.w r k W6.heap.size pre X) (fun cd _ X => cd = .exit 0 ∧ StX W6 (frL l k) q.w r k W6.heap.size X) ?hI ?hIx ⟨hq8, fun y hy => (by cases hy), hb8⟩ ?hM (fun x => ⟨#[.slice (some ⟨b, o, none⟩) l.length c, .agg #[.slice q.pa q.w.ps.length q.pc, .int .i64 q.w.mlo, .int .i64 q.w.mhi, .int .i64 q.w.slo, .int .i64 q.w.shi], .slice R r.length rc, .int .i64 (k : Int), undef, .pointer (some ⟨w.heap.size, 0, none⟩), undef, .pointer (some ⟨w.heap.size + 1, 0, none⟩), .pointer (some ⟨w.heap.size + 1 + 1, 0, none⟩), .int .i64 0, .int .i64 0, .slice (some ⟨g, 0, none⟩) l.length cap, .pointer (some ⟨W4.heap.size, 0, none⟩), .pointer (some ⟨W6.heap.size, 0, none⟩), .slice (some ⟨x.2.1, 0, none⟩) x.1.length x.2.2, undef, undef, u 0, u 1, u 2, u 3, u 4, u 5, u 6, u 7, u 8, u 9, u 10, u 11, u 12, .int .i64 0, .bool false, undef, undef, .slice (some ⟨b, o, none⟩) l.length c, .slice (some ⟨g, 0, none⟩) l.length cap, .slice (some ⟨g, 0, none⟩) l.length cap, .int .i64 (k : Int), .pointer (some ⟨g, k * 7, none⟩), .pointer (some ⟨g, k * 7 + 1, none⟩), .slice (some ⟨g, 0, none⟩) l.length cap, .slice R r.length rc, .slice (some ⟨g2, 0, none⟩) l.length cap2, .slice (some ⟨g2, 0, none⟩) l.length cap2, .agg #[.slice q.pa q.w.ps.length q.pc, .int .i64 q.w.mlo, .int .i64 q.w.mhi, .int .i64 q.w.slo, .int .i64 q.w.shi], .int .i64 (whyV (frL l k) q.w r), .bool false, undef, .agg #[.int .i64 0, .int .i64 100000], .slice (some ⟨g, 0, none⟩) l.length cap, .agg #[.slice q.pa q.w.ps.length q.pc, .int .i64 q.w.mlo, .int .i64 q.w.mhi, .int .i64 q.w.slo, .int .i64 q.w.shi], .func (.func 96) #[] #[.pointer (some ⟨W6.heap.size + 1 + 1, 0, none⟩), .pointer (some ⟨W6.heap.size + 1, 0, none⟩)], .slice (some ⟨x.2.1, 0, none⟩) x.1.length x.2.2, undef, undef, undef, undef, undef, undef, undef, undef, undef, undef, undef, undef, undef, undef, undef, undef, undef, undef, undef, undef, undef, undef, undef, undef, undef, undef, undef, undef, undef, undef, undef, undef, undef, undef, undef, undef, undef, undef, undef, undef, undef, undef, undef, undef, undef, undef, undef, undef, undef], []⟩) ?assign ?body ?done ?stop
    case hI =>
      intro s X Y h1 ho
      exact ⟨(ho.block _ h1.pr.lt (.inl (by omega))).trans h1.pr, h1.no, h1.b.trans ⟨ho.os, ho.tape, ho.output, ho.size, fun j hj => ho.block j (Nat.lt_of_lt_of_le hj h1.b.size) (.inl (by omega))⟩⟩
    case hIx =>
      rintro cd s X Y ⟨h0, ⟨a, h1, ha⟩, h2, h3⟩ ho
      exact ⟨h0, ⟨a, (ho.block _ h1.lt (.inl (by omega))).trans h1, ha⟩, h2, h3.trans ⟨ho.os, ho.tape, ho.output, ho.size, fun j hj => ho.block j (Nat.lt_of_lt_of_le hj h3.size) (.inl (by omega))⟩⟩
    case hM =>
      rintro x X Y ⟨h1, h2⟩ ho
      exact ⟨h1, h2.outside ho (by omega)⟩
    case assign =>
      intro lo x X N hN
      gi_wp2_with fail
      exact hN
    case body =>
      rintro lo pre x X hST ⟨hm1, hm2⟩ hsz -
      have hrc := rec_rc hwk2 (List.mem_filter.1 hm1).1
      have hxp := (mix_in (HFI6.out) hST.b hm2).2
      have hxl : x.1.length = l.length := hrc.len.trans HFL.out
      have hrk2 : RcOk (frL l k).length r := by rw [HFL.out]; exact HRK.out
      have hP2 : ∀ V : World, Below X.heap.size X V → Calls Try.prog 72 #[.slice (some ⟨x.2.1, 0, none⟩) l.length x.2.2] V fun e w' => e = .returned (.int .i64 (prV (frL l k) x.1)) ∧ Below V.heap.size V w' := fun V hb => by
        have q1 := price_any (c := x.2.2) (hxp.on hb) HFO.out (by rw [HFL.out]; exact HOK.out.1.2) hrc
        rw [HFL.out] at q1
        exact q1
      have hP1 : ∀ V : World, Below X.heap.size X V → Calls Try.prog 72 #[.slice (some ⟨g2, 0, none⟩) l.length cap2] V fun e w' => e = .returned (.int .i64 (prV (frL l k) r)) ∧ Below V.heap.size V w' := fun V hb => by
        have q1 := price_any (c := cap2) ((HPI6.out.on hST.b).on hb) HFO.out (by rw [HFL.out]; exact HOK.out.1.2) hrk2
        rw [HFL.out] at q1
        exact q1
      obtain ⟨n1, hn1⟩ : ∃ n, r[k]? = some n := ⟨r[k]'(by rw [HRK.out.len]; exact hkl), List.getElem?_eq_getElem _⟩
      obtain ⟨n2, hn2⟩ : ∃ n, x.1[k]? = some n := ⟨x.1[k]'(by rw [hxl]; exact hkl), List.getElem?_eq_getElem _⟩
      obtain ⟨y0, hy0⟩ : ∃ y, (frL l k)[k]? = some y := ⟨(frL l k)[k]'(by rw [HFL.out]; exact hkl), List.getElem?_eq_getElem _⟩
      obtain ⟨gb1, go1, eg1, hg1, -, d1⟩ := HPI6.out.get (mixL_get g 0 (frL l k) r k y0 n1 hy0 hn1)
      cases eg1
      obtain ⟨gb2, go2, eg2, hg2, -, d2⟩ := hxp.get (mixL_get g 0 (frL l k) x.1 k y0 n2 hy0 hn2)
      cases eg2
      simp only [Nat.zero_add] at d1 d2
      have hmo : moS r x.1 k = n1 - n2 := by unfold moS; rw [hn1, hn2]; rfl
      have hmi := moS_in (k := k) hrk2 hrc
      have hp1i := prV_in HFO.out (by rw [HFL.out]; exact HOK.out.1.2) hrk2
      have hp2i := prV_in HFO.out (by rw [HFL.out]; exact HOK.out.1.2) hrc
      have hfi := foldS_in (k := k) HFO.out (by rw [HFL.out]; exact HOK.out.1.2) hrk2 (pre.map (·.1)) (0, 100000) ⟨by decide, by decide⟩ (fun s hs => by
        obtain ⟨y, hy, rfl⟩ := List.mem_map.1 hs
        exact rec_rc hwk2 (List.mem_filter.1 (hST.no y hy).1).1)
      have hsn := foldS_snoc (frL l k) r k (pre.map (·.1)) x.1
      have hsv : svS (frL l k) r x.1 = prV (frL l k) x.1 - prV (frL l k) r := rfl
      have hpr := hST.pr
      have HST := Lib.hid hST
      have HM1 := Lib.hid hm1
      have HD1 := Lib.hid (And.intro hg1 (And.intro d1 (And.intro hg2 d2)))
      have HQX := Lib.hid ((HQ6.out).on hST.b)
      have HXX := Lib.hid ((HB6.out.get (g := w.heap.size + 1) (T := 3) (cs := #[.int .i64 (k : Int)]) (by simp)).on hST.b)
      have HP1 := Lib.hid hP1
      have HP2 := Lib.hid hP2
      obtain ⟨pl, hpl⟩ : ∃ z, (foldS (frL l k) r k (pre.map (·.1))).1 = z := ⟨_, rfl⟩
      obtain ⟨ph, hph⟩ : ∃ z, (foldS (frL l k) r k (pre.map (·.1))).2 = z := ⟨_, rfl⟩
      have hfs : foldS (frL l k) r k (pre.map (·.1)) = (pl, ph) := by rw [← hpl, ← hph]
      rw [hfs] at hsn hpr
      have hfi2 : PrIn (pl, ph) := by rw [← hfs]; exact hfi
      have hsn2 : foldS (frL l k) r k ((pre ++ [x]).map (·.1)) = stepS (frL l k) r k (pl, ph) x.1 := by rw [List.map_append]; exact hsn
      unfold stepS at hsn2
      rw [hmo, hsv] at hsn2
      rw [hmo] at hmi
      have hbad : badB (frL l k) r k x.1 = (decide (n1 - n2 = 0) && decide (prV (frL l k) x.1 - prV (frL l k) r < 0)) := by unfold badB; rw [hmo, hsv]
      have HPR := Lib.hid hpr
      have HFI2 := Lib.hid hfi2
      have HSN := Lib.hid hsn2
      have HBAD := Lib.hid hbad
      clear hST hm1 hm2 hrc hxp hP1 hP2 hsn hpr hfi hfi2 hsn2 hbad hpl hph hfs hrk2 hg1 hg2 d1 d2 hy0 hn1 hn2 hq8 hl8 hw8 hFS
      rw [hxl]
      generalize prV (frL l k) x.1 = p2 at *
      generalize prV (frL l k) r = p1 at *
      clear hsv hmo
      have w1_ : IntKind.i64.wrap (n1 - n2) = n1 - n2 := IntWalk.i64_in _ (by omega)
      have w2_ : IntKind.i64.wrap (p2 - p1) = p2 - p1 := IntWalk.i64_in _ (by omega)
      gi_wp2_with fail
      refine wpIn_of_eq (st12_region (S := fun V => (Blk V W4.heap.size 107 #[.slice (some ⟨g2, 0, none⟩) l.length cap2] ∧ Blk V (w.heap.size + 1) 3 #[.int .i64 (k : Int)]) ∧ Below X.heap.size X V) (fun _ _ h hb => ⟨⟨h.1.1.on hb, h.1.2.on hb⟩, h.2.trans (hb.mono h.2.size)⟩) (Q1 := W4.heap.size) (X := w.heap.size + 1) (g1 := g2) (m := l.length) (c1 := cap2) (g2 := x.2.1) (c2 := x.2.2) (kk := k) (n1 := n1) (n2 := n2) (p1 := p1) (p2 := p2) hkl w1_ w2_ (fun V h => h.1.1) (fun V h => h.1.2)
        (fun V h => (h.2.cell (p := ⟨g2, _, none⟩) (Nat.lt_of_lt_of_le HD1.out.1 HST.out.b.size)).trans ((HST.out.b.cell (p := ⟨g2, _, none⟩) HD1.out.1).trans HD1.out.2.1)) (fun V h => (h.2.cell (p := ⟨x.2.1, _, none⟩) HD1.out.2.2.1).trans HD1.out.2.2.2) (Lib.hid fun V h => HP2.out V h.2) (Lib.hid fun V h => HP1.out V h.2) (Lib.hid ⟨⟨HQX.out, HXX.out⟩, Below.refl _ _⟩) (Lib.hid fun u2 V hV => ?_)) (by kernel_rfl)
      have HBV := Lib.hid hV.2
      have HPV := Lib.hid (HPR.out.on hV.2)
      clear hV w1_ w2_
      generalize n1 - n2 = mo at *
      have hpb : -10000000000 ≤ p2 - p1 ∧ p2 - p1 ≤ 10000000000 := by omega
      generalize p2 - p1 = sv at *
      clear hp1i hp2i HD1 HP1 HP2
      have HMI := Lib.hid hmi
      have HPB := Lib.hid hpb
      have HNO : Hid (badB (frL l k) r k x.1 = false → ∀ y ∈ pre ++ [x], y.1 ∈ fitL (frL l k) q.w ∧ badB (frL l k) r k y.1 = false) := fun hb y hy => by
        rcases List.mem_append.1 hy with h1 | h1
        · exact HST.out.no y h1
        · rw [List.mem_singleton.1 h1]; exact ⟨HM1.out, hb⟩
      have HKE : Hid (∀ Z : World, Below W6.heap.size X Z → (∀ j, j < X.heap.size → j ≠ W6.heap.size → Z.heap[j]? = X.heap[j]?) → Keep W6.heap.size (fun j => j = W6.heap.size + 1 + 1 ∨ j = W6.heap.size + 1) W8.heap.size (2 + 8) X Z) := fun Z h1 h2 => ⟨h1, fun j hj ho => h2 j hj (by omega)⟩
      have hw6x := HST.out.b.size
      clear hmi hpb
      by_cases hm1 : 0 < mo
      · have hd1 : decide (0 < mo) = true := decide_eq_true hm1
        have hsn := HSN.out
        rw [if_pos hm1] at hsn
        have HSN2 := Lib.hid hsn
        have hbd := HBAD.out
        rw [show decide (mo = 0) = false from decide_eq_false (by omega)] at hbd
        have HBD := Lib.hid hbd
        have HFL0 := Lib.hid (fun (Y : World) => floor_any (a := sv) (b := mo) (by have := HMI.out; omega) (by have := HPB.out; omega) Y)
        clear hsn hbd HSN HBAD hm1
        gi_wp2_with fail
        refine wpIn_of_eq (st14_region (S := fun Y => Blk Y W6.heap.size 36 #[.int .i64 pl, .int .i64 ph] ∧ Below X.heap.size X Y) (S1 := fun Y => Blk Y W6.heap.size 36 #[.int .i64 pl, .int .i64 (min ph (flo sv mo))] ∧ Below W6.heap.size X Y ∧ ∀ j, j < X.heap.size → j ≠ W6.heap.size → Y.heap[j]? = X.heap[j]?) (fun _ _ h hb => ⟨h.1.on hb, h.2.trans (hb.mono h.2.size)⟩) (Q2 := W6.heap.size) (pl := pl) (ph := ph) (mo := mo) (sv := sv) (f := flo sv mo) (fun Y h => h.1)
          (fun Y h => ⟨by have := h.1.set_ 1 (.int .i64 (min ph (flo sv mo))); simpa using this, (h.2.mono hw6x).setCell (Nat.le_refl _) _, fun j hj hne => (Below.heap_setCell Y ⟨W6.heap.size, 1, none⟩ _ j (by simpa using hne)).trans (h.2.block j hj)⟩)
          (Lib.hid fun Y h => (HFL0.out Y).mono (fun e w' (hq : e = .returned (.int .i64 (flo sv mo)) ∧ w' = Y) => (⟨hq.1, by rw [hq.2]; exact Below.refl _ _⟩ : e = .returned (.int .i64 (flo sv mo)) ∧ Below Y.heap.size Y w'))) (Lib.hid ⟨HPV.out, HBV.out⟩) (Lib.hid fun u3 Y hY => ?_)) (by kernel_rfl)
        have HYY := Lib.hid hY
        clear hY
        gi_wp2_with fail
        refine ⟨HKE.out Y HYY.out.2.1 HYY.out.2.2, ?_, HNO.out (by rw [HBD.out]; rfl), HST.out.b.trans HYY.out.2.1⟩
        rw [HSN2.out]; exact HYY.out.1
      · have hd1 : decide (0 < mo) = false := decide_eq_false hm1
        have hsn := HSN.out
        rw [if_neg hm1] at hsn
        by_cases hm2 : mo < 0
        · have hd2 : decide (mo < 0) = true := decide_eq_true hm2
          rw [if_pos hm2] at hsn
          have HSN2 := Lib.hid hsn
          have hbd := HBAD.out
          rw [show decide (mo = 0) = false from decide_eq_false (by omega)] at hbd
          have HBD := Lib.hid hbd
          have HFL0 := Lib.hid (fun (Y : World) => floor_any (a := sv) (b := -mo) (by have := HMI.out; omega) (by have := HPB.out; omega) Y)
          have hfb := flo_inb (a := sv) (b := -mo) (by omega) HPB.out
          have w3_ : IntKind.i64.wrap (-mo) = -mo := IntWalk.i64_in _ (by have := HMI.out; omega)
          have w4_ : IntKind.i64.wrap (-flo sv (-mo)) = -flo sv (-mo) := IntWalk.i64_in _ (by omega)
          have W34 := Lib.hid (And.intro w3_ w4_)
          clear hsn hbd HSN HBAD hm1 hm2 hfb w3_ w4_
          gi_wp2_with fail
          refine wpIn_of_eq (st16_region (S := fun Y => Blk Y W6.heap.size 36 #[.int .i64 pl, .int .i64 ph] ∧ Below X.heap.size X Y) (S1 := fun Y => Blk Y W6.heap.size 36 #[.int .i64 (max pl (-flo sv (-mo))), .int .i64 ph] ∧ Below W6.heap.size X Y ∧ ∀ j, j < X.heap.size → j ≠ W6.heap.size → Y.heap[j]? = X.heap[j]?) (fun _ _ h hb => ⟨h.1.on hb, h.2.trans (hb.mono h.2.size)⟩) (Q2 := W6.heap.size) (pl := pl) (ph := ph) (mo := mo) (sv := sv) (f := flo sv (-mo)) (fun Y h => h.1)
            (fun Y h => ⟨by have := h.1.set_ 0 (.int .i64 (max pl (-flo sv (-mo)))); simpa using this, (h.2.mono hw6x).setCell (Nat.le_refl _) _, fun j hj hne => (Below.heap_setCell Y ⟨W6.heap.size, 0, none⟩ _ j (by simpa using hne)).trans (h.2.block j hj)⟩) W34.out.1 W34.out.2
            (Lib.hid fun Y h => (HFL0.out Y).mono (fun e w' (hq : e = .returned (.int .i64 (flo sv (-mo))) ∧ w' = Y) => (⟨hq.1, by rw [hq.2]; exact Below.refl _ _⟩ : e = .returned (.int .i64 (flo sv (-mo))) ∧ Below Y.heap.size Y w'))) (Lib.hid ⟨HPV.out, HBV.out⟩) (Lib.hid fun u3 Y hY => ?_)) (by kernel_rfl)
          have HYY := Lib.hid hY
          clear hY
          gi_wp2_with fail
          refine ⟨HKE.out Y HYY.out.2.1 HYY.out.2.2, ?_, HNO.out (by rw [HBD.out]; rfl), HST.out.b.trans HYY.out.2.1⟩
          rw [HSN2.out]; exact HYY.out.1
        · obtain rfl : mo = 0 := by omega
          rw [if_neg hm2] at hsn
          have HSN2 := Lib.hid hsn
          have hbd := HBAD.out
          rw [show decide ((0 : Int) = 0) = true from rfl, Bool.true_and] at hbd
          by_cases hs0 : sv < 0
          · have hd3 : decide (sv < 0) = true := decide_eq_true hs0
            rw [hd3] at hbd
            have HBD := Lib.hid hbd
            have q0 := HPV.out.cell 0; have q1 := HPV.out.cell 1; have fz := HPV.out.frozen 1; have ql := HPV.out.lt
            have w5_ : IntKind.i64.wrap (pl - 1) = pl - 1 := IntWalk.i64_in _ (by have := HFI2.out.1; omega)
            clear hsn hbd HSN HBAD hm1 hm2 hd1 hs0
            gi_wp2_with fail
            refine ⟨HKE.out _ ((HBV.out.mono hw6x).setCell (Nat.le_refl _) _) (fun j hj hne => (Below.heap_setCell V ⟨W6.heap.size, 1, none⟩ _ j (by simpa using hne)).trans (HBV.out.block j hj)), rfl, ⟨pl, by have := HPV.out.set_ 1 (.int .i64 (pl - 1)); simpa using this, HFI2.out.1⟩, List.any_eq_true.2 ⟨x.1, HM1.out, HBD.out⟩, (HST.out.b.trans (HBV.out.mono hw6x)).setCell (Nat.le_refl _) _⟩
          · have hd3 : decide (sv < 0) = false := decide_eq_false hs0
            rw [hd3] at hbd
            have HBD := Lib.hid hbd
            clear hsn hbd HSN HBAD hm1 hm2 hd1 hs0
            gi_wp2_with fail
            refine ⟨Keep.of_below HBV.out hw6x, ?_, HNO.out HBD.out, HST.out.b.trans (HBV.out.mono hw6x)⟩
            rw [HSN2.out]; exact HPV.out
    case done =>
      intro D xs X hD1 hD2 hS hST hd
      have hS' : xs.map (·.1) = fitL (frL l k) q.w := hS
      have hany : (fitL (frL l k) q.w).any (badB (frL l k) r k) = false := by
        rw [List.any_eq_false, ← hS']
        intro s hs
        obtain ⟨y, hy, rfl⟩ := List.mem_map.1 hs
        rw [(hST.no y hy).2]; decide
      have hv := HVV.out
      rw [if_neg (by rw [hany]; decide)] at hv
      have HQQ := hST.pr
      have HB := hST.b
      rw [hS'] at HQQ
      generalize foldS (frL l k) r k (fitL (frL l k) q.w) = pp at *
      obtain ⟨pa_, pb_⟩ := pp
      simp only at HQQ hv
      have HQH := Lib.hid HQQ
      have hDs : w.heap.size + 1 + 1 < D := by omega
      have RB := Lib.hid ((HB6.out.get (g := w.heap.size + 1 + 1) (T := 36) (cs := #[.int .i64 0, .int .i64 0]) (by simp)).on HB)
      have HDL : Hid (D < X.heap.size) := (Array.getElem?_eq_some_iff.1 hd).1
      have HD := Lib.hid hd
      have q0 := HQQ.cell 0; have q1 := HQQ.cell 1; have ql := HQQ.lt
      have HBX := Lib.hid (HB6.out.b.trans (HB.mono HB6.out.b.size))
      clear hd hq8 hl8 hw8 hFS HB
      clear HQQ hS hS' hany hST HVV
      by_cases hlt : pb_ < pa_
      · rw [if_pos hlt] at hv
        have hdd : decide (pb_ < pa_) = true := decide_eq_true hlt
        have HV2 := Lib.hid hv
        clear hv hlt
        gi_wp2_with fail
        refine ⟨trivial, ?_⟩
        refine CallsIn.mono (callsIn_wide.2 (empty_any _ _ _)) ?_
        rintro e V ⟨rfl, hbv⟩
        have rv := RB.out.on hbv
        have dv : V.heap[D]? = some (.deferred (some [])) := (hbv.block D HDL.out).trans HD.out
        have bv := HBX.out.trans (hbv.mono HBX.out.size)
        have t0 := (HQH.out.on hbv).cell 0; have t1 := (HQH.out.on hbv).cell 1; have tl := (HQH.out.on hbv).lt
        have r0 := rv.cell 0; have r1 := rv.cell 1; have f0 := rv.frozen 0; have f1 := rv.frozen 1; have rl := rv.lt
        have HRV := Lib.hid rv
        have HDV := Lib.hid dv
        have HBV := Lib.hid bv
        clear rv dv bv hbv q0 q1 ql
        gi_wp2_with fail
        have rz := (HRV.out.set_ 0 (.int .i64 0)).set_ 1 (.int .i64 0)
        simp only [List.setIfInBounds_toArray, List.set_cons_zero, List.set_cons_succ] at rz
        have dz : ((V.setCell ⟨w.heap.size + 1 + 1, 0, none⟩ (.int .i64 0)).setCell ⟨w.heap.size + 1 + 1, 1, none⟩ (.int .i64 0)).heap[D]? = some (.deferred (some [])) := (Below.heap_setCell _ _ _ D (by show D ≠ w.heap.size + 1 + 1; omega)).trans ((Below.heap_setCell _ _ _ D (by show D ≠ w.heap.size + 1 + 1; omega)).trans HDV.out)
        have bz := (HBV.out.setCell (p := ⟨w.heap.size + 1 + 1, 0, none⟩) (by show w.heap.size ≤ w.heap.size + 1 + 1; omega) (.int .i64 0)).setCell (p := ⟨w.heap.size + 1 + 1, 1, none⟩) (by show w.heap.size ≤ w.heap.size + 1 + 1; omega) (.int .i64 0)
        generalize (V.setCell ⟨w.heap.size + 1 + 1, 0, none⟩ (.int .i64 0)).setCell ⟨w.heap.size + 1 + 1, 1, none⟩ (.int .i64 0) = Z at *
        have rp := blk_put rz (D := D) (o := .deferred none) (by omega)
        have z0 := rp.cell 0; have z1 := rp.cell 1
        rw [Exit.noGoto_ret]
        refine ⟨by simp, .inl ⟨_, _, rfl, run_takeDeferred dz, ?_⟩⟩
        exact ⟨.tuple #[.agg #[.int .i64 0, .int .i64 0], .int .i64 9], by simp [results, Try.results31, go_sem, z0, z1], by rw [HV2.out], below_put bz (by omega) bz.size _⟩
      · rw [if_neg hlt] at hv
        have hdd : decide (pb_ < pa_) = false := decide_eq_false hlt
        have HV2 := Lib.hid hv
        clear hv hlt
        gi_wp2_with fail
        refine ⟨trivial, ?_⟩
        refine CallsIn.mono (callsIn_wide.2 (empty_any _ _ _)) ?_
        rintro e V ⟨rfl, hbv⟩
        have rv := RB.out.on hbv
        have dv : V.heap[D]? = some (.deferred (some [])) := (hbv.block D HDL.out).trans HD.out
        have bv := HBX.out.trans (hbv.mono HBX.out.size)
        have t0 := (HQH.out.on hbv).cell 0; have t1 := (HQH.out.on hbv).cell 1; have tl := (HQH.out.on hbv).lt
        have r0 := rv.cell 0; have r1 := rv.cell 1; have f0 := rv.frozen 0; have f1 := rv.frozen 1; have rl := rv.lt
        have HRV := Lib.hid rv
        have HDV := Lib.hid dv
        have HBV := Lib.hid bv
        clear rv dv bv hbv q0 q1 ql
        gi_wp2_with fail
        have rz := (HRV.out.set_ 0 (.int .i64 pa_)).set_ 1 (.int .i64 pb_)
        simp only [List.setIfInBounds_toArray, List.set_cons_zero, List.set_cons_succ] at rz
        have dz : ((V.setCell ⟨w.heap.size + 1 + 1, 0, none⟩ (.int .i64 pa_)).setCell ⟨w.heap.size + 1 + 1, 1, none⟩ (.int .i64 pb_)).heap[D]? = some (.deferred (some [])) := (Below.heap_setCell _ _ _ D (by show D ≠ w.heap.size + 1 + 1; omega)).trans ((Below.heap_setCell _ _ _ D (by show D ≠ w.heap.size + 1 + 1; omega)).trans HDV.out)
        have bz := (HBV.out.setCell (p := ⟨w.heap.size + 1 + 1, 0, none⟩) (by show w.heap.size ≤ w.heap.size + 1 + 1; omega) (.int .i64 pa_)).setCell (p := ⟨w.heap.size + 1 + 1, 1, none⟩) (by show w.heap.size ≤ w.heap.size + 1 + 1; omega) (.int .i64 pb_)
        generalize (V.setCell ⟨w.heap.size + 1 + 1, 0, none⟩ (.int .i64 pa_)).setCell ⟨w.heap.size + 1 + 1, 1, none⟩ (.int .i64 pb_) = Z at *
        have rp := blk_put rz (D := D) (o := .deferred none) (by omega)
        have z0 := rp.cell 0; have z1 := rp.cell 1
        rw [Exit.noGoto_ret]
        refine ⟨by simp, .inl ⟨_, _, rfl, run_takeDeferred dz, ?_⟩⟩
        exact ⟨.tuple #[.agg #[.int .i64 pa_, .int .i64 pb_], .int .i64 0], by simp [results, Try.results31, go_sem, z0, z1], by rw [HV2.out], below_put bz (by omega) bz.size _⟩
    case stop =>
      rintro D cd pre X hD1 hD2 ⟨rfl, ⟨pa_, HQQ, hai⟩, hany, HB⟩ hd
      have hv := HVV.out
      rw [if_pos hany] at hv
      have HQH := Lib.hid HQQ
      have hDs : w.heap.size + 1 + 1 < D := by omega
      have hdd : decide (pa_ - 1 < pa_) = true := decide_eq_true (by omega)
      have HV2 := Lib.hid hv
      have RB := Lib.hid ((HB6.out.get (g := w.heap.size + 1 + 1) (T := 36) (cs := #[.int .i64 0, .int .i64 0]) (by simp)).on HB)
      have HDL : Hid (D < X.heap.size) := (Array.getElem?_eq_some_iff.1 hd).1
      have HD := Lib.hid hd
      have q0 := HQQ.cell 0; have q1 := HQQ.cell 1; have ql := HQQ.lt
      have HBX := Lib.hid (HB6.out.b.trans (HB.mono HB6.out.b.size))
      clear hd hq8 hl8 hw8 hFS HB
      clear HQQ hany HVV hv hai
      gi_wp2_with fail
      refine ⟨trivial, ?_⟩
      refine CallsIn.mono (callsIn_wide.2 (empty_any _ _ _)) ?_
      rintro e V ⟨rfl, hbv⟩
      have rv := RB.out.on hbv
      have dv : V.heap[D]? = some (.deferred (some [])) := (hbv.block D HDL.out).trans HD.out
      have bv := HBX.out.trans (hbv.mono HBX.out.size)
      have t0 := (HQH.out.on hbv).cell 0; have t1 := (HQH.out.on hbv).cell 1; have tl := (HQH.out.on hbv).lt
      have r0 := rv.cell 0; have r1 := rv.cell 1; have f0 := rv.frozen 0; have f1 := rv.frozen 1; have rl := rv.lt
      have HRV := Lib.hid rv
      have HDV := Lib.hid dv
      have HBV := Lib.hid bv
      clear rv dv bv hbv q0 q1 ql
      gi_wp2_with fail
      have rz := (HRV.out.set_ 0 (.int .i64 0)).set_ 1 (.int .i64 0)
      simp only [List.setIfInBounds_toArray, List.set_cons_zero, List.set_cons_succ] at rz
      have dz : ((V.setCell ⟨w.heap.size + 1 + 1, 0, none⟩ (.int .i64 0)).setCell ⟨w.heap.size + 1 + 1, 1, none⟩ (.int .i64 0)).heap[D]? = some (.deferred (some [])) := (Below.heap_setCell _ _ _ D (by show D ≠ w.heap.size + 1 + 1; omega)).trans ((Below.heap_setCell _ _ _ D (by show D ≠ w.heap.size + 1 + 1; omega)).trans HDV.out)
      have bz := (HBV.out.setCell (p := ⟨w.heap.size + 1 + 1, 0, none⟩) (by show w.heap.size ≤ w.heap.size + 1 + 1; omega) (.int .i64 0)).setCell (p := ⟨w.heap.size + 1 + 1, 1, none⟩) (by show w.heap.size ≤ w.heap.size + 1 + 1; omega) (.int .i64 0)
      generalize (V.setCell ⟨w.heap.size + 1 + 1, 0, none⟩ (.int .i64 0)).setCell ⟨w.heap.size + 1 + 1, 1, none⟩ (.int .i64 0) = Z at *
      have rp := blk_put rz (D := D) (o := .deferred none) (by omega)
      have z0 := rp.cell 0; have z1 := rp.cell 1
      rw [Exit.noGoto_ret]
      refine ⟨by simp, .inl ⟨_, _, rfl, run_takeDeferred dz, ?_⟩⟩
      exact ⟨.tuple #[.agg #[.int .i64 0, .int .i64 0], .int .i64 9], by simp [results, Try.results31, go_sem, z0, z1], by rw [HV2.out], below_put bz (by omega) bz.size _⟩
  · have hwn : (whyV (frL l k) q.w r != 0) = true := by simpa using hwhy
    have hv := HV.out
    rw [if_pos hwhy] at hv
    have HVV := Lib.hid hv
    clear hv hwhy HV
    generalize whyV (frL l k) q.w r = z at *
    have rb := HB6.out.get (g := w.heap.size + 1 + 1) (T := 36) (cs := #[.int .i64 0, .int .i64 0]) (by simp)
    have a0 := rb.cell 0; have a1 := rb.cell 1; have f0 := rb.frozen 0; have f1 := rb.frozen 1; have rl := rb.lt
    clear rb
    gi_wp2_with fail
    rw [Exit.noGoto_ret]
    refine ⟨.tuple #[.agg #[.int .i64 0, .int .i64 0], .int .i64 9], by simp [results, Try.results31, go_sem, *], by rw [HVV.out], ?_⟩
    repeat (first | (with_reducible exact HB6.out.b) | with_reducible refine Below.setCell ?_ (by simp; try omega) _)
end Go.Proofs.Ytalghiecjhfflaa

namespace Go.Proofs.Ytalghiecjhfflaa
open Go.RowKit Go.Shelf Go.Maps
attribute [local go_sem] Oper.semAt_some


set_option maxRecDepth 100000 in
set_option maxHeartbeats 4000000 in
theorem cheap_err {w : World} {A : Option Addr} {c : Nat} {l : List Bw} {q : Wm} (h : BwsIn w A l) (hc : l.length ≤ c) (hs : SpansIn w q.pa q.w.ps) (hz : orE [bdE l, wishE l.length q.w] ≠ 0) :
    Calls Try.prog 29 #[.slice A l.length c, .agg #[.slice q.pa q.w.ps.length q.pc, .int .i64 q.w.mlo, .int .i64 q.w.mhi, .int .i64 q.w.slo, .int .i64 q.w.shi]] w fun e w' => e = .returned (.tuple #[.slice none 0 0, .int .i64 0, .int .i64 (orE [bdE l, wishE l.length q.w])]) ∧ Below w.heap.size w w' := by
  have HE1 := Lib.hid (fun (W : World) (hb : Below w.heap.size w W) => waxes_any (h.on hb) hc)
  have HE2 := Lib.hid (fun (W : World) (hb : Below w.heap.size w W) => wishE_any (A0 := A) (c0 := c) (pc := q.pc) (m := l.length) (x := q.w) (hs.on hb))
  have hb0 := (Bx.nil w).alloc #[.slice q.pa q.w.ps.length q.pc, .int .i64 q.w.mlo, .int .i64 q.w.mhi, .int .i64 q.w.slo, .int .i64 q.w.shi] 46
  have HB := Lib.hid hb0
  have hz2 : (orE [bdE l, wishE l.length q.w] != 0) = true := by simpa using hz
  obtain ⟨z, hq⟩ : ∃ z, orE [bdE l, wishE l.length q.w] = z := ⟨_, rfl⟩
  rw [hq] at hz2 ⊢
  have HQ := Lib.hid hq
  clear h hs hz hb0 hq
  go_enter Try.func29, Try.ntmps29
  go_wp2_with fail
  refine wp_of_eq (ch1_region (S := Bx w [(w.heap.size, 46, #[.slice q.pa q.w.ps.length q.pc, .int .i64 q.w.mlo, .int .i64 q.w.mhi, .int .i64 q.w.slo, .int .i64 q.w.shi])]) (fun _ _ h hb => h.on hb) (P := w.heap.size) (x1 := q.w.mlo) (x2 := q.w.mhi) (x3 := q.w.slo) (x4 := q.w.shi) (fun W h => h.get (by simp)) (Lib.hid fun W h => HE1.out W h.b) (Lib.hid fun W h => HE2.out W h.b) HB (Lib.hid fun u W1 hS => ?_)) (by kernel_rfl)
  rw [HQ.out]
  have HF2 := Lib.hid hS.b
  clear hS
  go_wp2_with fail
  go_ret3
  exact ⟨rfl, HF2.out⟩
end Go.Proofs.Ytalghiecjhfflaa

namespace Go.Proofs.Ytalghiecjhfflaa
open Go.RowKit Go.Shelf Go.Maps
attribute [local go_sem] Oper.semAt_some


theorem sum_take_drop : ∀ (l : List Int) (k : Nat), sumL (l.take k) + sumL (l.drop k) = sumL l
  | [], k => by simp [sumL]
  | x :: l, 0 => by simp [sumL]
  | x :: l, k + 1 => by
    have := sum_take_drop l k
    simp only [List.take_succ_cons, List.drop_succ_cons, sumL]; omega
theorem sum_pos : ∀ {l : List Int}, (∀ n ∈ l, 0 ≤ n) → 0 ≤ sumL l
  | [], _ => Int.le_refl _
  | x :: l, h => by
    have a := h x List.mem_cons_self
    have b := sum_pos (l := l) fun n hn => h n (List.mem_cons_of_mem _ hn)
    simp only [sumL]; omega
theorem sum_snoc : ∀ (l : List Int) (x : Int), sumL (l ++ [x]) = sumL l + x
  | [], x => by simp [sumL]
  | y :: l, x => by
    have := sum_snoc l x
    simp only [List.cons_append, sumL]; omega
theorem RcOk.take {m : Nat} {r : List Int} (h : RcOk m r) (k : Nat) : 0 ≤ sumL (r.take k) ∧ sumL (r.take k) ≤ 20 := by
  have h1 := sum_take_drop r k
  have h2 := sum_pos (l := r.take k) fun n hn => (h.in_ n (List.mem_of_mem_take hn)).1
  have h3 := sum_pos (l := r.drop k) fun n hn => (h.in_ n (List.mem_of_mem_drop hn)).1
  have := h.sum
  omega
theorem sum_at {r : List Int} {k : Nat} {n : Int} (hn : r[k]? = some n) : sumL (r.take (k + 1)) = sumL (r.take k) + n := by
  rw [List.take_add_one, hn]; exact sum_snoc _ _
/-- The grams of the first k waxes. -/
def wgL (g : Int) (r : List Int) (k : Nat) : List Int := (List.range k).map fun i => g * sumL (r.take (i + 1)) / 20 - g * sumL (r.take i) / 20
theorem wgL_len (g : Int) (r : List Int) (k : Nat) : (wgL g r k).length = k := by simp [wgL]
theorem wgL_succ (g : Int) (r : List Int) (k : Nat) : wgL g r (k + 1) = wgL g r k ++ [g * sumL (r.take (k + 1)) / 20 - g * sumL (r.take k) / 20] := by simp [wgL, List.range_succ]
theorem wg_in {g s : Int} (hg : 0 ≤ g ∧ g ≤ 1000000) (hs : 0 ≤ s ∧ s ≤ 20) : (0 ≤ g * s ∧ g * s ≤ 20000000) ∧ 0 ≤ g * s / 20 ∧ g * s / 20 ≤ 1000000 := by
  have := mul_in (n := s) (p := g) (m := 1000000) hs hg
  rw [Int.mul_comm] at this
  omega
def weighV (l : List Bw) (r : List Int) (n : Int) : List Int × Int := if orE [bdE l, recE l.length r] ≠ 0 then ([], orE [bdE l, recE l.length r]) else if inB n 0 1000000 = false then ([], 7) else (wgL n r r.length, 0)


set_option maxRecDepth 100000 in
set_option maxHeartbeats 4000000 in
theorem weigh_any {w : World} {A R : Option Addr} {c rc : Nat} {l : List Bw} {r : List Int} {n : Int} (h : BwsIn w A l) (hc : l.length ≤ c) (hr : IntsIn w R r) :
    Calls Try.prog 24 #[.slice A l.length c, .slice R r.length rc, .int .i64 n] w fun e w' => ∃ v, e = .returned (.tuple #[v, .int .i64 (weighV l r n).2]) ∧ IntsOut w.heap.size w' v (weighV l r n).1 ∧ Below w.heap.size w w' := by
  have HE1 := Lib.hid (waxes_any h hc)
  have HE2 := Lib.hid (fun (W : World) (hb : Below w.heap.size w W) => recE_any (A0 := A) (c0 := c) (c := rc) (m := l.length) rfl (hr.on hb))
  have hq := or_bd (l := l) (r := r) []
  by_cases hz : orE [bdE l, recE l.length r] = 0
  · rw [hz] at hq
    have HQ := Lib.hid hq
    cases hn : inB n 0 1000000 with
    | false =>
      have HN := Lib.hid hn
      have HV := Lib.hid (show weighV l r n = ([], 7) by unfold weighV; rw [if_neg (by simpa using hz), if_pos hn])
      clear h hr hz hq hn
      rw [HV.out]
      go_enter Try.func24, Try.ntmps24
      go_wp2_with (first
      | (go_at_call 55; (with_reducible refine HE1.out.mono ?_); rintro e w1 ⟨rfl, hb⟩; have HB1 := Lib.hid hb; clear hb)
      | (go_at_call 59; (with_reducible refine (HE2.out _ HB1.out).mono ?_); rintro e w2 ⟨rfl, hw⟩; rw [hw]; clear hw)
      | (go_at_call 54; refine (or_any (c := 2) (l := [bdE l, recQ l.length r]) (ints_blk (Blk.newat (by simp)) rfl (by simp))).mono ?_; rintro e w3 ⟨rfl, hw⟩; rw [hw]; clear hw; rw [HQ.out]; have HB3 := Lib.hid (HB1.out.alloc HB1.out.size (.cells #[.int .i64 (bdE l), .int .i64 (recQ l.length r)] 24)))
      | (go_at_call 48; (with_reducible refine Calls.mono (within_oneB 0 1000000 n (c := 1) ?_) ?_); exact ints1_at (by simp); rintro e w4 ⟨rfl, hb⟩; rw [HN.out]; have HB4 := Lib.hid ((HB3.out.alloc HB3.out.size (.cells #[.int .i64 n] 3)).trans (hb.mono (HB3.out.alloc HB3.out.size (.cells #[.int .i64 n] 3)).size)); clear hb)
      | fail)
      go_ret2
      exact ⟨_, rfl, IntsOut.nil _ _, HB4.out⟩
    | true =>
      have HN := Lib.hid hn
      have hn2 := inB_iff.1 hn
      have HN2 := Lib.hid hn2
      have hok := bd_ok (orE_zero.1 hz (bdE l) (by simp))
      have hrk := rec_ok.1 (orE_zero.1 hz (recE l.length r) (by simp))
      have HR := Lib.hid hrk
      have HI := Lib.hid hr
      have hrl : r.length ≤ 5 := by rw [hrk.len]; exact hok.1.2
      have HV := Lib.hid (show weighV l r n = (wgL n r r.length, 0) by unfold weighV; rw [if_neg (by simpa using hz), if_neg (by rw [hn]; decide)])
      clear h hr hz hq hn hok hrk hn2
      rw [HV.out]
      go_enter Try.func24, Try.ntmps24
      go_wp2_with (first
      | (go_at_call 55; (with_reducible refine HE1.out.mono ?_); rintro e w1 ⟨rfl, hb⟩; have HB1 := Lib.hid hb; clear hb)
      | (go_at_call 59; (with_reducible refine (HE2.out _ HB1.out).mono ?_); rintro e w2 ⟨rfl, hw⟩; rw [hw]; clear hw)
      | (go_at_call 54; refine (or_any (c := 2) (l := [bdE l, recQ l.length r]) (ints_blk (Blk.newat (by simp)) rfl (by simp))).mono ?_; rintro e w3 ⟨rfl, hw⟩; rw [hw]; clear hw; rw [HQ.out]; have HB3 := Lib.hid (HB1.out.alloc HB1.out.size (.cells #[.int .i64 (bdE l), .int .i64 (recQ l.length r)] 24)))
      | (go_at_call 48; (with_reducible refine Calls.mono (within_oneB 0 1000000 n (c := 1) ?_) ?_); exact ints1_at (by simp); rintro e w4 ⟨rfl, hb⟩; rw [HN.out]; have HB4 := Lib.hid ((HB3.out.alloc HB3.out.size (.cells #[.int .i64 n] 3)).trans (hb.mono (HB3.out.alloc HB3.out.size (.cells #[.int .i64 n] 3)).size)); clear hb)
      | fail)
      go_loopw [9, 10, 11, 31] (fun v p q i W => ∃ k : Nat, k ≤ r.length ∧ i = .int .i64 k ∧ p = .int .i64 (sumL (r.take k)) ∧ q = .int .i64 (n * sumL (r.take k) / 20) ∧ Hid (IntsOut w.heap.size W v (wgL n r k)) ∧ Hid (Below w.heap.size w W)) (fun _ _ _ i _ => r.length - (intOf i).toNat)
      case atStart => exact ⟨0, by omega, rfl, rfl, by simp [sumL], IntsOut.nil _ _, HB4.out⟩
      case round =>
        obtain ⟨k, hk, rfl, rfl, rfl, HO, HB⟩ := hrel
        by_cases hlt : k < r.length
        · obtain ⟨x, hx⟩ : ∃ x, r[k]? = some x := ⟨r[k], List.getElem?_eq_getElem hlt⟩
          obtain ⟨b2, o2, rfl, _, d0⟩ := ints_at (HI.out.on HB.out).at_ hx
          have s1 := HR.out.take k
          have s2 := HR.out.take (k + 1)
          have hxi := HR.out.in_ x (List.mem_of_getElem? hx)
          have hs := sum_at hx
          have t1 := wg_in HN2.out s1
          have t2 := wg_in HN2.out s2
          have HT := Lib.hid (wgL_succ n r k)
          have HL := Lib.hid (wgL_len n r k)
          rw [hs] at t2 s2 HT
          have HS := Lib.hid hs
          clear hx hs
          generalize sumL (r.take k) = sa at *
          have g1 : IntKind.i64.wrap (sa + x) = sa + x := IntWalk.i64_in _ (by omega)
          have g2 : IntKind.i64.wrap (n * (sa + x)) = n * (sa + x) := IntWalk.i64_in _ (by omega)
          have g3 : (n * (sa + x)).tdiv 20 = n * (sa + x) / 20 := Int.tdiv_eq_ediv_of_nonneg t2.1.1
          have g4 : IntKind.i64.wrap (n * (sa + x) / 20) = n * (sa + x) / 20 := IntWalk.i64_in _ (by omega)
          have g5 : IntKind.i64.wrap (n * (sa + x) / 20 - n * sa / 20) = n * (sa + x) / 20 - n * sa / 20 := IntWalk.i64_in _ (by omega)
          clear t1 t2 s1 s2 hxi
          generalize n * sa / 20 = u1_ at *
          obtain ⟨u2_, hu2⟩ : ∃ z, n * (sa + x) / 20 = z := ⟨_, rfl⟩
          rw [hu2] at g3 g4 g5 HT
          have HU := Lib.hid hu2
          have HLL : Hid ((wgL n r k).length < 1000000) := by show _ < _; rw [HL.out]; omega
          clear hu2
          generalize wgL n r k = lk at *
          go_wp2_with (first
            | (at_builtin; go_must (refine app_list rfl _ _ rfl (l := lk) rfl (own_below HO.out ((Below.refl _ wr).alloc (Nat.le_refl _) _)) (u2_ - u1_) rfl (Blk.new _ _ _) HLL.out (by simp; have := HB.out.size; omega) ?_); intro g cap w6 r1 r2 r3 r4; have HO2 := Lib.hid r1; have HB2 := Lib.hid ((HB.out.alloc HB.out.size _).trans r2); clear r1 r2 r3 r4)
            | fail)
          go_roundw
          case rel => exact ⟨k + 1, Nat.succ_le_of_lt hlt, by go_num, by rw [HS.out], by rw [HS.out, HU.out], by show IntsOut _ _ _ _; rw [HT.out]; exact HO2.out, HB2.out⟩
          case measure => exact meas_one hlt
        · have hke : k = r.length := by omega
          subst hke
          go_wp2_with fail
          refine bodyPost_ret ?_ rfl ⟨_, rfl, HO.out, HB.out⟩
          simp [results, Try.results24, go_sem, *]
  · have HV := Lib.hid (show weighV l r n = ([], orE [bdE l, recE l.length r]) by unfold weighV; rw [if_pos hz])
    have hz2 : (orE [bdE l, recE l.length r] != 0) = true := by simpa using hz
    generalize orE [bdE l, recE l.length r] = z at *
    have HQ := Lib.hid hq
    clear h hr hz hq
    rw [HV.out]
    go_enter Try.func24, Try.ntmps24
    go_wp2_with (first
      | (go_at_call 55; (with_reducible refine HE1.out.mono ?_); rintro e w1 ⟨rfl, hb⟩; have HB1 := Lib.hid hb; clear hb)
      | (go_at_call 59; (with_reducible refine (HE2.out _ HB1.out).mono ?_); rintro e w2 ⟨rfl, hw⟩; rw [hw]; clear hw)
      | (go_at_call 54; refine (or_any (c := 2) (l := [bdE l, recQ l.length r]) (ints_blk (Blk.newat (by simp)) rfl (by simp))).mono ?_; rintro e w3 ⟨rfl, hw⟩; rw [hw]; clear hw; rw [HQ.out]; have HB3 := Lib.hid (HB1.out.alloc HB1.out.size (.cells #[.int .i64 (bdE l), .int .i64 (recQ l.length r)] 24)))
      | fail)
    go_ret2
    exact ⟨_, rfl, IntsOut.nil _ _, HB3.out⟩
end Go.Proofs.Ytalghiecjhfflaa
