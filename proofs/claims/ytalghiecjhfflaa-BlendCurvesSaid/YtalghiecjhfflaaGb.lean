/- Layer blend, a part: ranges over iterators, regions. No statement is proved here. -/
import Derived.Test.YtalghiecjhfflaaGa
import Derived.RangeFuncNested
import Derived.RangeFuncBound
import Derived.RangeFuncCalls
import Derived.RangeFuncLeaves
import Derived.RangeFuncWrites
import Derived.OrdersIn
namespace Go.Proofs.Ytalghiecjhfflaa
open Go.RowKit Go.Shelf Go.Maps
attribute [local go_sem] Oper.semAt_some

/-- What holds of memory, by which of the late operations have been. -/
def sel1 (a : Bool) (M0 M1 : World → Prop) : World → Prop := if a then M1 else M0
def sel2 (a b : Bool) (M0 M1 M2 : World → Prop) : World → Prop := if b then M2 else if a then M1 else M0
def sel3 (a b c : Bool) (M0 M1 M2 M3 : World → Prop) : World → Prop := if c then M3 else if b then M2 else if a then M1 else M0
section
variable {P : Program} {ops : Array Oper} {Q : Exit → Act → World → Prop} {md : Region.Mode} {n : Nat}
theorem wpAny_spec2u (hn : ops.size = n) (fr : (Nat → Value) → Act) (u0 : Nat → Value) (B : (Nat → Bool) → World → Prop) (R : Nat → Value → World → Prop)
    (hd : ∀ i, i < n → ∀ j ∈ waits md ops i, j < i)
    (step : ∀ i, i < n → ∀ (L : Nat → Bool) (u : Nat → Value) (w : World), B L w → L i = false → (∀ j, j < n → L j = true → ∀ k ∈ waits md ops j, L k = true) → (∀ j ∈ waits md ops i, L j = true ∧ R j (u j) w) → (∀ j, j < n → L j = false → u j = u0 j) →
      wpOp P ops Q i (fun a' w' => ∃ v, a' = fr (u1 u i v) ∧ R i v w' ∧ B (setL L i) w' ∧ (∀ j v, j < n → L j = true → R j v w → R j v w')) (fr u) w)
    (done : ∀ L u w, (∀ j, j < n → L j = true) → B L w → (∀ j, j < n → R j (u j) w) → Q .normal (fr u) w) :
    ∀ (fuel : Nat) (listed : Array Bool) (u : Nat → Value) (w : World), listed.size = n → unl listed ≤ fuel → B (fun j => listed.getD j false) w → (∀ j, j < n → listed.getD j false = true → R j (u j) w) → (∀ j, j < n → listed.getD j false = true → ∀ k ∈ waits md ops j, listed.getD k false = true) → (∀ j, j < n → listed.getD j false = false → u j = u0 j) →
      wpAny P md ops Q fuel listed (fr u) w := by
  have hsame : ∀ (listed : Array Bool), listed.size = n → ∀ j, j < n → listed.getD j true = listed.getD j false := by
    intro listed hl j hj
    rw [Array.getD_eq_getD_getElem?, Array.getD_eq_getD_getElem?, Array.getElem?_eq_getElem (by omega)]; rfl
  have hnil : ∀ (listed : Array Bool), listed.size = n → Region.ready md ops listed = [] → ∀ j, j < n → listed.getD j false = true := by
    intro listed hl hr j
    induction j using Nat.strongRecOn with
    | _ j ih =>
      intro hj
      cases hb : listed.getD j false with
      | true => rfl
      | false =>
        have hmem : j ∈ Region.ready md ops listed := (ready_iff listed (by omega) j).2 ⟨by omega, by rw [hsame listed hl j hj, hb], fun k hk => ih k (hd j hj k hk) (by have := hd j hj k hk; omega)⟩
        rw [hr] at hmem; cases hmem
  intro fuel
  induction fuel with
  | zero =>
    intro listed u w hl hf hB hRl hC hU
    have hall : ∀ j, j < n → listed.getD j false = true := fun j hj => by rw [← hsame listed hl j hj]; exact unl_zero (by omega) (by omega)
    refine ⟨?_, done _ u w hall hB fun j hj => hRl j hj (hall j hj)⟩
    cases hr : Region.ready md ops listed with
    | nil => rfl
    | cons i rs =>
      have hmem : i ∈ Region.ready md ops listed := by rw [hr]; simp
      obtain ⟨h1, h2, -⟩ := (ready_iff listed (by omega) i).1 hmem
      rw [hsame listed hl i (by omega), hall i (by omega)] at h2; cases h2
  | succ fuel ih =>
    intro listed u w hl hf hB hRl hC hU
    refine ⟨fun hr => done _ u w (hnil listed hl hr) hB fun j hj => hRl j hj (hnil listed hl hr j hj), fun i hi => ?_⟩
    obtain ⟨h1, h2, h3⟩ := (ready_iff listed (by omega) i).1 hi
    have hin : i < n := by omega
    have h4 : listed.getD i false = false := by rw [← hsame listed hl i hin]; exact h2
    refine wpOp_mono ?_ (step i hin _ u w hB h4 hC (fun j hj => ⟨h3 j hj, hRl j (by have := hd i hin j hj; omega) (h3 j hj)⟩) hU)
    rintro a' w' ⟨v, rfl, hv, hB', hk⟩
    refine ih _ _ _ (by simpa using hl) (by have := unl_set (by omega) h2; omega) (by rw [getD_setL (by omega)]; exact hB') ?_ ?_ ?_
    · intro j hj hlj
      by_cases hji : j = i
      · subst hji; rw [u1_same]; exact hv
      · rw [u1_other _ _ hji]
        rw [getD_set, if_neg (by rintro ⟨h, -⟩; exact hji h)] at hlj
        exact hk j _ hj hlj (hRl j hj hlj)
    · intro j hj hlj k hk2
      have hk3 : listed.getD k false = true := by
        by_cases hji : j = i
        · subst hji; exact h3 k hk2
        · rw [getD_set, if_neg (by rintro ⟨h, -⟩; exact hji h)] at hlj
          exact hC j hj hlj k hk2
      rw [getD_set]
      split
      · rfl
      · exact hk3
    · intro j hj hlj
      by_cases hji : j = i
      · subst hji; rw [getD_set, if_pos ⟨rfl, by omega⟩] at hlj; cases hlj
      · rw [u1_other _ _ hji]
        rw [getD_set, if_neg (by rintro ⟨h, -⟩; exact hji h)] at hlj
        exact hU j hj hlj
theorem wp_region_spec2u {id : Nat} {a : Act} {w : World} (hm : P.follows .mixedOrders = true) (n : Nat) (hn : ops.size = n) (fr : (Nat → Value) → Act) (u0 : Nat → Value) (B : (Nat → Bool) → World → Prop) (R : Nat → Value → World → Prop)
    (ha : a = fr u0) (hB : B (fun _ => false) w.drew)
    (hd : ∀ i, i < n → ∀ j ∈ waits .any ops i, j < i)
    (step : ∀ i, i < n → ∀ (L : Nat → Bool) (u : Nat → Value) (w : World), B L w → L i = false → (∀ j, j < n → L j = true → ∀ k ∈ waits .any ops j, L k = true) → (∀ j ∈ waits .any ops i, L j = true ∧ R j (u j) w) → (∀ j, j < n → L j = false → u j = u0 j) →
      ∀ K : Act → World → Prop, (∀ v w', R i v w' → B (setL L i) w' → (∀ j v, j < n → L j = true → R j v w → R j v w') → K (fr (u1 u i v)) w') → wpOp P ops Q i K (fr u) w)
    (done : ∀ L u w, (∀ j, j < n → L j = true) → B L w → (∀ j, j < n → R j (u j) w) → Q .normal (fr u) w) : (Code.region id ops true).wp P Q a w := by
  subst ha
  refine wp_region_any hm ?_
  have h0 : (fun j => (Array.replicate ops.size false).getD j false) = fun _ => false := by
    funext j
    rw [Array.getD_eq_getD_getElem?, Array.getElem?_replicate]
    split <;> rfl
  refine wpAny_spec2u hn fr u0 B R hd (fun i hi L u w h1 h2 h3 h4 h8 => step i hi L u w h1 h2 h3 h4 h8 _ (fun v w' h5 h6 h7 => ⟨v, rfl, h5, h6, h7⟩)) done _ _ _ _ (by simpa using hn) ?_ (by rw [h0]; exact hB) ?_ ?_ (fun _ _ _ => rfl)
  · unfold unl
    exact Nat.le_trans List.countP_le_length (by simp)
  · intro j hj h
    rw [Array.getD_eq_getD_getElem?, Array.getElem?_replicate] at h
    split at h <;> simp at h
  · intro j hj h
    rw [Array.getD_eq_getD_getElem?, Array.getElem?_replicate] at h
    split at h <;> simp at h
end
end Go.Proofs.Ytalghiecjhfflaa

namespace Go.Proofs.Ytalghiecjhfflaa
open Go.RowKit Go.Shelf

/-- All blocks but the K ones from B on lie as they lay. -/
structure Outside (B K : Nat) (X Y : World) : Prop where
  os : Y.os = X.os
  tape : Y.tape = X.tape
  output : Y.output = X.output
  size : X.heap.size ≤ Y.heap.size
  block : ∀ k, k < X.heap.size → (k < B ∨ B + K ≤ k) → Y.heap[k]? = X.heap[k]?
theorem Outside.refl (B K : Nat) (X : World) : Outside B K X X := ⟨rfl, rfl, rfl, Nat.le_refl _, fun _ _ _ => rfl⟩
theorem Outside.trans {B K : Nat} {X Y Z : World} (h : Outside B K X Y) (k : Outside B K Y Z) : Outside B K X Z :=
  ⟨k.os.trans h.os, k.tape.trans h.tape, k.output.trans h.output, Nat.le_trans h.size k.size, fun i hi ho => (k.block i (Nat.lt_of_lt_of_le hi h.size) ho).trans (h.block i hi ho)⟩
theorem Outside.of_below {B K : Nat} {X Y : World} (h : Below X.heap.size X Y) : Outside B K X Y := ⟨h.os, h.tape, h.output, h.size, fun k hk _ => h.block k hk⟩
theorem Outside.of_grown {B K : Nat} {X Y : World} {r : Option Nat} (h : X.grownBy Y r) (hr : ∀ k, r = some k → B ≤ k ∧ k < B + K) : Outside B K X Y :=
  ⟨h.os, h.tape, h.output, h.size, fun k hk ho => h.block k hk fun e => by have := hr k e.symm; omega⟩
theorem Outside.put {B K : Nat} (X : World) {r : Nat} (o : Obj) (h1 : B ≤ r) (h2 : r < B + K) : Outside B K X (X.putObj r o) := .of_grown (grownBy_putObj' X r o) fun k e => by cases e; exact ⟨h1, h2⟩
theorem Outside.widen {B K B' K' : Nat} {X Y : World} (h : Outside B K X Y) (h1 : B' ≤ B) (h2 : B + K ≤ B' + K') : Outside B' K' X Y :=
  ⟨h.os, h.tape, h.output, h.size, fun k hk ho => h.block k hk (by omega)⟩
/-- What a round keeps for the iterator: all below n₁, the blocks E, and the K ones from B on. -/
structure Keep (n₁ : Nat) (E : Nat → Prop) (B K : Nat) (X Y : World) : Prop where
  below : Below n₁ X Y
  kept : ∀ k, k < X.heap.size → (E k ∨ (B ≤ k ∧ k < B + K)) → Y.heap[k]? = X.heap[k]?
theorem Keep.refl (n₁ : Nat) (E : Nat → Prop) (B K : Nat) (X : World) : Keep n₁ E B K X X := ⟨Below.refl _ _, fun _ _ _ => rfl⟩
theorem Keep.trans {n₁ B K : Nat} {E : Nat → Prop} {X Y Z : World} (h : Keep n₁ E B K X Y) (k : Keep n₁ E B K Y Z) : Keep n₁ E B K X Z :=
  ⟨h.below.trans k.below, fun i hi ho => (k.kept i (Nat.lt_of_lt_of_le hi h.below.size) ho).trans (h.kept i hi ho)⟩
theorem Keep.of_below {n₁ B K : Nat} {E : Nat → Prop} {X Y : World} (h : Below X.heap.size X Y) (hn : n₁ ≤ X.heap.size) : Keep n₁ E B K X Y := ⟨h.mono hn, fun k hk _ => h.block k hk⟩
theorem Keep.part {n₁ n₂ B K B' K' : Nat} {E E' : Nat → Prop} {X Y : World} (h : Keep n₁ E B K X Y) (hn : n₂ ≤ n₁) (h1 : ∀ k, E' k → (k < n₁ ∨ E k ∨ (B ≤ k ∧ k < B + K))) (h2 : B ≤ B') (h3 : B' + K' ≤ B + K) : Keep n₂ E' B' K' X Y :=
  ⟨h.below.mono hn, fun k hk ho => by
    rcases ho with ho | ho
    · rcases h1 k ho with h4 | h4
      · exact h.below.block k h4
      · exact h.kept k hk h4
    · exact h.kept k hk (.inr (by omega))⟩
/-- The contract of an iterator: n₁, E, K: what a round must keep; M: what is known in memory of what is handed over, by the first block behind the iterator's own; S: what has come in the end; Sp: what can be said of what has come so far. -/
def SeqM {α : Type} (P : Program) (gf : Nat) (lb : Array Value) (encs : α → Array Value) (n₁ : Nat) (E : Nat → Prop) (K : Nat) (M : Nat → α → World → Prop) (S Sp : List α → Prop) (w0 : World) : Prop :=
  ∀ (l : Nat) (J Jx : List α → World → Prop) (W : World), Below w0.heap.size w0 W →
    (∀ s X Y, J s X → Outside W.heap.size K X Y → J s Y) → (∀ s X Y, Jx s X → Outside W.heap.size K X Y → Jx s Y) →
    (∀ pre x X, J pre X → M (W.heap.size + K) x X → W.heap.size + K ≤ X.heap.size → Sp (pre ++ [x]) →
      YieldAt Fence.wide 0 P l (encs x) X fun e Y => Keep n₁ E W.heap.size K X Y ∧ ((e = .returned (.bool true) ∧ J (pre ++ [x]) Y) ∨ (e = .returned (.bool false) ∧ Jx (pre ++ [x]) Y))) →
    J [] W →
    Calls P gf (#[.func (.yield l) #[] #[]] ++ lb) W fun e Y => (∃ v, e = .returned v) ∧ ((∃ xs, S xs ∧ J xs Y) ∨ (∃ pre, Jx pre Y))
theorem roundIn_wide {n m : Nat} {P : Program} {l : Nat} {f : FuncId} {tmps : Array Value} {assign body : Code} {w : World} {R : Ending → World → Prop} (h : RoundIn Fence.wide n P l f tmps assign body w R) : RoundIn Fence.wide m P l f tmps assign body w R :=
  ⟨h.1, fun c cs _ => h.2 c cs (room_wide _)⟩
theorem yieldAt_wide {n m : Nat} {P : Program} {l : Nat} {args : Array Value} {W : World} {R : Ending → World → Prop} (h : YieldAt Fence.wide n P l args W R) : YieldAt Fence.wide m P l args W R := by
  obtain ⟨fn, tmps, assign, body, hy, hR⟩ := h
  exact ⟨fn, tmps, assign, body, hy, roundIn_wide hR⟩
/-- How a round's body may be left. -/
def postM {α : Type} (n₁ : Nat) (E : Nat → Prop) (B K : Nat) (I : List α → World → Prop) (Ix : Code → List α → World → Prop) (xs : List α) (X : World) : Exit → Act → World → Prop
  | .normal, _, Y => Keep n₁ E B K X Y ∧ I xs Y
  | .ret, _, Y => Keep n₁ E B K X Y ∧ Ix .ret xs Y
  | .exit id, _, Y => Keep n₁ E B K X Y ∧ Ix (.exit id) xs Y
  | .goto t, _, Y => Keep n₁ E B K X Y ∧ Ix (.goto t) xs Y
  | .panic _, _, _ => False
  | .outgrown, _, _ => False
set_option maxHeartbeats 1000000 in
/-- The statement 'for x := range it { .. }': two blocks are the statement's own (the block of its rounds' deferred calls, and its record), the K ones behind them the iterator's. -/
theorem wpIn_rangeM {α : Type} {P : Program} {n : Nat} {g : Operand} {ps : Array Tmp} {assign body : Code} {Q : Exit → Act → World → Prop} {a : Act} {w : World} {gf : Nat} {lb : Array Value}
    (hg : a.eval g = .func (.func gf) #[] lb) (eg : ∀ args w, (callFunc gf args).run P w = .ok (.enter gf args) w)
    {encs : α → Array Value} {n₁ K : Nat} {E : Nat → Prop} {M : Nat → α → World → Prop} {S Sp : List α → Prop} {w0 : World} (hseq : SeqM P gf lb encs n₁ E K M S Sp w0)
    (hn : n₁ ≤ w.heap.size) (hE : ∀ k, E k → k < w.heap.size) (hb0 : Below w0.heap.size w0 w) (hps : ∀ x, (encs x).size = ps.size)
    (I : List α → World → Prop) (Ix : Code → List α → World → Prop) (hI : ∀ s X Y, I s X → Outside w.heap.size (2 + K) X Y → I s Y) (hIx : ∀ c s X Y, Ix c s X → Outside w.heap.size (2 + K) X Y → Ix c s Y) (h0 : I [] w)
    (hM : ∀ x X Y, M (w.heap.size + 2 + K) x X → Outside w.heap.size (2 + K) X Y → M (w.heap.size + 2 + K) x Y) (a₁ : α → Act)
    (hassign : ∀ (l : Nat) (x : α) (W : World) (N : Act → World → Prop), N (a₁ x) W →
      assign.wpIn (Fence.wide.inRound l) 10 P (Exit.then N (fun _ _ _ => False)) { tmps := (ps.zip (encs x)).foldl (fun t (p, v) => t.setIfInBounds p v) a.tmps, defers := [] } W)
    (hbody : ∀ (l : Nat) (pre : List α) (x : α) (W : World), I pre W → M (w.heap.size + 2 + K) x W → w.heap.size + 2 + K ≤ W.heap.size → Sp (pre ++ [x]) → body.wpIn (Fence.wide.inRound l) 10 P (postM n₁ E w.heap.size (2 + K) I Ix (pre ++ [x]) W) (a₁ x) W)
    (hdone : ∀ (D : Nat) (xs : List α) (W : World), w.heap.size ≤ D → D < w.heap.size + 2 → S xs → I xs W → W.heap[D]? = some (.deferred (some [])) → Q .normal { a with defers := { target := .collected D, args := #[] } :: a.defers } W)
    (hstop : ∀ (D : Nat) (c : Code) (pre : List α) (W : World), w.heap.size ≤ D → D < w.heap.size + 2 → Ix c pre W → W.heap[D]? = some (.deferred (some [])) → c.wpIn Fence.wide n P Q { a with defers := { target := .collected D, args := #[] } :: a.defers } W) :
    (Code.rangeFunc g ps assign body).wpIn Fence.wide n P Q a w := by
  refine wpIn_rangeFunc fun fn hfn => ?_
  obtain ⟨R, hR⟩ : ∃ R : LoopState → Option Code → Loop, R = fun s p => { state := s, pending := p, fn := fn, tmps := a.tmps, params := ps, assign := assign, body := body, defers := w.heap.size } := ⟨_, rfl⟩
  obtain ⟨V, hV⟩ : ∃ V, (w.alloc (.deferred (some []))).alloc (.loop (R .ready none)) = V := ⟨_, rfl⟩
  have hVs : V.heap.size = w.heap.size + 2 := by rw [← hV]; simp
  have oV : Outside w.heap.size (2 + K) w V := by rw [← hV]; exact (Outside.of_below ((Below.refl _ w).alloc (Nat.le_refl _) _)).trans (Outside.of_below ((Below.refl _ _).alloc (Nat.le_refl _) _))
  have hrec : V.heap[w.heap.size + 1]? = some (.loop (R .ready none)) := by
    rw [← hV]; have := World.alloc_heap_new (w.alloc (.deferred (some []))) (.loop (R .ready none)); rwa [World.size_alloc] at this
  have hdef : V.heap[w.heap.size]? = some (.deferred (some [])) := by
    rw [← hV]; exact (Below.heap_alloc _ _ _ (by simp)).trans (World.alloc_heap_new w _)
  have hbV : Below w0.heap.size w0 V := by
    rw [← hV]; exact hb0.trans ((((Below.refl _ w).alloc (Nat.le_refl _) _).alloc (by simp) _).mono hb0.size)
  have lt_of : ∀ {X : World} {k : Nat} {o : Obj}, X.heap[k]? = some o → k < X.heap.size := fun h => (Array.getElem?_eq_some_iff.1 h).1
  -- what lies ahead of the iterator's blocks stays through its steps
  have stay : ∀ {X Y : World} {k : Nat} {o : Obj}, Outside V.heap.size K X Y → k < w.heap.size + 2 → X.heap[k]? = some o → Y.heap[k]? = some o := fun h hk ho => (h.block _ (lt_of ho) (.inl (by omega))).trans ho
  have wid : ∀ {X Y : World}, Outside V.heap.size K X Y → Outside w.heap.size (2 + K) X Y := fun h => h.widen (by omega) (by omega)
  have hT : V.heap.size + K = w.heap.size + 2 + K := by omega
  refine ⟨w.heap.size + 1, [{ target := .collected w.heap.size, args := #[] }], V, { target := .fn (.func gf) lb, args := #[.func (.yield (w.heap.size + 1)) #[] #[]] }, V, gf, #[.func (.yield (w.heap.size + 1)) #[] #[]] ++ lb, V, ?_, ?_, fun _ _ => trivial, ?_, fun h => (by cases h), ?_⟩
  · rw [← hV, hR]; exact run_enterLoop_outer _ _ _ _ _
  · simp only [resolve, hg]; simp [go_sem]
  · simp [invoke, go_sem, eg]
  refine callsIn_wide.2 ((hseq (w.heap.size + 1) (fun s X => I s X ∧ X.heap[w.heap.size + 1]? = some (.loop (R .ready none)) ∧ X.heap[w.heap.size]? = some (.deferred (some [])))
    (fun s X => ∃ c, Ix c s X ∧ X.heap[w.heap.size + 1]? = some (.loop (R .done (some c))) ∧ X.heap[w.heap.size]? = some (.deferred (some []))) V hbV
    (fun s X Y h o => ⟨hI s X Y h.1 (wid o), stay o (by omega) h.2.1, stay o (by omega) h.2.2⟩)
    (fun s X Y h o => by
      obtain ⟨c, h1, h2, h3⟩ := h
      exact ⟨c, hIx c s X Y h1 (wid o), stay o (by omega) h2, stay o (by omega) h3⟩) ?round ⟨hI _ _ _ h0 oV, hrec, hdef⟩).mono ?after)
  case round =>
    rintro pre x X ⟨hi, hr, hd⟩ hm hs hp
    rw [hT] at hm hs
    have hy := run_yield (P := P) (args := encs x) hr (by rw [hR]; exact hps x)
    have busy : Outside w.heap.size (2 + K) X (X.putObj (w.heap.size + 1) (.loop { R .ready none with state := .busy })) := .put X _ (by omega) (by omega)
    have hr2 : (X.putObj (w.heap.size + 1) (.loop { R .ready none with state := .busy })).heap[w.heap.size + 1]? = some (.loop { R .ready none with state := .busy }) := World.putObj_heap_same (lt_of hr)
    have hd2 : (X.putObj (w.heap.size + 1) (.loop { R .ready none with state := .busy })).heap[w.heap.size]? = some (.deferred (some [])) := (World.putObj_heap_other (by omega)).trans hd
    have kput : ∀ {Y : World} (o : Obj), w.heap.size + 1 < Y.heap.size → Keep n₁ E V.heap.size K Y (Y.putObj (w.heap.size + 1) o) := fun {Y} o _ =>
      ⟨⟨rfl, rfl, rfl, by simp, fun k hk => World.putObj_heap_other (by omega)⟩, fun k _ ho => World.putObj_heap_other (by rcases ho with ho | ho; (· have := hE k ho; omega); omega)⟩
    have part : ∀ {Y Z : World}, Keep n₁ E w.heap.size (2 + K) Y Z → Keep n₁ E V.heap.size K Y Z := fun h => h.part (Nat.le_refl _) (fun k hk => .inr (.inl hk)) (by omega) (by omega)
    have hb := hbody (w.heap.size + 1) pre x _ (hI _ _ _ hi busy) (hM _ _ _ hm busy) (by simpa using hs) hp
    rw [hR] at hy
    refine ⟨fn, _, assign, body, hy, roundIn_wide (n := 10) (roundIn_of_wpIn hfn (hassign (w.heap.size + 1) x X _ ⟨_, run_beginRound hr (by rw [hR]), wpIn_mono hb ?_⟩))⟩
    -- the round's end, by the way in which the body is left
    have fin : ∀ (jump : Option Code) (Y : World), Keep n₁ E w.heap.size (2 + K) (X.putObj (w.heap.size + 1) (.loop { R .ready none with state := .busy })) Y →
        (Instr.endRound (w.heap.size + 1) jump).run P Y = .ok (.bool jump.isNone) (Y.putObj (w.heap.size + 1) (.loop (R (if jump.isNone then .ready else .done) jump))) ∧
        Keep n₁ E V.heap.size K X (Y.putObj (w.heap.size + 1) (.loop (R (if jump.isNone then .ready else .done) jump))) ∧
        (Y.putObj (w.heap.size + 1) (.loop (R (if jump.isNone then .ready else .done) jump))).heap[w.heap.size + 1]? = some (.loop (R (if jump.isNone then .ready else .done) jump)) ∧
        (Y.putObj (w.heap.size + 1) (.loop (R (if jump.isNone then .ready else .done) jump))).heap[w.heap.size]? = some (.deferred (some [])) := by
      intro jump Y hk
      have e1 := (hk.kept _ (lt_of hr2) (.inr (by omega))).trans hr2
      have e2 := (hk.kept _ (lt_of hd2) (.inr (by omega))).trans hd2
      have e3 := run_endRound (P := P) jump e1
      refine ⟨?_, ((kput _ (lt_of hr)).trans (part hk)).trans (kput _ (lt_of e1)), World.putObj_heap_same (lt_of e1), (World.putObj_heap_other (by omega)).trans e2⟩
      rw [hR] at e3 ⊢
      exact e3
    have oput : ∀ (Y : World) (o : Obj), Outside w.heap.size (2 + K) Y (Y.putObj (w.heap.size + 1) o) := fun Y o => .put Y o (by omega) (by omega)
    intro e b Y hq
    match e, hq with
    | .normal, ⟨hk, hi⟩ => obtain ⟨f1, f2, f3, f4⟩ := fin none Y hk; exact ⟨_, _, f1, f2, .inl ⟨rfl, hI _ _ _ hi (oput _ _), f3, f4⟩⟩
    | .ret, ⟨hk, hi⟩ => obtain ⟨f1, f2, f3, f4⟩ := fin (some .ret) Y hk; exact ⟨_, _, f1, f2, .inr ⟨rfl, _, hIx _ _ _ _ hi (oput _ _), f3, f4⟩⟩
    | .exit id, ⟨hk, hi⟩ => obtain ⟨f1, f2, f3, f4⟩ := fin (some (.exit id)) Y hk; exact ⟨_, _, f1, f2, .inr ⟨rfl, _, hIx _ _ _ _ hi (oput _ _), f3, f4⟩⟩
    | .goto t, ⟨hk, hi⟩ => obtain ⟨f1, f2, f3, f4⟩ := fin (some (.goto t)) Y hk; exact ⟨_, _, f1, f2, .inr ⟨rfl, _, hIx _ _ _ _ hi (oput _ _), f3, f4⟩⟩
    | .panic _, hq => exact hq.elim
    | .outgrown, hq => exact hq.elim
  case after =>
    have oput : ∀ (Y : World) (o : Obj), Outside w.heap.size (2 + K) Y (Y.putObj (w.heap.size + 1) o) := fun Y o => .put Y o (by omega) (by omega)
    rintro e Y ⟨⟨v, rfl⟩, ⟨xs, hs, hi, hr, hd⟩ | ⟨pre, c, hi, hr, hd⟩⟩
    · have e3 := run_endLoop (P := P) hr (by rw [hR]; simp)
      exact ⟨_, _, e3, by rw [hR]; exact hdone w.heap.size xs _ (Nat.le_refl _) (by omega) hs (hI _ _ _ hi (oput _ _)) ((World.putObj_heap_other (by omega)).trans hd)⟩
    · have e3 := run_endLoop (P := P) hr (by rw [hR]; simp)
      exact ⟨_, _, e3, by rw [hR]; exact hstop w.heap.size c pre _ (Nat.le_refl _) (by omega) (hIx _ _ _ _ hi (oput _ _)) ((World.putObj_heap_other (by omega)).trans hd)⟩
end Go.Proofs.Ytalghiecjhfflaa

namespace Go.Proofs.Ytalghiecjhfflaa
open Go.RowKit Go.Shelf Go.Maps
attribute [local go_sem] Oper.semAt_some


section
variable {P : Program} {ops : Array Oper} {Q : Exit → Act → World → Prop} {md : Region.Mode} {n N : Nat} {F : Fence}
theorem wpAnyI_spec (hn : ops.size = n) (fr : (Nat → Value) → Act) (u0 : Nat → Value) (B : World → Prop) (R : Nat → Value → World → Prop)
    (hR : ∀ i v w w', i < n → R i v w → Below w.heap.size w w' → R i v w')
    (hd : ∀ i, i < n → ∀ j ∈ waits md ops i, j < i)
    (step : ∀ i, i < n → ∀ u w, B w → u i = u0 i → (∀ j ∈ waits md ops i, R j (u j) w) → (∀ j, j < n → i ∈ waits md ops j → u j = u0 j) →
      wpOpIn F N P ops Q i (fun a' w' => ∃ v, a' = fr (u1 u i v) ∧ R i v w' ∧ B w' ∧ Below w.heap.size w w') (fr u) w)
    (done : ∀ u w, B w → (∀ j, j < n → R j (u j) w) → Q .normal (fr u) w) :
    ∀ (fuel : Nat) (listed : Array Bool) (u : Nat → Value) (w : World), listed.size = n → unl listed ≤ fuel → B w → (∀ j, j < n → listed.getD j false = true → R j (u j) w) → (∀ j, j < n → listed.getD j false = false → u j = u0 j) → (∀ j, j < n → listed.getD j false = true → ∀ k ∈ waits md ops j, listed.getD k false = true) →
      wpAnyIn F N P md ops Q fuel listed (fr u) w := by
  have hsame : ∀ (listed : Array Bool), listed.size = n → ∀ j, j < n → listed.getD j true = listed.getD j false := by
    intro listed hl j hj
    rw [Array.getD_eq_getD_getElem?, Array.getD_eq_getD_getElem?, Array.getElem?_eq_getElem (by omega)]; rfl
  have hnil : ∀ (listed : Array Bool), listed.size = n → Region.ready md ops listed = [] → ∀ j, j < n → listed.getD j false = true := by
    intro listed hl hr j
    induction j using Nat.strongRecOn with
    | _ j ih =>
      intro hj
      cases hb : listed.getD j false with
      | true => rfl
      | false =>
        have hmem : j ∈ Region.ready md ops listed := (ready_iff listed (by omega) j).2 ⟨by omega, by rw [hsame listed hl j hj, hb], fun k hk => ih k (hd j hj k hk) (by have := hd j hj k hk; omega)⟩
        rw [hr] at hmem; cases hmem
  intro fuel
  induction fuel with
  | zero =>
    intro listed u w hl hf hB hRl hU hC
    have hall : ∀ j, j < n → listed.getD j false = true := fun j hj => by rw [← hsame listed hl j hj]; exact unl_zero (by omega) (by omega)
    refine ⟨?_, done u w hB fun j hj => hRl j hj (hall j hj)⟩
    cases hr : Region.ready md ops listed with
    | nil => rfl
    | cons i rs =>
      have hmem : i ∈ Region.ready md ops listed := by rw [hr]; simp
      obtain ⟨h1, h2, -⟩ := (ready_iff listed (by omega) i).1 hmem
      rw [hsame listed hl i (by omega), hall i (by omega)] at h2; cases h2
  | succ fuel ih =>
    intro listed u w hl hf hB hRl hU hC
    refine ⟨fun hr => done u w hB fun j hj => hRl j hj (hnil listed hl hr j hj), fun i hi => ?_⟩
    obtain ⟨h1, h2, h3⟩ := (ready_iff listed (by omega) i).1 hi
    have hin : i < n := by omega
    have h4 : listed.getD i false = false := by rw [← hsame listed hl i hin]; exact h2
    refine wpOpIn_mono ?_ (step i hin u w hB (hU i hin h4) (fun j hj => hRl j (by have := hd i hin j hj; omega) (h3 j hj)) ?_)
    · rintro a' w' ⟨v, rfl, hv, hB', hb⟩
      refine ih _ _ _ (by simpa using hl) (by have := unl_set (by omega) h2; omega) hB' ?_ ?_ ?_
      · intro j hj hlj
        by_cases hji : j = i
        · subst hji; rw [u1_same]; exact hv
        · rw [u1_other _ _ hji]
          rw [getD_set, if_neg (by rintro ⟨h, -⟩; exact hji h)] at hlj
          exact hR j _ _ _ hj (hRl j hj hlj) hb
      · intro j hj hlj
        have hji : j ≠ i := by
          rintro rfl
          rw [getD_set, if_pos ⟨rfl, by omega⟩] at hlj; cases hlj
        rw [u1_other _ _ hji]
        rw [getD_set, if_neg (by rintro ⟨h, -⟩; exact hji h)] at hlj
        exact hU j hj hlj
      · intro j hj hlj k hk
        have hk2 : listed.getD k false = true := by
          by_cases hji : j = i
          · subst hji; exact h3 k hk
          · rw [getD_set, if_neg (by rintro ⟨h, -⟩; exact hji h)] at hlj
            exact hC j hj hlj k hk
        rw [getD_set]
        split
        · rfl
        · exact hk2
    · intro j hj hw
      refine hU j hj ?_
      cases hb : listed.getD j false with
      | false => rfl
      | true =>
        have := hC j hj hb i hw
        rw [h4] at this; cases this
theorem wpIn_region_spec {id : Nat} {a : Act} {w : World} (hm : P.follows .mixedOrders = true) (n : Nat) (hn : ops.size = n) (fr : (Nat → Value) → Act) (u0 : Nat → Value) (B : World → Prop) (R : Nat → Value → World → Prop)
    (ha : a = fr u0) (hB : B w.drew)
    (hR : ∀ i v w w', i < n → R i v w → Below w.heap.size w w' → R i v w')
    (hd : ∀ i, i < n → ∀ j ∈ waits .any ops i, j < i)
    (step : ∀ i, i < n → ∀ u w, B w → u i = u0 i → (∀ j ∈ waits .any ops i, R j (u j) w) → (∀ j, j < n → i ∈ waits .any ops j → u j = u0 j) →
      ∀ K : Act → World → Prop, (∀ v w', R i v w' → B w' → Below w.heap.size w w' → K (fr (u1 u i v)) w') → wpOpIn F N P ops Q i K (fr u) w)
    (done : ∀ u w, B w → (∀ j, j < n → R j (u j) w) → Q .normal (fr u) w) : (Code.region id ops true).wpIn F N P Q a w := by
  subst ha
  refine wpIn_region_any hm ?_
  refine wpAnyI_spec hn fr u0 B R hR hd (fun i hi u w h1 h2 h3 h4 => step i hi u w h1 h2 h3 h4 _ (fun v w' h5 h6 h7 => ⟨v, rfl, h5, h6, h7⟩)) done _ _ _ _ (by simpa using hn) ?_ hB ?_ ?_ ?_
  · unfold unl
    exact Nat.le_trans List.countP_le_length (by simp)
  · intro j hj h
    rw [Array.getD_eq_getD_getElem?, Array.getElem?_replicate] at h
    split at h <;> simp at h
  · intro j _ _; rfl
  · intro j hj h
    rw [Array.getD_eq_getD_getElem?, Array.getElem?_replicate] at h
    split at h <;> simp at h

theorem wpOpI_of {i : Nat} {o : Oper} {K : Act → World → Prop} {a : Act} {w : World} (hF : ∀ f, F.fn f) (ho : ops[i]? = some o) (hg : Region.wanted o (yielded ops a.tmps) = true) (h : o.uponIn F N P a K Q ((o.semAt F.round a.eval).run P w)) : wpOpIn F N P ops Q i K a w := by
  unfold wpOpIn
  rw [ho]
  simp only [hg, if_true]
  exact ⟨fun f _ => hF f, h⟩
theorem wpOpI_skip {i : Nat} {o : Oper} {K : Act → World → Prop} {a : Act} {w : World} (hF : ∀ f, F.fn f) (ho : ops[i]? = some o) (hg : Region.wanted o (yielded ops a.tmps) = false) (h : K (a.put o.dst undef) w) : wpOpIn F N P ops Q i K a w := by
  unfold wpOpIn
  rw [ho]
  simp only [hg]
  exact ⟨fun f _ => hF f, h⟩
end
/-- A region, also within the body of a range over a function. -/
def regionAt2 (n : Nat) : Code → Option Code
  | .region i ops b => if i = n then some (.region i ops b) else none
  | .seq a b => match regionAt2 n a with
    | some c => some c
    | none => regionAt2 n b
  | .loop c => regionAt2 n c
  | .block _ c => regionAt2 n c
  | .scope c => regionAt2 n c
  | .cond _ a b => match regionAt2 n a with
    | some c => some c
    | none => regionAt2 n b
  | .rangeFunc _ _ a b => match regionAt2 n a with
    | some c => some c
    | none => regionAt2 n b
  | _ => none
theorem wpIn_of_eq {P : Program} {F : Fence} {N : Nat} {C C' : Code} {Q : Exit → Act → World → Prop} {a : Act} {w : World} (h : Code.wpIn F N P C Q a w) (e : C = C') : Code.wpIn F N P C' Q a w := e ▸ h
end Go.Proofs.Ytalghiecjhfflaa

namespace Go.Proofs.Ytalghiecjhfflaa
open Go.RowKit Go.Shelf Go.Maps
attribute [local go_sem] Oper.semAt_some


section
variable {P : Program} {ops : Array Oper} {Q : Exit → Act → World → Prop} {md : Region.Mode} {n N : Nat} {F : Fence}
theorem wpAnyI_spec2u (hn : ops.size = n) (fr : (Nat → Value) → Act) (u0 : Nat → Value) (B : (Nat → Bool) → World → Prop) (R : Nat → Value → World → Prop)
    (hd : ∀ i, i < n → ∀ j ∈ waits md ops i, j < i)
    (step : ∀ i, i < n → ∀ (L : Nat → Bool) (u : Nat → Value) (w : World), B L w → L i = false → (∀ j, j < n → L j = true → ∀ k ∈ waits md ops j, L k = true) → (∀ j ∈ waits md ops i, L j = true ∧ R j (u j) w) → (∀ j, j < n → L j = false → u j = u0 j) →
      wpOpIn F N P ops Q i (fun a' w' => ∃ v, a' = fr (u1 u i v) ∧ R i v w' ∧ B (setL L i) w' ∧ (∀ j v, j < n → L j = true → R j v w → R j v w')) (fr u) w)
    (done : ∀ L u w, (∀ j, j < n → L j = true) → B L w → (∀ j, j < n → R j (u j) w) → Q .normal (fr u) w) :
    ∀ (fuel : Nat) (listed : Array Bool) (u : Nat → Value) (w : World), listed.size = n → unl listed ≤ fuel → B (fun j => listed.getD j false) w → (∀ j, j < n → listed.getD j false = true → R j (u j) w) → (∀ j, j < n → listed.getD j false = true → ∀ k ∈ waits md ops j, listed.getD k false = true) → (∀ j, j < n → listed.getD j false = false → u j = u0 j) →
      wpAnyIn F N P md ops Q fuel listed (fr u) w := by
  have hsame : ∀ (listed : Array Bool), listed.size = n → ∀ j, j < n → listed.getD j true = listed.getD j false := by
    intro listed hl j hj
    rw [Array.getD_eq_getD_getElem?, Array.getD_eq_getD_getElem?, Array.getElem?_eq_getElem (by omega)]; rfl
  have hnil : ∀ (listed : Array Bool), listed.size = n → Region.ready md ops listed = [] → ∀ j, j < n → listed.getD j false = true := by
    intro listed hl hr j
    induction j using Nat.strongRecOn with
    | _ j ih =>
      intro hj
      cases hb : listed.getD j false with
      | true => rfl
      | false =>
        have hmem : j ∈ Region.ready md ops listed := (ready_iff listed (by omega) j).2 ⟨by omega, by rw [hsame listed hl j hj, hb], fun k hk => ih k (hd j hj k hk) (by have := hd j hj k hk; omega)⟩
        rw [hr] at hmem; cases hmem
  intro fuel
  induction fuel with
  | zero =>
    intro listed u w hl hf hB hRl hC hU
    have hall : ∀ j, j < n → listed.getD j false = true := fun j hj => by rw [← hsame listed hl j hj]; exact unl_zero (by omega) (by omega)
    refine ⟨?_, done _ u w hall hB fun j hj => hRl j hj (hall j hj)⟩
    cases hr : Region.ready md ops listed with
    | nil => rfl
    | cons i rs =>
      have hmem : i ∈ Region.ready md ops listed := by rw [hr]; simp
      obtain ⟨h1, h2, -⟩ := (ready_iff listed (by omega) i).1 hmem
      rw [hsame listed hl i (by omega), hall i (by omega)] at h2; cases h2
  | succ fuel ih =>
    intro listed u w hl hf hB hRl hC hU
    refine ⟨fun hr => done _ u w (hnil listed hl hr) hB fun j hj => hRl j hj (hnil listed hl hr j hj), fun i hi => ?_⟩
    obtain ⟨h1, h2, h3⟩ := (ready_iff listed (by omega) i).1 hi
    have hin : i < n := by omega
    have h4 : listed.getD i false = false := by rw [← hsame listed hl i hin]; exact h2
    refine wpOpIn_mono ?_ (step i hin _ u w hB h4 hC (fun j hj => ⟨h3 j hj, hRl j (by have := hd i hin j hj; omega) (h3 j hj)⟩) hU)
    rintro a' w' ⟨v, rfl, hv, hB', hk⟩
    refine ih _ _ _ (by simpa using hl) (by have := unl_set (by omega) h2; omega) (by rw [getD_setL (by omega)]; exact hB') ?_ ?_ ?_
    · intro j hj hlj
      by_cases hji : j = i
      · subst hji; rw [u1_same]; exact hv
      · rw [u1_other _ _ hji]
        rw [getD_set, if_neg (by rintro ⟨h, -⟩; exact hji h)] at hlj
        exact hk j _ hj hlj (hRl j hj hlj)
    · intro j hj hlj k hk2
      have hk3 : listed.getD k false = true := by
        by_cases hji : j = i
        · subst hji; exact h3 k hk2
        · rw [getD_set, if_neg (by rintro ⟨h, -⟩; exact hji h)] at hlj
          exact hC j hj hlj k hk2
      rw [getD_set]
      split
      · rfl
      · exact hk3
    · intro j hj hlj
      by_cases hji : j = i
      · subst hji; rw [getD_set, if_pos ⟨rfl, by omega⟩] at hlj; cases hlj
      · rw [u1_other _ _ hji]
        rw [getD_set, if_neg (by rintro ⟨h, -⟩; exact hji h)] at hlj
        exact hU j hj hlj
theorem wpIn_region_spec2u {id : Nat} {a : Act} {w : World} (hm : P.follows .mixedOrders = true) (n : Nat) (hn : ops.size = n) (fr : (Nat → Value) → Act) (u0 : Nat → Value) (B : (Nat → Bool) → World → Prop) (R : Nat → Value → World → Prop)
    (ha : a = fr u0) (hB : B (fun _ => false) w.drew)
    (hd : ∀ i, i < n → ∀ j ∈ waits .any ops i, j < i)
    (step : ∀ i, i < n → ∀ (L : Nat → Bool) (u : Nat → Value) (w : World), B L w → L i = false → (∀ j, j < n → L j = true → ∀ k ∈ waits .any ops j, L k = true) → (∀ j ∈ waits .any ops i, L j = true ∧ R j (u j) w) → (∀ j, j < n → L j = false → u j = u0 j) →
      ∀ K : Act → World → Prop, (∀ v w', R i v w' → B (setL L i) w' → (∀ j v, j < n → L j = true → R j v w → R j v w') → K (fr (u1 u i v)) w') → wpOpIn F N P ops Q i K (fr u) w)
    (done : ∀ L u w, (∀ j, j < n → L j = true) → B L w → (∀ j, j < n → R j (u j) w) → Q .normal (fr u) w) : (Code.region id ops true).wpIn F N P Q a w := by
  subst ha
  refine wpIn_region_any hm ?_
  have h0 : (fun j => (Array.replicate ops.size false).getD j false) = fun _ => false := by
    funext j
    rw [Array.getD_eq_getD_getElem?, Array.getElem?_replicate]
    split <;> rfl
  refine wpAnyI_spec2u hn fr u0 B R hd (fun i hi L u w h1 h2 h3 h4 h8 => step i hi L u w h1 h2 h3 h4 h8 _ (fun v w' h5 h6 h7 => ⟨v, rfl, h5, h6, h7⟩)) done _ _ _ _ (by simpa using hn) ?_ (by rw [h0]; exact hB) ?_ ?_ (fun _ _ _ => rfl)
  · unfold unl
    exact Nat.le_trans List.countP_le_length (by simp)
  · intro j hj h
    rw [Array.getD_eq_getD_getElem?, Array.getElem?_replicate] at h
    split at h <;> simp at h
  · intro j hj h
    rw [Array.getD_eq_getD_getElem?, Array.getElem?_replicate] at h
    split at h <;> simp at h
end
/-- What holds of some world, and of all that come behind it. -/
def Cl (A : World → Prop) (W : World) : Prop := ∃ V, A V ∧ Below V.heap.size V W
theorem Cl.on {A : World → Prop} {W W' : World} (h : Cl A W) (hb : Below W.heap.size W W') : Cl A W' := by
  obtain ⟨V, hV, hb0⟩ := h
  exact ⟨V, hV, hb0.trans (hb.mono hb0.size)⟩
theorem Cl.of {A : World → Prop} {W : World} (h : A W) : Cl A W := ⟨W, h, Below.refl _ _⟩
end Go.Proofs.Ytalghiecjhfflaa
