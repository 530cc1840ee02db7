/- Layer mould, a part: truths by turns. No statement is proved here. -/
import Derived.Test.YtljbjcnfkbmjkaaMgr
import Derived.Test.YtljbjcnfkbmjkaaGd
import Derived.Test.YtljbjcnfkbmjkaaGa
import Derived.Test.YtljbjcnfkbmjkaaMg4
namespace Go.Proofs.Ytljbjcnfkbmjkaa
open Go.RowKit Go.Shelf

def setL (L : Nat → Bool) (i : Nat) : Nat → Bool := fun j => if j = i then true else L j
/-- What holds of memory, by which of the late operations have been. -/
def sel1 (a : Bool) (M0 M1 : World → Prop) : World → Prop := if a then M1 else M0
def sel2 (a b : Bool) (M0 M1 M2 : World → Prop) : World → Prop := if b then M2 else if a then M1 else M0
def sel3 (a b c : Bool) (M0 M1 M2 M3 : World → Prop) : World → Prop := if c then M3 else if b then M2 else if a then M1 else M0
section
variable {P : Program} {ops : Array Oper} {Q : Exit → Act → World → Prop} {md : Region.Mode} {n : Nat}
theorem getD_setL {listed : Array Bool} {i : Nat} (hi : i < listed.size) : (fun j => (listed.setIfInBounds i true).getD j false) = setL (fun j => listed.getD j false) i := by
  funext j
  rw [getD_set]
  unfold setL
  by_cases h : j = i
  · rw [if_pos ⟨h, hi⟩, if_pos h]
  · rw [if_neg (fun h2 => h h2.1), if_neg h]
theorem wpAny_spec2 (hn : ops.size = n) (fr : (Nat → Value) → Act) (B : (Nat → Bool) → World → Prop) (R : Nat → Value → World → Prop)
    (hd : ∀ i, i < n → ∀ j ∈ waits md ops i, j < i)
    (step : ∀ i, i < n → ∀ (L : Nat → Bool) (u : Nat → Value) (w : World), B L w → L i = false → (∀ j, j < n → L j = true → ∀ k ∈ waits md ops j, L k = true) → (∀ j ∈ waits md ops i, L j = true ∧ R j (u j) w) →
      wpOp P ops Q i (fun a' w' => ∃ v, a' = fr (u1 u i v) ∧ R i v w' ∧ B (setL L i) w' ∧ (∀ j v, j < n → L j = true → R j v w → R j v w')) (fr u) w)
    (done : ∀ L u w, (∀ j, j < n → L j = true) → B L w → (∀ j, j < n → R j (u j) w) → Q .normal (fr u) w) :
    ∀ (fuel : Nat) (listed : Array Bool) (u : Nat → Value) (w : World), listed.size = n → unl listed ≤ fuel → B (fun j => listed.getD j false) w → (∀ j, j < n → listed.getD j false = true → R j (u j) w) → (∀ j, j < n → listed.getD j false = true → ∀ k ∈ waits md ops j, listed.getD k false = true) →
      wpAny P md ops Q fuel listed (fr u) w := by
  have hsame : ∀ (listed : Array Bool), listed.size = n → ∀ j, j < n → listed.getD j true = listed.getD j false := by
    intro listed hl j hj
    rw [Array.getD_eq_getD_getElem?, Array.getD_eq_getD_getElem?, Array.getElem?_eq_getElem (by omega)]; rfl
  have hnil : ∀ (listed : Array Bool), listed.size = n → Region.ready md ops listed = [] → ∀ j, j < n → listed.getD j false = true := by
    intro listed hl hr j
    induction j using Nat.strongRecOn with
    | _ j ih =>
      intro hj
      cases hb : listed.getD j false with
      | true => rfl
      | false =>
        have hmem : j ∈ Region.ready md ops listed := (ready_iff listed (by omega) j).2 ⟨by omega, by rw [hsame listed hl j hj, hb], fun k hk => ih k (hd j hj k hk) (by have := hd j hj k hk; omega)⟩
        rw [hr] at hmem; cases hmem
  intro fuel
  induction fuel with
  | zero =>
    intro listed u w hl hf hB hRl hC
    have hall : ∀ j, j < n → listed.getD j false = true := fun j hj => by rw [← hsame listed hl j hj]; exact unl_zero (by omega) (by omega)
    refine ⟨?_, done _ u w hall hB fun j hj => hRl j hj (hall j hj)⟩
    cases hr : Region.ready md ops listed with
    | nil => rfl
    | cons i rs =>
      have hmem : i ∈ Region.ready md ops listed := by rw [hr]; simp
      obtain ⟨h1, h2, -⟩ := (ready_iff listed (by omega) i).1 hmem
      rw [hsame listed hl i (by omega), hall i (by omega)] at h2; cases h2
  | succ fuel ih =>
    intro listed u w hl hf hB hRl hC
    refine ⟨fun hr => done _ u w (hnil listed hl hr) hB fun j hj => hRl j hj (hnil listed hl hr j hj), fun i hi => ?_⟩
    obtain ⟨h1, h2, h3⟩ := (ready_iff listed (by omega) i).1 hi
    have hin : i < n := by omega
    have h4 : listed.getD i false = false := by rw [← hsame listed hl i hin]; exact h2
    refine wpOp_mono ?_ (step i hin _ u w hB h4 hC (fun j hj => ⟨h3 j hj, hRl j (by have := hd i hin j hj; omega) (h3 j hj)⟩))
    rintro a' w' ⟨v, rfl, hv, hB', hk⟩
    refine ih _ _ _ (by simpa using hl) (by have := unl_set (by omega) h2; omega) (by rw [getD_setL (by omega)]; exact hB') ?_ ?_
    · intro j hj hlj
      by_cases hji : j = i
      · subst hji; rw [u1_same]; exact hv
      · rw [u1_other _ _ hji]
        rw [getD_set, if_neg (by rintro ⟨h, -⟩; exact hji h)] at hlj
        exact hk j _ hj hlj (hRl j hj hlj)
    · intro j hj hlj k hk2
      have hk3 : listed.getD k false = true := by
        by_cases hji : j = i
        · subst hji; exact h3 k hk2
        · rw [getD_set, if_neg (by rintro ⟨h, -⟩; exact hji h)] at hlj
          exact hC j hj hlj k hk2
      rw [getD_set]
      split
      · rfl
      · exact hk3
theorem wp_region_spec2 {id : Nat} {a : Act} {w : World} (hm : P.follows .mixedOrders = true) (n : Nat) (hn : ops.size = n) (fr : (Nat → Value) → Act) (u0 : Nat → Value) (B : (Nat → Bool) → World → Prop) (R : Nat → Value → World → Prop)
    (ha : a = fr u0) (hB : B (fun _ => false) w.drew)
    (hd : ∀ i, i < n → ∀ j ∈ waits .any ops i, j < i)
    (step : ∀ i, i < n → ∀ (L : Nat → Bool) (u : Nat → Value) (w : World), B L w → L i = false → (∀ j, j < n → L j = true → ∀ k ∈ waits .any ops j, L k = true) → (∀ j ∈ waits .any ops i, L j = true ∧ R j (u j) w) →
      ∀ K : Act → World → Prop, (∀ v w', R i v w' → B (setL L i) w' → (∀ j v, j < n → L j = true → R j v w → R j v w') → K (fr (u1 u i v)) w') → wpOp P ops Q i K (fr u) w)
    (done : ∀ L u w, (∀ j, j < n → L j = true) → B L w → (∀ j, j < n → R j (u j) w) → Q .normal (fr u) w) : (Code.region id ops true).wp P Q a w := by
  subst ha
  refine wp_region_any hm ?_
  have h0 : (fun j => (Array.replicate ops.size false).getD j false) = fun _ => false := by
    funext j
    rw [Array.getD_eq_getD_getElem?, Array.getElem?_replicate]
    split <;> rfl
  refine wpAny_spec2 hn fr B R hd (fun i hi L u w h1 h2 h3 h4 => step i hi L u w h1 h2 h3 h4 _ (fun v w' h5 h6 h7 => ⟨v, rfl, h5, h6, h7⟩)) done _ _ _ _ (by simpa using hn) ?_ (by rw [h0]; exact hB) ?_ ?_
  · unfold unl
    exact Nat.le_trans List.countP_le_length (by simp)
  · intro j hj h
    rw [Array.getD_eq_getD_getElem?, Array.getElem?_replicate] at h
    split at h <;> simp at h
  · intro j hj h
    rw [Array.getD_eq_getD_getElem?, Array.getElem?_replicate] at h
    split at h <;> simp at h
end
end Go.Proofs.Ytljbjcnfkbmjkaa

namespace Go.Proofs.Ytljbjcnfkbmjkaa
open Go.RowKit Go.Shelf
attribute [local go_sem] Oper.semAt_some

def encU (z : Int) (_ : Nat) : Value := .int .u16 z
/-- A slice of small numbers that comes in. -/
structure U16In (w : World) (ra : Option Addr) (l : List Int) : Prop where
  at_ : RowAt 1 encU w w.heap.size ra l
  len : l.length ≤ 9223372036854775807
  rng : ∀ z ∈ l, 0 ≤ z ∧ z ≤ 65535
theorem U16In.on {w w' : World} {ra : Option Addr} {l : List Int} (h : U16In w ra l) (hb : Below w.heap.size w w') : U16In w' ra l := ⟨(RowAt.below h.at_ hb (Nat.le_refl _)).mono hb.size, h.len, h.rng⟩
/-- The n-th number of a list, by turns. -/
def turnV (l : List Int) (n : Nat) : Int := (l[n % l.length]?).getD 0
def amV (lo hi z : Int) : Int := lo + z % (hi - lo + 1)
theorem turnV_rng {l : List Int} (h : ∀ z ∈ l, 0 ≤ z ∧ z ≤ 65535) (n : Nat) : 0 ≤ turnV l n ∧ turnV l n ≤ 65535 := by
  unfold turnV
  cases hx : l[n % l.length]? with
  | none => simp
  | some x => exact h x (List.mem_of_getElem? hx)
theorem amV_rng {lo hi z : Int} (h : lo ≤ hi) : lo ≤ amV lo hi z ∧ amV lo hi z ≤ hi := by
  have h1 := Int.emod_nonneg z (show hi - lo + 1 ≠ 0 by omega)
  have h2 := Int.emod_lt_of_pos z (show 0 < hi - lo + 1 by omega)
  unfold amV
  omega
set_option maxRecDepth 100000 in
set_option maxHeartbeats 1000000 in
theorem lturn_any {w : World} {A : Option Addr} {c : Nat} {l : List Int} (h : U16In w A l) (n : Nat) (_hn : n ≤ 100000) :
    Calls Try.prog 47 #[.slice A l.length c, .int .i64 (n : Int)] w fun e w' => e = .returned (.int .i64 (turnV l n)) ∧ w' = w := by
  have hl := h.len
  by_cases h0 : l.length = 0
  · have H := Lib.hid (show turnV l n = 0 by unfold turnV; rw [List.getElem?_eq_none (by omega)]; rfl)
    have h0' : ((l.length : Int) == 0) = true := by simp [h0]
    go_enter Try.func47, Try.ntmps47
    go_wp2_with fail
    go_ret
    exact ⟨ret_i64 H.out.symm, rfl⟩
  · have h0' : ((l.length : Int) == 0) = false := by rw [beq_eq_false_iff_ne]; omega
    have hk : n % l.length < l.length := Nat.mod_lt _ (by omega)
    obtain ⟨x, hx⟩ : ∃ x, l[n % l.length]? = some x := ⟨l[n % l.length], List.getElem?_eq_getElem hk⟩
    have H := Lib.hid (show turnV l n = x by unfold turnV; rw [hx]; rfl)
    have hr := h.rng x (List.mem_of_getElem? hx)
    obtain ⟨b, o, rfl, _, hc⟩ := h.at_.one hx
    have hc' : w.cell? ⟨b, o + n % l.length, none⟩ = some (.int .u16 x) := hc
    clear hx hc h
    have hz : ¬ ((l.length : Int) = 0) := by omega
    have hm : (n : Int).tmod (l.length : Int) = ((n % l.length : Nat) : Int) := by rw [Int.tmod_eq_emod_of_nonneg (by omega)]; simp
    have hm2 : (n : Int) % (l.length : Int) = ((n % l.length : Nat) : Int) := by simp
    have hlt : ((n % l.length : Nat) : Int) < (l.length : Int) := by omega
    have hge : 0 ≤ ((n % l.length : Nat) : Int) := by omega
    generalize hq : n % l.length = q at *
    go_enter Try.func47, Try.ntmps47
    go_wp2_with fail
    go_ret
    exact ⟨ret_i64 H.out.symm, rfl⟩
set_option maxRecDepth 100000 in
set_option maxHeartbeats 1000000 in
theorem lamong_any {lo hi z : Int} (h0 : 0 ≤ lo) (h1 : lo ≤ hi) (h2 : hi ≤ 2000) (hz : 0 ≤ z ∧ z ≤ 65535) (w : World) :
    Calls Try.prog 82 #[.agg #[.int .i64 lo, .int .i64 hi], .int .i64 z] w fun e w' => e = .returned (.int .i64 (amV lo hi z)) ∧ Below w.heap.size w w' := by
  have HB : Hid (Below w.heap.size w (w.alloc (.cells #[.int .i64 lo, .int .i64 hi] 23))) := (Below.refl _ w).alloc (Nat.le_refl _) _
  have HK := Lib.hid (Blk.new w 23 #[.int .i64 lo, .int .i64 hi])
  have d0 := HK.out.cell 0
  have d1 := HK.out.cell 1
  have hr := amV_rng (z := z) h1
  have e1 : IntKind.i64.wrap (hi - lo) = hi - lo := IntWalk.i64_in _ (by omega)
  have e2 : IntKind.i64.wrap (hi - lo + 1) = hi - lo + 1 := IntWalk.i64_in _ (by omega)
  have e3 : IntKind.i64.wrap (lo + z % (hi - lo + 1)) = amV lo hi z := IntWalk.i64_in _ (by unfold amV at hr; omega)
  have hd : ¬ (hi - lo + 1 = 0) := by omega
  have hm : z.tmod (hi - lo + 1) = z % (hi - lo + 1) := Int.tmod_eq_emod_of_nonneg hz.1
  clear hr
  go_enter Try.func82, Try.ntmps82
  go_wp2_with fail
  go_quiet (fail)
  go_wp2_with fail
  go_ret
  exact ⟨rfl, below_drewN' HB.out _⟩
end Go.Proofs.Ytljbjcnfkbmjkaa

namespace Go.Proofs.Ytljbjcnfkbmjkaa
open Go.RowKit Go.Shelf
attribute [local go_sem] Oper.semAt_some

section
variable {o : Oper} {a : Act} {w : World} {Q : Exit → Act → World → Prop} {K : Act → World → Prop} {B g0 : Nat} {v : Value}
theorem app_wp (hgd : o.guard = none) (s x : Operand) (ho : o.op = .call { callee := .builtin .append, args := #[s, x], argTypes := #[26, 26] })
    {l : List Int} (hs : a.eval s = v) (hown : IntsOut B w v l) (z : Int) (hx : a.eval x = .slice (some ⟨g0, 0, none⟩) 1 1) (hc : Blk w g0 3 #[.int .i64 z]) (hl : l.length < 1000000) (hB : B ≤ w.heap.size)
    (h : ∀ g cap w', IntsOut B w' (.slice (some ⟨g, 0, none⟩) (l.length + 1) cap) (l ++ [z]) → Below B w w' → w.grownBy w' v.ownBlock → (v.ownBlock = some g ∨ g = w.heap.size) → K (a.put o.dst (.slice (some ⟨g, 0, none⟩) (l.length + 1) cap)) w') : Oper.wp Try.prog o a w K Q := by
  have h1 := app_step (ops := #[]) (E := False) (Q := Q) hgd s x ho hs hown z hx hc hl hB h
  have hw : Region.wanted o (yielded #[] a.tmps) = true := by unfold Region.wanted; rw [hgd]
  rwa [if_pos hw] at h1
theorem apps_wp (hgd : o.guard = none) (s x : Operand) (ho : o.op = .call { callee := .builtin .append, args := #[s, x], argTypes := #[34, 34] })
    {l : List (Int × Int)} (hs : a.eval s = v) (hown : SpansOut B w v l) (z1 z2 : Int) (hx : a.eval x = .slice (some ⟨g0, 0, none⟩) 1 1) (hc : Blk w g0 23 #[.int .i64 z1, .int .i64 z2]) (hl : l.length < 1000000) (hB : B ≤ w.heap.size)
    (h : ∀ g cap w', SpansOut B w' (.slice (some ⟨g, 0, none⟩) (l.length + 1) cap) (l ++ [(z1, z2)]) → Below B w w' → w.grownBy w' v.ownBlock → (v.ownBlock = some g ∨ g = w.heap.size) → K (a.put o.dst (.slice (some ⟨g, 0, none⟩) (l.length + 1) cap)) w') : Oper.wp Try.prog o a w K Q := by
  have h1 := apps_step (ops := #[]) (E := False) (Q := Q) hgd s x ho hs hown z1 z2 hx hc hl hB h
  have hw : Region.wanted o (yielded #[] a.tmps) = true := by unfold Region.wanted; rw [hgd]
  rwa [if_pos hw] at h1
end
theorem Blk.grow {g : Nat} {T : TypeId} {cs : Array Value} {w w' : World} {v : Value} (h : Blk w g T cs) (hg : w.grownBy w' v.ownBlock) (hne : v.ownBlock ≠ some g) : Blk w' g T cs :=
  (hg.block g h.lt (fun e => hne e.symm)).trans h
theorem own_new {B n sz : Nat} {e : TypeId} {w : World} {v : Value} {xs : List Value} (h : w.ownsRow B e sz v n xs) : v.ownBlock ≠ some w.heap.size := fun e => by have := (World.ownsRow.lt h _ e).2; omega
/-- The mould, the turns, the result's cells, the truth's cells. -/
structure TuC (w : World) (m : Md) (A1 : Option Addr) (n1 c1 : Nat) (A2 : Option Addr) (n2 c2 : Nat) (v1 v2 : Value) (W : World) : Prop where
  b0 : MdBk w w.heap.size 25 m W
  y : Blk W (w.heap.size + 1) 58 #[.slice A1 n1 c1, .slice A2 n2 c2]
  r : Blk W (w.heap.size + 1 + 1) 28 #[.slice none 0 0, .slice none 0 0]
  t : Blk W (w.heap.size + 1 + 1 + 1) 28 #[v1, v2]
section
variable {w W W' : World} {m : Md} {A1 A2 : Option Addr} {n1 c1 n2 c2 : Nat} {v1 v2 : Value}
theorem TuC.below (h : TuC w m A1 n1 c1 A2 n2 c2 v1 v2 W) {B : Nat} (hb : Below B W W') (hB : w.heap.size + 1 + 1 + 1 + 1 ≤ B) : TuC w m A1 n1 c1 A2 n2 c2 v1 v2 W' :=
  ⟨⟨h.b0.bk.below hb (by omega), h.b0.b.trans (hb.mono (by omega))⟩, h.y.below hb (by omega), h.r.below hb (by omega), h.t.below hb (by omega)⟩
theorem TuC.sz (h : TuC w m A1 n1 c1 A2 n2 c2 v1 v2 W) : w.heap.size + 1 + 1 + 1 + 1 ≤ W.heap.size := h.t.lt
theorem TuC.on (h : TuC w m A1 n1 c1 A2 n2 c2 v1 v2 W) (hb : Below W.heap.size W W') : TuC w m A1 n1 c1 A2 n2 c2 v1 v2 W' := h.below hb h.sz
theorem TuC.put0 (h : TuC w m A1 n1 c1 A2 n2 c2 v1 v2 W) (v : Value) : TuC w m A1 n1 c1 A2 n2 c2 v v2 (W.setCell ⟨w.heap.size + 1 + 1 + 1, 0, none⟩ v) :=
  ⟨⟨h.b0.bk.far (by simp; omega) _, below_set h.b0.b (by omega)⟩, h.y.far (by simp) _, h.r.far (by simp) _, h.t.set_ 0 v⟩
theorem TuC.put1 (h : TuC w m A1 n1 c1 A2 n2 c2 v1 v2 W) (v : Value) : TuC w m A1 n1 c1 A2 n2 c2 v1 v (W.setCell ⟨w.heap.size + 1 + 1 + 1, 1, none⟩ v) :=
  ⟨⟨h.b0.bk.far (by simp; omega) _, below_set h.b0.b (by omega)⟩, h.y.far (by simp) _, h.r.far (by simp) _, h.t.set_ 1 v⟩
end
/-- .. while its first list grows. -/
structure TuB1 (w : World) (m : Md) (A1 : Option Addr) (n1 c1 : Nat) (A2 : Option Addr) (n2 c2 : Nat) (v : Value) (l : List Int) (W : World) : Prop where
  c : TuC w m A1 n1 c1 A2 n2 c2 v (.slice none 0 0) W
  o : IntsOut (w.heap.size + 1 + 1 + 1 + 1) W v l
theorem TuB1.on {w W W' : World} {m : Md} {A1 A2 : Option Addr} {n1 c1 n2 c2 : Nat} {v : Value} {l : List Int} (h : TuB1 w m A1 n1 c1 A2 n2 c2 v l W) (hb : Below W.heap.size W W') : TuB1 w m A1 n1 c1 A2 n2 c2 v l W' := ⟨h.c.on hb, own_below h.o hb⟩
/-- .. while its second one grows, all of it at B and above. -/
structure TuD (w : World) (m : Md) (A1 : Option Addr) (n1 c1 : Nat) (A2 : Option Addr) (n2 c2 : Nat) (B : Nat) (vf : Value) (l1 : List Int) (v : Value) (W : World) : Prop where
  c : TuC w m A1 n1 c1 A2 n2 c2 vf v W
  o1 : IntsOut (w.heap.size + 1 + 1 + 1 + 1) W vf l1
  lt : ∀ r, vf.ownBlock = some r → r < B
  lb : w.heap.size + 1 + 1 + 1 + 1 ≤ B
  sz : B ≤ W.heap.size
structure TuB2 (w : World) (m : Md) (A1 : Option Addr) (n1 c1 : Nat) (A2 : Option Addr) (n2 c2 : Nat) (B : Nat) (vf : Value) (l1 : List Int) (v : Value) (l : List Int) (W : World) : Prop where
  d : TuD w m A1 n1 c1 A2 n2 c2 B vf l1 v W
  o2 : IntsOut B W v l
section
variable {w W W' : World} {m : Md} {A1 A2 : Option Addr} {n1 c1 n2 c2 B : Nat} {vf v : Value} {l1 l : List Int}
theorem TuD.below (h : TuD w m A1 n1 c1 A2 n2 c2 B vf l1 v W) (hb : Below B W W') : TuD w m A1 n1 c1 A2 n2 c2 B vf l1 v W' :=
  ⟨h.c.below hb h.lb, own_keep h.o1 hb h.lt, h.lt, h.lb, Nat.le_trans h.sz hb.size⟩
theorem TuD.put (h : TuD w m A1 n1 c1 A2 n2 c2 B vf l1 v W) (v' : Value) : TuD w m A1 n1 c1 A2 n2 c2 B vf l1 v' (W.setCell ⟨w.heap.size + 1 + 1 + 1, 1, none⟩ v') :=
  ⟨h.c.put1 v', own_set h.o1 (by omega), h.lt, h.lb, by simpa using h.sz⟩
theorem TuB2.on (h : TuB2 w m A1 n1 c1 A2 n2 c2 B vf l1 v l W) (hb : Below W.heap.size W W') : TuB2 w m A1 n1 c1 A2 n2 c2 B vf l1 v l W' :=
  ⟨h.d.below (hb.mono h.d.sz), own_below h.o2 hb⟩
theorem TuB1.turn (h : TuB1 w m A1 n1 c1 A2 n2 c2 v l W) : TuB2 w m A1 n1 c1 A2 n2 c2 W.heap.size v l (.slice none 0 0) [] W :=
  ⟨⟨h.c, h.o, fun r e => (World.ownsRow.lt h.o r e).2, h.c.sz, Nat.le_refl _⟩, IntsOut.nil _ _⟩
end
end Go.Proofs.Ytljbjcnfkbmjkaa

namespace Go.Proofs.Ytljbjcnfkbmjkaa
open Go.RowKit Go.Shelf Go.Maps
attribute [local go_sem] Oper.semAt_some

/-- What each operation leaves. -/
def tr5R (w : World) (m : Md) (A : Option Addr) (c k : Nat) (A1 : Option Addr) (ps : List Int) (c1 : Nat) (_A2 : Option Addr) (_ws : List Int) (_c2 : Nat) (l : List Int) : Nat → Value → World → Prop
  | 0, v, _ => v = .pointer (some ⟨w.heap.size + 1 + 1 + 1, 0, none⟩)
  | 1, v, _ => v = .slice A l.length c
  | 2, v, _ => v = .pointer (some ⟨w.heap.size, 2, none⟩)
  | 3, v, _ => v = .agg #[.int .i64 m.plo, .int .i64 m.phi]
  | 4, v, _ => v = .pointer (some ⟨w.heap.size + 1, 0, none⟩)
  | 5, v, _ => v = .slice A1 ps.length c1
  | 6, v, _ => v = .int .i64 (k : Int)
  | 7, v, _ => v = .int .i64 (turnV ps k)
  | 8, v, _ => v = .int .i64 (amV m.plo m.phi (turnV ps k))
  | 9, v, W => ∃ g_9, v = .slice (some ⟨g_9, 0, none⟩) 1 1 ∧ Blk W g_9 3 #[.int .i64 (amV m.plo m.phi (turnV ps k))] ∧ w.heap.size + 1 + 1 + 1 + 1 ≤ g_9 ∧ (.slice A l.length c : Value).ownBlock ≠ some g_9
  | 10, v, W => ∃ g_10 cap_10, v = .slice (some ⟨g_10, 0, none⟩) (l.length + 1) cap_10 ∧ IntsOut (w.heap.size + 1 + 1 + 1 + 1) W (.slice (some ⟨g_10, 0, none⟩) (l.length + 1) cap_10) (l ++ [(amV m.plo m.phi (turnV ps k))])
  | 11, v, _ => v = .pointer (some ⟨w.heap.size + 1 + 1 + 1, 0, none⟩)
  | 12, _, _ => True
  | _, _, _ => True
theorem tr5R_on (w : World) (m : Md) (A : Option Addr) (c k : Nat) (A1 : Option Addr) (ps : List Int) (c1 : Nat) (A2 : Option Addr) (ws : List Int) (c2 : Nat) (l : List Int) : ∀ i, i < 13 → ∀ v W W', tr5R w m A c k A1 ps c1 A2 ws c2 l i v W → Below W.heap.size W W' → tr5R w m A c k A1 ps c1 A2 ws c2 l i v W' := by
  iterate 13 (refine all_succ ?_ ?_)
  · exact all_zero
  · exact fun _ _ _ h _ => h
  · exact fun _ _ _ h _ => h
  · exact fun _ _ _ h _ => h
  · exact fun _ _ _ h _ => h
  · exact fun _ _ _ h _ => h
  · exact fun _ _ _ h _ => h
  · exact fun _ _ _ h _ => h
  · exact fun _ _ _ h _ => h
  · exact fun _ _ _ h _ => h
  · rintro v W W' ⟨g_9, e, h0, h1, h2⟩ hb; exact ⟨g_9, e, h0.on hb, h1, h2⟩
  · rintro v W W' ⟨g_10, cap_10, e, h0⟩ hb; exact ⟨g_10, cap_10, e, (own_below h0 hb)⟩
  · exact fun _ _ _ h _ => h
  · exact fun _ _ _ h _ => h
set_option maxRecDepth 100000 in
set_option maxHeartbeats 8000000 in
theorem tr5_region {w : World} {m : Md} {A : Option Addr} {c k : Nat} {A1 : Option Addr} {ps : List Int} {c1 : Nat} {A2 : Option Addr} {ws : List Int} {c2 : Nat} {l : List Int} (hp : U16In w A1 ps) (h0 : 0 ≤ m.plo) (h1 : m.plo ≤ m.phi) (h2 : m.phi ≤ 2000) (hk : k ≤ 100000) (hl : l.length < 1000000) {Q : Exit → Act → World → Prop} {s0 s1 s2 s4 s6 s9 s10 s11 s12 s13 s14 s15 s28 s29 s30 s31 s32 s33 s34 s35 s36 s37 s38 s39 s40 s41 s42 s43 s44 s45 s16 s17 s18 s19 s20 s21 s22 s23 s24 s25 s26 s27 : Value} {W0 : World} (HL : Hid ((TuB1 w m A1 ps.length c1 A2 ws.length c2 (.slice A l.length c) l) W0))
    (HQ : Hid (∀ (u : Nat → Value) (W : World), (fun W => ∃ v2 : Value, TuB1 w m A1 ps.length c1 A2 ws.length c2 v2 (l ++ [(amV m.plo m.phi (turnV ps k))]) W) W → Q .normal ⟨#[s0, s1, s2, .pointer (some ⟨w.heap.size, 0, none⟩), s4, .pointer (some ⟨w.heap.size + 1, 0, none⟩), s6, .pointer (some ⟨w.heap.size + 1 + 1 + 1, 0, none⟩), .int .i64 (k : Int), s9, s10, s11, s12, s13, s14, s15, u 0, u 1, u 2, u 3, u 4, u 5, u 6, u 7, u 8, u 9, u 10, u 11, s28, s29, s30, s31, s32, s33, s34, s35, s36, s37, s38, s39, s40, s41, s42, s43, s44, s45], []⟩ W)) :
    Code.wp Try.prog ((Try.f38.body.bind (regionAt 5)).getD .skip) Q ⟨#[s0, s1, s2, .pointer (some ⟨w.heap.size, 0, none⟩), s4, .pointer (some ⟨w.heap.size + 1, 0, none⟩), s6, .pointer (some ⟨w.heap.size + 1 + 1 + 1, 0, none⟩), .int .i64 (k : Int), s9, s10, s11, s12, s13, s14, s15, s16, s17, s18, s19, s20, s21, s22, s23, s24, s25, s26, s27, s28, s29, s30, s31, s32, s33, s34, s35, s36, s37, s38, s39, s40, s41, s42, s43, s44, s45], []⟩ W0 := by
  conv => arg 2; whnf
  refine wp_region_spec2 (by kernel_rfl) 13 (by kernel_rfl) (fun u => ⟨#[s0, s1, s2, .pointer (some ⟨w.heap.size, 0, none⟩), s4, .pointer (some ⟨w.heap.size + 1, 0, none⟩), s6, .pointer (some ⟨w.heap.size + 1 + 1 + 1, 0, none⟩), .int .i64 (k : Int), s9, s10, s11, s12, s13, s14, s15, u 0, u 1, u 2, u 3, u 4, u 5, u 6, u 7, u 8, u 9, u 10, u 11, s28, s29, s30, s31, s32, s33, s34, s35, s36, s37, s38, s39, s40, s41, s42, s43, s44, s45], []⟩) (fun i => if i = 0 then s16 else if i = 1 then s17 else if i = 2 then s18 else if i = 3 then s19 else if i = 4 then s20 else if i = 5 then s21 else if i = 6 then s22 else if i = 7 then s23 else if i = 8 then s24 else if i = 9 then s25 else if i = 10 then s26 else if i = 11 then s27 else undef) (fun L W => Hid (sel2 (L 10) (L 12) ((TuB1 w m A1 ps.length c1 A2 ws.length c2 (.slice A l.length c) l)) ((TuC w m A1 ps.length c1 A2 ws.length c2 (.slice A l.length c) (.slice none 0 0))) ((fun W => ∃ v2 : Value, TuB1 w m A1 ps.length c1 A2 ws.length c2 v2 (l ++ [(amV m.plo m.phi (turnV ps k))]) W)) W)) (tr5R w m A c k A1 ps c1 A2 ws c2 l) (by kernel_rfl) ((fun (W : World) (W' : World) (h : (TuB1 w m A1 ps.length c1 A2 ws.length c2 (.slice A l.length c) l) W) (hb : Below W.heap.size W W') => h.on hb) _ _ HL.out (Below.refl _ _).drew) (by decide +kernel) ?_ ?_
  · iterate 13 (refine all_succ ?_ ?_)
    · exact all_zero
    · intro L u W hB hi hC hd K hK
      have HK := Lib.hid hK; clear hK
      refine wpOp_of rfl (by rfl) ?_
      go_simp
      exact k_of (HK.out (.pointer (some ⟨w.heap.size + 1 + 1 + 1, 0, none⟩)) _ rfl hB (fun _ _ _ _ h => h)) (by kernel_rfl)
    · intro L u W hB hi hC hd K hK
      have HK := Lib.hid hK; clear hK
      have h10 : L 10 = false := by
        cases h : L 10 with
        | false => rfl
        | true => exact absurd (hC 10 (by decide) h 1 (by decide +kernel)) (by rw [hi]; decide)
      have h12 : L 12 = false := by
        cases h : L 12 with
        | false => rfl
        | true => exact absurd (hC 12 (by decide) h 1 (by decide +kernel)) (by rw [hi]; decide)
      have hM : (TuB1 w m A1 ps.length c1 A2 ws.length c2 (.slice A l.length c) l) W := by
        have h := hB.out
        rw [h10, h12] at h
        exact h
      have hN : ∀ W', (TuB1 w m A1 ps.length c1 A2 ws.length c2 (.slice A l.length c) l) W' → Hid (sel2 (setL L 1 10) (setL L 1 12) ((TuB1 w m A1 ps.length c1 A2 ws.length c2 (.slice A l.length c) l)) ((TuC w m A1 ps.length c1 A2 ws.length c2 (.slice A l.length c) (.slice none 0 0))) ((fun W => ∃ v2 : Value, TuB1 w m A1 ps.length c1 A2 ws.length c2 v2 (l ++ [(amV m.plo m.phi (turnV ps k))]) W)) W') := fun W' h => by
        show Hid (sel2 (L 10) (L 12) ((TuB1 w m A1 ps.length c1 A2 ws.length c2 (.slice A l.length c) l)) ((TuC w m A1 ps.length c1 A2 ws.length c2 (.slice A l.length c) (.slice none 0 0))) ((fun W => ∃ v2 : Value, TuB1 w m A1 ps.length c1 A2 ws.length c2 v2 (l ++ [(amV m.plo m.phi (turnV ps k))]) W)) W')
        rw [h10, h12]
        exact h
      clear hB
      have hB := Lib.hid hM
      clear hM
      have e0 : u 0 = .pointer (some ⟨w.heap.size + 1 + 1 + 1, 0, none⟩) := (hd 0 (by decide +kernel)).2
      refine wpOp_of rfl (by rfl) ?_
      have t0 := hB.out.c.t.cell 0; have t1 := hB.out.c.t.cell 1
      go_simp
      exact k_of (HK.out (.slice A l.length c) _ rfl (hN _ hB.out) (fun _ _ _ _ h => h)) (by rw [← u1_eq e0]; kernel_rfl)
    · intro L u W hB hi hC hd K hK
      have HK := Lib.hid hK; clear hK
      refine wpOp_of rfl (by rfl) ?_
      go_simp
      exact k_of (HK.out (.pointer (some ⟨w.heap.size, 2, none⟩)) _ rfl hB (fun _ _ _ _ h => h)) (by kernel_rfl)
    · intro L u W hB hi hC hd K hK
      have HK := Lib.hid hK; clear hK
      have h10 : L 10 = false := by
        cases h : L 10 with
        | false => rfl
        | true => exact absurd (hC 8 (by decide) (hC 10 (by decide) h 8 (by decide +kernel)) 3 (by decide +kernel)) (by rw [hi]; decide)
      have h12 : L 12 = false := by
        cases h : L 12 with
        | false => rfl
        | true => exact absurd (hC 12 (by decide) h 3 (by decide +kernel)) (by rw [hi]; decide)
      have hM : (TuB1 w m A1 ps.length c1 A2 ws.length c2 (.slice A l.length c) l) W := by
        have h := hB.out
        rw [h10, h12] at h
        exact h
      have hN : ∀ W', (TuB1 w m A1 ps.length c1 A2 ws.length c2 (.slice A l.length c) l) W' → Hid (sel2 (setL L 3 10) (setL L 3 12) ((TuB1 w m A1 ps.length c1 A2 ws.length c2 (.slice A l.length c) l)) ((TuC w m A1 ps.length c1 A2 ws.length c2 (.slice A l.length c) (.slice none 0 0))) ((fun W => ∃ v2 : Value, TuB1 w m A1 ps.length c1 A2 ws.length c2 v2 (l ++ [(amV m.plo m.phi (turnV ps k))]) W)) W') := fun W' h => by
        show Hid (sel2 (L 10) (L 12) ((TuB1 w m A1 ps.length c1 A2 ws.length c2 (.slice A l.length c) l)) ((TuC w m A1 ps.length c1 A2 ws.length c2 (.slice A l.length c) (.slice none 0 0))) ((fun W => ∃ v2 : Value, TuB1 w m A1 ps.length c1 A2 ws.length c2 v2 (l ++ [(amV m.plo m.phi (turnV ps k))]) W)) W')
        rw [h10, h12]
        exact h
      clear hB
      have hB := Lib.hid hM
      clear hM
      have e2 : u 2 = .pointer (some ⟨w.heap.size, 2, none⟩) := (hd 2 (by decide +kernel)).2
      refine wpOp_of rfl (by rfl) ?_
      obtain ⟨c0, c1', c2', c3, c4, c5, c6, c7, c8, c9, c10, c11⟩ := hB.out.c.b0.cells
      go_simp
      exact k_of (HK.out (.agg #[.int .i64 m.plo, .int .i64 m.phi]) _ rfl (hN _ hB.out) (fun _ _ _ _ h => h)) (by rw [← u1_eq e2]; kernel_rfl)
    · intro L u W hB hi hC hd K hK
      have HK := Lib.hid hK; clear hK
      refine wpOp_of rfl (by rfl) ?_
      go_simp
      exact k_of (HK.out (.pointer (some ⟨w.heap.size + 1, 0, none⟩)) _ rfl hB (fun _ _ _ _ h => h)) (by kernel_rfl)
    · intro L u W hB hi hC hd K hK
      have HK := Lib.hid hK; clear hK
      have h10 : L 10 = false := by
        cases h : L 10 with
        | false => rfl
        | true => exact absurd (hC 7 (by decide) (hC 8 (by decide) (hC 10 (by decide) h 8 (by decide +kernel)) 7 (by decide +kernel)) 5 (by decide +kernel)) (by rw [hi]; decide)
      have h12 : L 12 = false := by
        cases h : L 12 with
        | false => rfl
        | true => exact absurd (hC 12 (by decide) h 5 (by decide +kernel)) (by rw [hi]; decide)
      have hM : (TuB1 w m A1 ps.length c1 A2 ws.length c2 (.slice A l.length c) l) W := by
        have h := hB.out
        rw [h10, h12] at h
        exact h
      have hN : ∀ W', (TuB1 w m A1 ps.length c1 A2 ws.length c2 (.slice A l.length c) l) W' → Hid (sel2 (setL L 5 10) (setL L 5 12) ((TuB1 w m A1 ps.length c1 A2 ws.length c2 (.slice A l.length c) l)) ((TuC w m A1 ps.length c1 A2 ws.length c2 (.slice A l.length c) (.slice none 0 0))) ((fun W => ∃ v2 : Value, TuB1 w m A1 ps.length c1 A2 ws.length c2 v2 (l ++ [(amV m.plo m.phi (turnV ps k))]) W)) W') := fun W' h => by
        show Hid (sel2 (L 10) (L 12) ((TuB1 w m A1 ps.length c1 A2 ws.length c2 (.slice A l.length c) l)) ((TuC w m A1 ps.length c1 A2 ws.length c2 (.slice A l.length c) (.slice none 0 0))) ((fun W => ∃ v2 : Value, TuB1 w m A1 ps.length c1 A2 ws.length c2 v2 (l ++ [(amV m.plo m.phi (turnV ps k))]) W)) W')
        rw [h10, h12]
        exact h
      clear hB
      have hB := Lib.hid hM
      clear hM
      have e4 : u 4 = .pointer (some ⟨w.heap.size + 1, 0, none⟩) := (hd 4 (by decide +kernel)).2
      refine wpOp_of rfl (by rfl) ?_
      have y0 := hB.out.c.y.cell 0; have y1 := hB.out.c.y.cell 1
      go_simp
      exact k_of (HK.out (.slice A1 ps.length c1) _ rfl (hN _ hB.out) (fun _ _ _ _ h => h)) (by rw [← u1_eq e4]; kernel_rfl)
    · intro L u W hB hi hC hd K hK
      have HK := Lib.hid hK; clear hK
      refine wpOp_of rfl (by rfl) ?_
      go_simp
      exact k_of (HK.out (.int .i64 (k : Int)) _ rfl hB (fun _ _ _ _ h => h)) (by kernel_rfl)
    · intro L u W hB hi hC hd K hK
      have HK := Lib.hid hK; clear hK
      have h10 : L 10 = false := by
        cases h : L 10 with
        | false => rfl
        | true => exact absurd (hC 8 (by decide) (hC 10 (by decide) h 8 (by decide +kernel)) 7 (by decide +kernel)) (by rw [hi]; decide)
      have h12 : L 12 = false := by
        cases h : L 12 with
        | false => rfl
        | true => exact absurd (hC 12 (by decide) h 7 (by decide +kernel)) (by rw [hi]; decide)
      have hM : (TuB1 w m A1 ps.length c1 A2 ws.length c2 (.slice A l.length c) l) W := by
        have h := hB.out
        rw [h10, h12] at h
        exact h
      have hN : ∀ W', (TuB1 w m A1 ps.length c1 A2 ws.length c2 (.slice A l.length c) l) W' → Hid (sel2 (setL L 7 10) (setL L 7 12) ((TuB1 w m A1 ps.length c1 A2 ws.length c2 (.slice A l.length c) l)) ((TuC w m A1 ps.length c1 A2 ws.length c2 (.slice A l.length c) (.slice none 0 0))) ((fun W => ∃ v2 : Value, TuB1 w m A1 ps.length c1 A2 ws.length c2 v2 (l ++ [(amV m.plo m.phi (turnV ps k))]) W)) W') := fun W' h => by
        show Hid (sel2 (L 10) (L 12) ((TuB1 w m A1 ps.length c1 A2 ws.length c2 (.slice A l.length c) l)) ((TuC w m A1 ps.length c1 A2 ws.length c2 (.slice A l.length c) (.slice none 0 0))) ((fun W => ∃ v2 : Value, TuB1 w m A1 ps.length c1 A2 ws.length c2 v2 (l ++ [(amV m.plo m.phi (turnV ps k))]) W)) W')
        rw [h10, h12]
        exact h
      clear hB
      have hB := Lib.hid hM
      clear hM
      have e5 : u 5 = .slice A1 ps.length c1 := (hd 5 (by decide +kernel)).2
      have e6 : u 6 = .int .i64 (k : Int) := (hd 6 (by decide +kernel)).2
      refine wpOp_of rfl (by rfl) ?_
      go_simp
      refine (lturn_any (hp.on hB.out.c.b0.b) k hk).mono ?_
      rintro e w' ⟨rfl, rfl⟩
      exact k_of (HK.out (.int .i64 (turnV ps k)) _ rfl (hN _ hB.out) (fun _ _ _ _ h => h)) (by rw [← u1_eq e5, ← u1_eq e6]; kernel_rfl)
    · intro L u W hB hi hC hd K hK
      have HK := Lib.hid hK; clear hK
      have h10 : L 10 = false := by
        cases h : L 10 with
        | false => rfl
        | true => exact absurd (hC 10 (by decide) h 8 (by decide +kernel)) (by rw [hi]; decide)
      have h12 : L 12 = false := by
        cases h : L 12 with
        | false => rfl
        | true => exact absurd (hC 12 (by decide) h 8 (by decide +kernel)) (by rw [hi]; decide)
      have hM : (TuB1 w m A1 ps.length c1 A2 ws.length c2 (.slice A l.length c) l) W := by
        have h := hB.out
        rw [h10, h12] at h
        exact h
      have hN : ∀ W', (TuB1 w m A1 ps.length c1 A2 ws.length c2 (.slice A l.length c) l) W' → Hid (sel2 (setL L 8 10) (setL L 8 12) ((TuB1 w m A1 ps.length c1 A2 ws.length c2 (.slice A l.length c) l)) ((TuC w m A1 ps.length c1 A2 ws.length c2 (.slice A l.length c) (.slice none 0 0))) ((fun W => ∃ v2 : Value, TuB1 w m A1 ps.length c1 A2 ws.length c2 v2 (l ++ [(amV m.plo m.phi (turnV ps k))]) W)) W') := fun W' h => by
        show Hid (sel2 (L 10) (L 12) ((TuB1 w m A1 ps.length c1 A2 ws.length c2 (.slice A l.length c) l)) ((TuC w m A1 ps.length c1 A2 ws.length c2 (.slice A l.length c) (.slice none 0 0))) ((fun W => ∃ v2 : Value, TuB1 w m A1 ps.length c1 A2 ws.length c2 v2 (l ++ [(amV m.plo m.phi (turnV ps k))]) W)) W')
        rw [h10, h12]
        exact h
      clear hB
      have hB := Lib.hid hM
      clear hM
      have e3 : u 3 = .agg #[.int .i64 m.plo, .int .i64 m.phi] := (hd 3 (by decide +kernel)).2
      have e7 : u 7 = .int .i64 (turnV ps k) := (hd 7 (by decide +kernel)).2
      refine wpOp_of rfl (by rfl) ?_
      go_simp
      refine (lamong_any h0 h1 h2 (turnV_rng hp.rng k) _).mono ?_
      rintro e w' ⟨rfl, hb⟩
      exact k_of (HK.out (.int .i64 (amV m.plo m.phi (turnV ps k))) _ rfl (hN _ ((fun (W : World) (W' : World) (h : (TuB1 w m A1 ps.length c1 A2 ws.length c2 (.slice A l.length c) l) W) (hb : Below W.heap.size W W') => h.on hb) _ _ hB.out hb)) (fun j v hj _ hR => tr5R_on w m A c k A1 ps c1 A2 ws c2 l j hj v _ _ hR hb)) (by rw [← u1_eq e3, ← u1_eq e7]; kernel_rfl)
    · intro L u W hB hi hC hd K hK
      have HK := Lib.hid hK; clear hK
      have h10 : L 10 = false := by
        cases h : L 10 with
        | false => rfl
        | true => exact absurd (hC 10 (by decide) h 9 (by decide +kernel)) (by rw [hi]; decide)
      have h12 : L 12 = false := by
        cases h : L 12 with
        | false => rfl
        | true => exact absurd (hC 12 (by decide) h 9 (by decide +kernel)) (by rw [hi]; decide)
      have hM : (TuB1 w m A1 ps.length c1 A2 ws.length c2 (.slice A l.length c) l) W := by
        have h := hB.out
        rw [h10, h12] at h
        exact h
      have hN : ∀ W', (TuB1 w m A1 ps.length c1 A2 ws.length c2 (.slice A l.length c) l) W' → Hid (sel2 (setL L 9 10) (setL L 9 12) ((TuB1 w m A1 ps.length c1 A2 ws.length c2 (.slice A l.length c) l)) ((TuC w m A1 ps.length c1 A2 ws.length c2 (.slice A l.length c) (.slice none 0 0))) ((fun W => ∃ v2 : Value, TuB1 w m A1 ps.length c1 A2 ws.length c2 v2 (l ++ [(amV m.plo m.phi (turnV ps k))]) W)) W') := fun W' h => by
        show Hid (sel2 (L 10) (L 12) ((TuB1 w m A1 ps.length c1 A2 ws.length c2 (.slice A l.length c) l)) ((TuC w m A1 ps.length c1 A2 ws.length c2 (.slice A l.length c) (.slice none 0 0))) ((fun W => ∃ v2 : Value, TuB1 w m A1 ps.length c1 A2 ws.length c2 v2 (l ++ [(amV m.plo m.phi (turnV ps k))]) W)) W')
        rw [h10, h12]
        exact h
      clear hB
      have hB := Lib.hid hM
      clear hM
      have e8 : u 8 = .int .i64 (amV m.plo m.phi (turnV ps k)) := (hd 8 (by decide +kernel)).2
      refine wpOp_of rfl (by rfl) ?_
      go_simp
      have hb : Below W.heap.size W (W.alloc (.cells #[.int .i64 (amV m.plo m.phi (turnV ps k))] 3)) := (Below.refl _ W).alloc (Nat.le_refl _) _
      exact k_of (HK.out (.slice (some ⟨W.heap.size, 0, none⟩) 1 1) _ ⟨W.heap.size, rfl, Blk.new W _ _, hB.out.c.sz, own_new hB.out.o⟩ (hN _ (hB.out.on hb)) (fun j v hj _ hR => tr5R_on w m A c k A1 ps c1 A2 ws c2 l j hj v _ _ hR hb)) (by rw [← u1_eq e8]; kernel_rfl)
    · intro L u W hB hi hC hd K hK
      have HK := Lib.hid hK; clear hK
      have h10 : L 10 = false := hi
      have h12 : L 12 = false := by
        cases h : L 12 with
        | false => rfl
        | true => exact absurd (hC 12 (by decide) h 10 (by decide +kernel)) (by rw [hi]; decide)
      have hM : (TuB1 w m A1 ps.length c1 A2 ws.length c2 (.slice A l.length c) l) W := by
        have h := hB.out
        rw [h10, h12] at h
        exact h
      have hN : ∀ W', (TuC w m A1 ps.length c1 A2 ws.length c2 (.slice A l.length c) (.slice none 0 0)) W' → Hid (sel2 (setL L 10 10) (setL L 10 12) ((TuB1 w m A1 ps.length c1 A2 ws.length c2 (.slice A l.length c) l)) ((TuC w m A1 ps.length c1 A2 ws.length c2 (.slice A l.length c) (.slice none 0 0))) ((fun W => ∃ v2 : Value, TuB1 w m A1 ps.length c1 A2 ws.length c2 v2 (l ++ [(amV m.plo m.phi (turnV ps k))]) W)) W') := fun W' h => by
        show Hid (sel2 true (L 12) ((TuB1 w m A1 ps.length c1 A2 ws.length c2 (.slice A l.length c) l)) ((TuC w m A1 ps.length c1 A2 ws.length c2 (.slice A l.length c) (.slice none 0 0))) ((fun W => ∃ v2 : Value, TuB1 w m A1 ps.length c1 A2 ws.length c2 v2 (l ++ [(amV m.plo m.phi (turnV ps k))]) W)) W')
        rw [h12]
        exact h
      clear hB
      have hB := Lib.hid hM
      clear hM
      have e1 : u 1 = .slice A l.length c := (hd 1 (by decide +kernel)).2
      obtain ⟨g_9, e9, f9_0, f9_1, f9_2⟩ : tr5R w m A c k A1 ps c1 A2 ws c2 l 9 (u 9) W := (hd 9 (by decide +kernel)).2
      refine wpOp_of rfl (by rfl) ?_
      refine app_wp rfl _ _ rfl e1 hB.out.o (amV m.plo m.phi (turnV ps k)) e9 f9_0 hl hB.out.c.sz ?_
      intro g cap w4 r1 r2 r3 r4
      have hkeep : ∀ j, j < 13 → ∀ v, L j = true → tr5R w m A c k A1 ps c1 A2 ws c2 l j v W → tr5R w m A c k A1 ps c1 A2 ws c2 l j v w4 := by
        iterate 13 (refine all_succ ?_ ?_)
        · exact all_zero
        · exact fun _ _ h => h
        · exact fun _ _ h => h
        · exact fun _ _ h => h
        · exact fun _ _ h => h
        · exact fun _ _ h => h
        · exact fun _ _ h => h
        · exact fun _ _ h => h
        · exact fun _ _ h => h
        · exact fun _ _ h => h
        · rintro v _ ⟨g, e, h1, h2, h3⟩; exact ⟨g, e, h1.grow r3 h3, h2, h3⟩
        · intro v h; rw [hi] at h; cases h
        · exact fun _ _ h => h
        · exact fun _ _ h => h
      exact k_of (HK.out (.slice (some ⟨g, 0, none⟩) (l.length + 1) cap) _ ⟨g, cap, rfl, r1⟩ (hN _ (hB.out.c.below r2 (Nat.le_refl _))) (fun j v hj h1 h2 => hkeep j hj v h1 h2)) (by rw [← u1_eq e1, ← u1_eq e9]; kernel_rfl)
    · intro L u W hB hi hC hd K hK
      have HK := Lib.hid hK; clear hK
      refine wpOp_of rfl (by rfl) ?_
      go_simp
      exact k_of (HK.out (.pointer (some ⟨w.heap.size + 1 + 1 + 1, 0, none⟩)) _ rfl hB (fun _ _ _ _ h => h)) (by kernel_rfl)
    · intro L u W hB hi hC hd K hK
      have HK := Lib.hid hK; clear hK
      have h10 : L 10 = true := (hd 10 (by decide +kernel)).1
      have h12 : L 12 = false := hi
      have hM : (TuC w m A1 ps.length c1 A2 ws.length c2 (.slice A l.length c) (.slice none 0 0)) W := by
        have h := hB.out
        rw [h10, h12] at h
        exact h
      have hN : ∀ W', (fun W => ∃ v2 : Value, TuB1 w m A1 ps.length c1 A2 ws.length c2 v2 (l ++ [(amV m.plo m.phi (turnV ps k))]) W) W' → Hid (sel2 (setL L 12 10) (setL L 12 12) ((TuB1 w m A1 ps.length c1 A2 ws.length c2 (.slice A l.length c) l)) ((TuC w m A1 ps.length c1 A2 ws.length c2 (.slice A l.length c) (.slice none 0 0))) ((fun W => ∃ v2 : Value, TuB1 w m A1 ps.length c1 A2 ws.length c2 v2 (l ++ [(amV m.plo m.phi (turnV ps k))]) W)) W') := fun W' h => by
        show Hid (sel2 (L 10) true ((TuB1 w m A1 ps.length c1 A2 ws.length c2 (.slice A l.length c) l)) ((TuC w m A1 ps.length c1 A2 ws.length c2 (.slice A l.length c) (.slice none 0 0))) ((fun W => ∃ v2 : Value, TuB1 w m A1 ps.length c1 A2 ws.length c2 v2 (l ++ [(amV m.plo m.phi (turnV ps k))]) W)) W')
        rw [h10]
        exact h
      clear hB
      have hB := Lib.hid hM
      clear hM
      have e11 : u 11 = .pointer (some ⟨w.heap.size + 1 + 1 + 1, 0, none⟩) := (hd 11 (by decide +kernel)).2
      obtain ⟨g_10, cap_10, e10, f10_0⟩ : tr5R w m A c k A1 ps c1 A2 ws c2 l 10 (u 10) W := (hd 10 (by decide +kernel)).2
      refine wpOp_of rfl (by rfl) ?_
      have g0 := hB.out.t.frozen 0
      have t0 := hB.out.t.cell 0
      have t1 := hB.out.t.cell 1
      have gl := hB.out.t.lt
      go_simp
      have hkeep : ∀ j, j < 13 → ∀ v, L j = true → tr5R w m A c k A1 ps c1 A2 ws c2 l j v W → tr5R w m A c k A1 ps c1 A2 ws c2 l j v (W.setCell ⟨w.heap.size + 1 + 1 + 1, 0, none⟩ (.slice (some ⟨g_10, 0, none⟩) (l.length + 1) cap_10)) := by
        iterate 13 (refine all_succ ?_ ?_)
        · exact all_zero
        · exact fun _ _ h => h
        · exact fun _ _ h => h
        · exact fun _ _ h => h
        · exact fun _ _ h => h
        · exact fun _ _ h => h
        · exact fun _ _ h => h
        · exact fun _ _ h => h
        · exact fun _ _ h => h
        · exact fun _ _ h => h
        · rintro v _ ⟨g, e, h1, h2, h3⟩; exact ⟨g, e, h1.far (by simp; omega) _, h2, h3⟩
        · rintro v _ ⟨g, cap, e, h1⟩; exact ⟨g, cap, e, own_set h1 (by omega)⟩
        · exact fun _ _ h => h
        · exact fun _ _ h => h
      exact k_of (HK.out undef _ trivial (hN _ ⟨.slice (some ⟨g_10, 0, none⟩) (l.length + 1) cap_10, hB.out.put0 _, own_set f10_0 (by omega)⟩) (fun j v hj h1 h2 => hkeep j hj v h1 h2)) (by rw [← u1_eq e11, ← u1_eq e10]; kernel_rfl)
  · intro L u W hL hB hd
    have hM : (fun W => ∃ v2 : Value, TuB1 w m A1 ps.length c1 A2 ws.length c2 v2 (l ++ [(amV m.plo m.phi (turnV ps k))]) W) W := by
      have h := hB.out
      rw [hL 10 (by decide), hL 12 (by decide)] at h
      exact h
    exact k_of (HQ.out u W hM) (rfl)

/-- What each operation leaves. -/
def tr9R (w : World) (m : Md) (A : Option Addr) (c k : Nat) (_A1 : Option Addr) (_ps : List Int) (_c1 : Nat) (A2 : Option Addr) (ws : List Int) (c2 : Nat) (l : List Int) (B : Nat) : Nat → Value → World → Prop
  | 0, v, _ => v = .pointer (some ⟨w.heap.size + 1 + 1 + 1, 1, none⟩)
  | 1, v, _ => v = .slice A l.length c
  | 2, v, _ => v = .pointer (some ⟨w.heap.size, 4, none⟩)
  | 3, v, _ => v = .agg #[.int .i64 m.wlo, .int .i64 m.whi]
  | 4, v, _ => v = .pointer (some ⟨w.heap.size + 1, 1, none⟩)
  | 5, v, _ => v = .slice A2 ws.length c2
  | 6, v, _ => v = .int .i64 (k : Int)
  | 7, v, _ => v = .int .i64 (turnV ws k)
  | 8, v, _ => v = .int .i64 (amV m.wlo m.whi (turnV ws k))
  | 9, v, W => ∃ g_9, v = .slice (some ⟨g_9, 0, none⟩) 1 1 ∧ Blk W g_9 3 #[.int .i64 (amV m.wlo m.whi (turnV ws k))] ∧ w.heap.size + 1 + 1 + 1 + 1 ≤ g_9 ∧ (.slice A l.length c : Value).ownBlock ≠ some g_9
  | 10, v, W => ∃ g_10 cap_10, v = .slice (some ⟨g_10, 0, none⟩) (l.length + 1) cap_10 ∧ IntsOut (B) W (.slice (some ⟨g_10, 0, none⟩) (l.length + 1) cap_10) (l ++ [(amV m.wlo m.whi (turnV ws k))])
  | 11, v, _ => v = .pointer (some ⟨w.heap.size + 1 + 1 + 1, 1, none⟩)
  | 12, _, _ => True
  | _, _, _ => True
theorem tr9R_on (w : World) (m : Md) (A : Option Addr) (c k : Nat) (A1 : Option Addr) (ps : List Int) (c1 : Nat) (A2 : Option Addr) (ws : List Int) (c2 : Nat) (l : List Int) (B : Nat) : ∀ i, i < 13 → ∀ v W W', tr9R w m A c k A1 ps c1 A2 ws c2 l B i v W → Below W.heap.size W W' → tr9R w m A c k A1 ps c1 A2 ws c2 l B i v W' := by
  iterate 13 (refine all_succ ?_ ?_)
  · exact all_zero
  · exact fun _ _ _ h _ => h
  · exact fun _ _ _ h _ => h
  · exact fun _ _ _ h _ => h
  · exact fun _ _ _ h _ => h
  · exact fun _ _ _ h _ => h
  · exact fun _ _ _ h _ => h
  · exact fun _ _ _ h _ => h
  · exact fun _ _ _ h _ => h
  · exact fun _ _ _ h _ => h
  · rintro v W W' ⟨g_9, e, h0, h1, h2⟩ hb; exact ⟨g_9, e, h0.on hb, h1, h2⟩
  · rintro v W W' ⟨g_10, cap_10, e, h0⟩ hb; exact ⟨g_10, cap_10, e, (own_below h0 hb)⟩
  · exact fun _ _ _ h _ => h
  · exact fun _ _ _ h _ => h
set_option maxRecDepth 100000 in
set_option maxHeartbeats 8000000 in
theorem tr9_region {w : World} {m : Md} {A : Option Addr} {c k : Nat} {A1 : Option Addr} {ps : List Int} {c1 : Nat} {A2 : Option Addr} {ws : List Int} {c2 : Nat} {l : List Int} {B : Nat} {vf : Value} {l1 : List Int} (hq : U16In w A2 ws) (h0 : 0 ≤ m.wlo) (h1 : m.wlo ≤ m.whi) (h2 : m.whi ≤ 2000) (hk : k ≤ 100000) (hl : l.length < 1000000) {Q : Exit → Act → World → Prop} {s0 s1 s2 s4 s6 s8 s10 s11 s12 s13 s14 s15 s16 s17 s18 s19 s20 s21 s22 s23 s24 s25 s26 s27 s28 s29 s30 s31 s32 s45 s33 s34 s35 s36 s37 s38 s39 s40 s41 s42 s43 s44 : Value} {W0 : World} (HL : Hid ((TuB2 w m A1 ps.length c1 A2 ws.length c2 B vf l1 (.slice A l.length c) l) W0))
    (HQ : Hid (∀ (u : Nat → Value) (W : World), (fun W => ∃ v2 : Value, TuB2 w m A1 ps.length c1 A2 ws.length c2 B vf l1 v2 (l ++ [(amV m.wlo m.whi (turnV ws k))]) W) W → Q .normal ⟨#[s0, s1, s2, .pointer (some ⟨w.heap.size, 0, none⟩), s4, .pointer (some ⟨w.heap.size + 1, 0, none⟩), s6, .pointer (some ⟨w.heap.size + 1 + 1 + 1, 0, none⟩), s8, .int .i64 (k : Int), s10, s11, s12, s13, s14, s15, s16, s17, s18, s19, s20, s21, s22, s23, s24, s25, s26, s27, s28, s29, s30, s31, s32, u 0, u 1, u 2, u 3, u 4, u 5, u 6, u 7, u 8, u 9, u 10, u 11, s45], []⟩ W)) :
    Code.wp Try.prog ((Try.f38.body.bind (regionAt 9)).getD .skip) Q ⟨#[s0, s1, s2, .pointer (some ⟨w.heap.size, 0, none⟩), s4, .pointer (some ⟨w.heap.size + 1, 0, none⟩), s6, .pointer (some ⟨w.heap.size + 1 + 1 + 1, 0, none⟩), s8, .int .i64 (k : Int), s10, s11, s12, s13, s14, s15, s16, s17, s18, s19, s20, s21, s22, s23, s24, s25, s26, s27, s28, s29, s30, s31, s32, s33, s34, s35, s36, s37, s38, s39, s40, s41, s42, s43, s44, s45], []⟩ W0 := by
  conv => arg 2; whnf
  refine wp_region_spec2 (by kernel_rfl) 13 (by kernel_rfl) (fun u => ⟨#[s0, s1, s2, .pointer (some ⟨w.heap.size, 0, none⟩), s4, .pointer (some ⟨w.heap.size + 1, 0, none⟩), s6, .pointer (some ⟨w.heap.size + 1 + 1 + 1, 0, none⟩), s8, .int .i64 (k : Int), s10, s11, s12, s13, s14, s15, s16, s17, s18, s19, s20, s21, s22, s23, s24, s25, s26, s27, s28, s29, s30, s31, s32, u 0, u 1, u 2, u 3, u 4, u 5, u 6, u 7, u 8, u 9, u 10, u 11, s45], []⟩) (fun i => if i = 0 then s33 else if i = 1 then s34 else if i = 2 then s35 else if i = 3 then s36 else if i = 4 then s37 else if i = 5 then s38 else if i = 6 then s39 else if i = 7 then s40 else if i = 8 then s41 else if i = 9 then s42 else if i = 10 then s43 else if i = 11 then s44 else undef) (fun L W => Hid (sel2 (L 10) (L 12) ((TuB2 w m A1 ps.length c1 A2 ws.length c2 B vf l1 (.slice A l.length c) l)) ((TuD w m A1 ps.length c1 A2 ws.length c2 B vf l1 (.slice A l.length c))) ((fun W => ∃ v2 : Value, TuB2 w m A1 ps.length c1 A2 ws.length c2 B vf l1 v2 (l ++ [(amV m.wlo m.whi (turnV ws k))]) W)) W)) (tr9R w m A c k A1 ps c1 A2 ws c2 l B) (by kernel_rfl) ((fun (W : World) (W' : World) (h : (TuB2 w m A1 ps.length c1 A2 ws.length c2 B vf l1 (.slice A l.length c) l) W) (hb : Below W.heap.size W W') => h.on hb) _ _ HL.out (Below.refl _ _).drew) (by decide +kernel) ?_ ?_
  · iterate 13 (refine all_succ ?_ ?_)
    · exact all_zero
    · intro L u W hB hi hC hd K hK
      have HK := Lib.hid hK; clear hK
      refine wpOp_of rfl (by rfl) ?_
      go_simp
      exact k_of (HK.out (.pointer (some ⟨w.heap.size + 1 + 1 + 1, 1, none⟩)) _ rfl hB (fun _ _ _ _ h => h)) (by kernel_rfl)
    · intro L u W hB hi hC hd K hK
      have HK := Lib.hid hK; clear hK
      have h10 : L 10 = false := by
        cases h : L 10 with
        | false => rfl
        | true => exact absurd (hC 10 (by decide) h 1 (by decide +kernel)) (by rw [hi]; decide)
      have h12 : L 12 = false := by
        cases h : L 12 with
        | false => rfl
        | true => exact absurd (hC 12 (by decide) h 1 (by decide +kernel)) (by rw [hi]; decide)
      have hM : (TuB2 w m A1 ps.length c1 A2 ws.length c2 B vf l1 (.slice A l.length c) l) W := by
        have h := hB.out
        rw [h10, h12] at h
        exact h
      have hN : ∀ W', (TuB2 w m A1 ps.length c1 A2 ws.length c2 B vf l1 (.slice A l.length c) l) W' → Hid (sel2 (setL L 1 10) (setL L 1 12) ((TuB2 w m A1 ps.length c1 A2 ws.length c2 B vf l1 (.slice A l.length c) l)) ((TuD w m A1 ps.length c1 A2 ws.length c2 B vf l1 (.slice A l.length c))) ((fun W => ∃ v2 : Value, TuB2 w m A1 ps.length c1 A2 ws.length c2 B vf l1 v2 (l ++ [(amV m.wlo m.whi (turnV ws k))]) W)) W') := fun W' h => by
        show Hid (sel2 (L 10) (L 12) ((TuB2 w m A1 ps.length c1 A2 ws.length c2 B vf l1 (.slice A l.length c) l)) ((TuD w m A1 ps.length c1 A2 ws.length c2 B vf l1 (.slice A l.length c))) ((fun W => ∃ v2 : Value, TuB2 w m A1 ps.length c1 A2 ws.length c2 B vf l1 v2 (l ++ [(amV m.wlo m.whi (turnV ws k))]) W)) W')
        rw [h10, h12]
        exact h
      clear hB
      have hB := Lib.hid hM
      clear hM
      have e0 : u 0 = .pointer (some ⟨w.heap.size + 1 + 1 + 1, 1, none⟩) := (hd 0 (by decide +kernel)).2
      refine wpOp_of rfl (by rfl) ?_
      have t0 := hB.out.d.c.t.cell 0; have t1 := hB.out.d.c.t.cell 1
      go_simp
      exact k_of (HK.out (.slice A l.length c) _ rfl (hN _ hB.out) (fun _ _ _ _ h => h)) (by rw [← u1_eq e0]; kernel_rfl)
    · intro L u W hB hi hC hd K hK
      have HK := Lib.hid hK; clear hK
      refine wpOp_of rfl (by rfl) ?_
      go_simp
      exact k_of (HK.out (.pointer (some ⟨w.heap.size, 4, none⟩)) _ rfl hB (fun _ _ _ _ h => h)) (by kernel_rfl)
    · intro L u W hB hi hC hd K hK
      have HK := Lib.hid hK; clear hK
      have h10 : L 10 = false := by
        cases h : L 10 with
        | false => rfl
        | true => exact absurd (hC 8 (by decide) (hC 10 (by decide) h 8 (by decide +kernel)) 3 (by decide +kernel)) (by rw [hi]; decide)
      have h12 : L 12 = false := by
        cases h : L 12 with
        | false => rfl
        | true => exact absurd (hC 12 (by decide) h 3 (by decide +kernel)) (by rw [hi]; decide)
      have hM : (TuB2 w m A1 ps.length c1 A2 ws.length c2 B vf l1 (.slice A l.length c) l) W := by
        have h := hB.out
        rw [h10, h12] at h
        exact h
      have hN : ∀ W', (TuB2 w m A1 ps.length c1 A2 ws.length c2 B vf l1 (.slice A l.length c) l) W' → Hid (sel2 (setL L 3 10) (setL L 3 12) ((TuB2 w m A1 ps.length c1 A2 ws.length c2 B vf l1 (.slice A l.length c) l)) ((TuD w m A1 ps.length c1 A2 ws.length c2 B vf l1 (.slice A l.length c))) ((fun W => ∃ v2 : Value, TuB2 w m A1 ps.length c1 A2 ws.length c2 B vf l1 v2 (l ++ [(amV m.wlo m.whi (turnV ws k))]) W)) W') := fun W' h => by
        show Hid (sel2 (L 10) (L 12) ((TuB2 w m A1 ps.length c1 A2 ws.length c2 B vf l1 (.slice A l.length c) l)) ((TuD w m A1 ps.length c1 A2 ws.length c2 B vf l1 (.slice A l.length c))) ((fun W => ∃ v2 : Value, TuB2 w m A1 ps.length c1 A2 ws.length c2 B vf l1 v2 (l ++ [(amV m.wlo m.whi (turnV ws k))]) W)) W')
        rw [h10, h12]
        exact h
      clear hB
      have hB := Lib.hid hM
      clear hM
      have e2 : u 2 = .pointer (some ⟨w.heap.size, 4, none⟩) := (hd 2 (by decide +kernel)).2
      refine wpOp_of rfl (by rfl) ?_
      obtain ⟨c0, c1', c2', c3, c4, c5, c6, c7, c8, c9, c10, c11⟩ := hB.out.d.c.b0.cells
      go_simp
      exact k_of (HK.out (.agg #[.int .i64 m.wlo, .int .i64 m.whi]) _ rfl (hN _ hB.out) (fun _ _ _ _ h => h)) (by rw [← u1_eq e2]; kernel_rfl)
    · intro L u W hB hi hC hd K hK
      have HK := Lib.hid hK; clear hK
      refine wpOp_of rfl (by rfl) ?_
      go_simp
      exact k_of (HK.out (.pointer (some ⟨w.heap.size + 1, 1, none⟩)) _ rfl hB (fun _ _ _ _ h => h)) (by kernel_rfl)
    · intro L u W hB hi hC hd K hK
      have HK := Lib.hid hK; clear hK
      have h10 : L 10 = false := by
        cases h : L 10 with
        | false => rfl
        | true => exact absurd (hC 7 (by decide) (hC 8 (by decide) (hC 10 (by decide) h 8 (by decide +kernel)) 7 (by decide +kernel)) 5 (by decide +kernel)) (by rw [hi]; decide)
      have h12 : L 12 = false := by
        cases h : L 12 with
        | false => rfl
        | true => exact absurd (hC 12 (by decide) h 5 (by decide +kernel)) (by rw [hi]; decide)
      have hM : (TuB2 w m A1 ps.length c1 A2 ws.length c2 B vf l1 (.slice A l.length c) l) W := by
        have h := hB.out
        rw [h10, h12] at h
        exact h
      have hN : ∀ W', (TuB2 w m A1 ps.length c1 A2 ws.length c2 B vf l1 (.slice A l.length c) l) W' → Hid (sel2 (setL L 5 10) (setL L 5 12) ((TuB2 w m A1 ps.length c1 A2 ws.length c2 B vf l1 (.slice A l.length c) l)) ((TuD w m A1 ps.length c1 A2 ws.length c2 B vf l1 (.slice A l.length c))) ((fun W => ∃ v2 : Value, TuB2 w m A1 ps.length c1 A2 ws.length c2 B vf l1 v2 (l ++ [(amV m.wlo m.whi (turnV ws k))]) W)) W') := fun W' h => by
        show Hid (sel2 (L 10) (L 12) ((TuB2 w m A1 ps.length c1 A2 ws.length c2 B vf l1 (.slice A l.length c) l)) ((TuD w m A1 ps.length c1 A2 ws.length c2 B vf l1 (.slice A l.length c))) ((fun W => ∃ v2 : Value, TuB2 w m A1 ps.length c1 A2 ws.length c2 B vf l1 v2 (l ++ [(amV m.wlo m.whi (turnV ws k))]) W)) W')
        rw [h10, h12]
        exact h
      clear hB
      have hB := Lib.hid hM
      clear hM
      have e4 : u 4 = .pointer (some ⟨w.heap.size + 1, 1, none⟩) := (hd 4 (by decide +kernel)).2
      refine wpOp_of rfl (by rfl) ?_
      have y0 := hB.out.d.c.y.cell 0; have y1 := hB.out.d.c.y.cell 1
      go_simp
      exact k_of (HK.out (.slice A2 ws.length c2) _ rfl (hN _ hB.out) (fun _ _ _ _ h => h)) (by rw [← u1_eq e4]; kernel_rfl)
    · intro L u W hB hi hC hd K hK
      have HK := Lib.hid hK; clear hK
      refine wpOp_of rfl (by rfl) ?_
      go_simp
      exact k_of (HK.out (.int .i64 (k : Int)) _ rfl hB (fun _ _ _ _ h => h)) (by kernel_rfl)
    · intro L u W hB hi hC hd K hK
      have HK := Lib.hid hK; clear hK
      have h10 : L 10 = false := by
        cases h : L 10 with
        | false => rfl
        | true => exact absurd (hC 8 (by decide) (hC 10 (by decide) h 8 (by decide +kernel)) 7 (by decide +kernel)) (by rw [hi]; decide)
      have h12 : L 12 = false := by
        cases h : L 12 with
        | false => rfl
        | true => exact absurd (hC 12 (by decide) h 7 (by decide +kernel)) (by rw [hi]; decide)
      have hM : (TuB2 w m A1 ps.length c1 A2 ws.length c2 B vf l1 (.slice A l.length c) l) W := by
        have h := hB.out
        rw [h10, h12] at h
        exact h
      have hN : ∀ W', (TuB2 w m A1 ps.length c1 A2 ws.length c2 B vf l1 (.slice A l.length c) l) W' → Hid (sel2 (setL L 7 10) (setL L 7 12) ((TuB2 w m A1 ps.length c1 A2 ws.length c2 B vf l1 (.slice A l.length c) l)) ((TuD w m A1 ps.length c1 A2 ws.length c2 B vf l1 (.slice A l.length c))) ((fun W => ∃ v2 : Value, TuB2 w m A1 ps.length c1 A2 ws.length c2 B vf l1 v2 (l ++ [(amV m.wlo m.whi (turnV ws k))]) W)) W') := fun W' h => by
        show Hid (sel2 (L 10) (L 12) ((TuB2 w m A1 ps.length c1 A2 ws.length c2 B vf l1 (.slice A l.length c) l)) ((TuD w m A1 ps.length c1 A2 ws.length c2 B vf l1 (.slice A l.length c))) ((fun W => ∃ v2 : Value, TuB2 w m A1 ps.length c1 A2 ws.length c2 B vf l1 v2 (l ++ [(amV m.wlo m.whi (turnV ws k))]) W)) W')
        rw [h10, h12]
        exact h
      clear hB
      have hB := Lib.hid hM
      clear hM
      have e5 : u 5 = .slice A2 ws.length c2 := (hd 5 (by decide +kernel)).2
      have e6 : u 6 = .int .i64 (k : Int) := (hd 6 (by decide +kernel)).2
      refine wpOp_of rfl (by rfl) ?_
      go_simp
      refine (lturn_any (hq.on hB.out.d.c.b0.b) k hk).mono ?_
      rintro e w' ⟨rfl, rfl⟩
      exact k_of (HK.out (.int .i64 (turnV ws k)) _ rfl (hN _ hB.out) (fun _ _ _ _ h => h)) (by rw [← u1_eq e5, ← u1_eq e6]; kernel_rfl)
    · intro L u W hB hi hC hd K hK
      have HK := Lib.hid hK; clear hK
      have h10 : L 10 = false := by
        cases h : L 10 with
        | false => rfl
        | true => exact absurd (hC 10 (by decide) h 8 (by decide +kernel)) (by rw [hi]; decide)
      have h12 : L 12 = false := by
        cases h : L 12 with
        | false => rfl
        | true => exact absurd (hC 12 (by decide) h 8 (by decide +kernel)) (by rw [hi]; decide)
      have hM : (TuB2 w m A1 ps.length c1 A2 ws.length c2 B vf l1 (.slice A l.length c) l) W := by
        have h := hB.out
        rw [h10, h12] at h
        exact h
      have hN : ∀ W', (TuB2 w m A1 ps.length c1 A2 ws.length c2 B vf l1 (.slice A l.length c) l) W' → Hid (sel2 (setL L 8 10) (setL L 8 12) ((TuB2 w m A1 ps.length c1 A2 ws.length c2 B vf l1 (.slice A l.length c) l)) ((TuD w m A1 ps.length c1 A2 ws.length c2 B vf l1 (.slice A l.length c))) ((fun W => ∃ v2 : Value, TuB2 w m A1 ps.length c1 A2 ws.length c2 B vf l1 v2 (l ++ [(amV m.wlo m.whi (turnV ws k))]) W)) W') := fun W' h => by
        show Hid (sel2 (L 10) (L 12) ((TuB2 w m A1 ps.length c1 A2 ws.length c2 B vf l1 (.slice A l.length c) l)) ((TuD w m A1 ps.length c1 A2 ws.length c2 B vf l1 (.slice A l.length c))) ((fun W => ∃ v2 : Value, TuB2 w m A1 ps.length c1 A2 ws.length c2 B vf l1 v2 (l ++ [(amV m.wlo m.whi (turnV ws k))]) W)) W')
        rw [h10, h12]
        exact h
      clear hB
      have hB := Lib.hid hM
      clear hM
      have e3 : u 3 = .agg #[.int .i64 m.wlo, .int .i64 m.whi] := (hd 3 (by decide +kernel)).2
      have e7 : u 7 = .int .i64 (turnV ws k) := (hd 7 (by decide +kernel)).2
      refine wpOp_of rfl (by rfl) ?_
      go_simp
      refine (lamong_any h0 h1 h2 (turnV_rng hq.rng k) _).mono ?_
      rintro e w' ⟨rfl, hb⟩
      exact k_of (HK.out (.int .i64 (amV m.wlo m.whi (turnV ws k))) _ rfl (hN _ ((fun (W : World) (W' : World) (h : (TuB2 w m A1 ps.length c1 A2 ws.length c2 B vf l1 (.slice A l.length c) l) W) (hb : Below W.heap.size W W') => h.on hb) _ _ hB.out hb)) (fun j v hj _ hR => tr9R_on w m A c k A1 ps c1 A2 ws c2 l B j hj v _ _ hR hb)) (by rw [← u1_eq e3, ← u1_eq e7]; kernel_rfl)
    · intro L u W hB hi hC hd K hK
      have HK := Lib.hid hK; clear hK
      have h10 : L 10 = false := by
        cases h : L 10 with
        | false => rfl
        | true => exact absurd (hC 10 (by decide) h 9 (by decide +kernel)) (by rw [hi]; decide)
      have h12 : L 12 = false := by
        cases h : L 12 with
        | false => rfl
        | true => exact absurd (hC 12 (by decide) h 9 (by decide +kernel)) (by rw [hi]; decide)
      have hM : (TuB2 w m A1 ps.length c1 A2 ws.length c2 B vf l1 (.slice A l.length c) l) W := by
        have h := hB.out
        rw [h10, h12] at h
        exact h
      have hN : ∀ W', (TuB2 w m A1 ps.length c1 A2 ws.length c2 B vf l1 (.slice A l.length c) l) W' → Hid (sel2 (setL L 9 10) (setL L 9 12) ((TuB2 w m A1 ps.length c1 A2 ws.length c2 B vf l1 (.slice A l.length c) l)) ((TuD w m A1 ps.length c1 A2 ws.length c2 B vf l1 (.slice A l.length c))) ((fun W => ∃ v2 : Value, TuB2 w m A1 ps.length c1 A2 ws.length c2 B vf l1 v2 (l ++ [(amV m.wlo m.whi (turnV ws k))]) W)) W') := fun W' h => by
        show Hid (sel2 (L 10) (L 12) ((TuB2 w m A1 ps.length c1 A2 ws.length c2 B vf l1 (.slice A l.length c) l)) ((TuD w m A1 ps.length c1 A2 ws.length c2 B vf l1 (.slice A l.length c))) ((fun W => ∃ v2 : Value, TuB2 w m A1 ps.length c1 A2 ws.length c2 B vf l1 v2 (l ++ [(amV m.wlo m.whi (turnV ws k))]) W)) W')
        rw [h10, h12]
        exact h
      clear hB
      have hB := Lib.hid hM
      clear hM
      have e8 : u 8 = .int .i64 (amV m.wlo m.whi (turnV ws k)) := (hd 8 (by decide +kernel)).2
      refine wpOp_of rfl (by rfl) ?_
      go_simp
      have hb : Below W.heap.size W (W.alloc (.cells #[.int .i64 (amV m.wlo m.whi (turnV ws k))] 3)) := (Below.refl _ W).alloc (Nat.le_refl _) _
      exact k_of (HK.out (.slice (some ⟨W.heap.size, 0, none⟩) 1 1) _ ⟨W.heap.size, rfl, Blk.new W _ _, hB.out.d.c.sz, own_new hB.out.o2⟩ (hN _ (hB.out.on hb)) (fun j v hj _ hR => tr9R_on w m A c k A1 ps c1 A2 ws c2 l B j hj v _ _ hR hb)) (by rw [← u1_eq e8]; kernel_rfl)
    · intro L u W hB hi hC hd K hK
      have HK := Lib.hid hK; clear hK
      have h10 : L 10 = false := hi
      have h12 : L 12 = false := by
        cases h : L 12 with
        | false => rfl
        | true => exact absurd (hC 12 (by decide) h 10 (by decide +kernel)) (by rw [hi]; decide)
      have hM : (TuB2 w m A1 ps.length c1 A2 ws.length c2 B vf l1 (.slice A l.length c) l) W := by
        have h := hB.out
        rw [h10, h12] at h
        exact h
      have hN : ∀ W', (TuD w m A1 ps.length c1 A2 ws.length c2 B vf l1 (.slice A l.length c)) W' → Hid (sel2 (setL L 10 10) (setL L 10 12) ((TuB2 w m A1 ps.length c1 A2 ws.length c2 B vf l1 (.slice A l.length c) l)) ((TuD w m A1 ps.length c1 A2 ws.length c2 B vf l1 (.slice A l.length c))) ((fun W => ∃ v2 : Value, TuB2 w m A1 ps.length c1 A2 ws.length c2 B vf l1 v2 (l ++ [(amV m.wlo m.whi (turnV ws k))]) W)) W') := fun W' h => by
        show Hid (sel2 true (L 12) ((TuB2 w m A1 ps.length c1 A2 ws.length c2 B vf l1 (.slice A l.length c) l)) ((TuD w m A1 ps.length c1 A2 ws.length c2 B vf l1 (.slice A l.length c))) ((fun W => ∃ v2 : Value, TuB2 w m A1 ps.length c1 A2 ws.length c2 B vf l1 v2 (l ++ [(amV m.wlo m.whi (turnV ws k))]) W)) W')
        rw [h12]
        exact h
      clear hB
      have hB := Lib.hid hM
      clear hM
      have e1 : u 1 = .slice A l.length c := (hd 1 (by decide +kernel)).2
      obtain ⟨g_9, e9, f9_0, f9_1, f9_2⟩ : tr9R w m A c k A1 ps c1 A2 ws c2 l B 9 (u 9) W := (hd 9 (by decide +kernel)).2
      refine wpOp_of rfl (by rfl) ?_
      refine app_wp rfl _ _ rfl e1 hB.out.o2 (amV m.wlo m.whi (turnV ws k)) e9 f9_0 hl hB.out.d.sz ?_
      intro g cap w4 r1 r2 r3 r4
      have hkeep : ∀ j, j < 13 → ∀ v, L j = true → tr9R w m A c k A1 ps c1 A2 ws c2 l B j v W → tr9R w m A c k A1 ps c1 A2 ws c2 l B j v w4 := by
        iterate 13 (refine all_succ ?_ ?_)
        · exact all_zero
        · exact fun _ _ h => h
        · exact fun _ _ h => h
        · exact fun _ _ h => h
        · exact fun _ _ h => h
        · exact fun _ _ h => h
        · exact fun _ _ h => h
        · exact fun _ _ h => h
        · exact fun _ _ h => h
        · exact fun _ _ h => h
        · rintro v _ ⟨g, e, h1, h2, h3⟩; exact ⟨g, e, h1.grow r3 h3, h2, h3⟩
        · intro v h; rw [hi] at h; cases h
        · exact fun _ _ h => h
        · exact fun _ _ h => h
      exact k_of (HK.out (.slice (some ⟨g, 0, none⟩) (l.length + 1) cap) _ ⟨g, cap, rfl, r1⟩ (hN _ (hB.out.d.below r2)) (fun j v hj h1 h2 => hkeep j hj v h1 h2)) (by rw [← u1_eq e1, ← u1_eq e9]; kernel_rfl)
    · intro L u W hB hi hC hd K hK
      have HK := Lib.hid hK; clear hK
      refine wpOp_of rfl (by rfl) ?_
      go_simp
      exact k_of (HK.out (.pointer (some ⟨w.heap.size + 1 + 1 + 1, 1, none⟩)) _ rfl hB (fun _ _ _ _ h => h)) (by kernel_rfl)
    · intro L u W hB hi hC hd K hK
      have HK := Lib.hid hK; clear hK
      have h10 : L 10 = true := (hd 10 (by decide +kernel)).1
      have h12 : L 12 = false := hi
      have hM : (TuD w m A1 ps.length c1 A2 ws.length c2 B vf l1 (.slice A l.length c)) W := by
        have h := hB.out
        rw [h10, h12] at h
        exact h
      have hN : ∀ W', (fun W => ∃ v2 : Value, TuB2 w m A1 ps.length c1 A2 ws.length c2 B vf l1 v2 (l ++ [(amV m.wlo m.whi (turnV ws k))]) W) W' → Hid (sel2 (setL L 12 10) (setL L 12 12) ((TuB2 w m A1 ps.length c1 A2 ws.length c2 B vf l1 (.slice A l.length c) l)) ((TuD w m A1 ps.length c1 A2 ws.length c2 B vf l1 (.slice A l.length c))) ((fun W => ∃ v2 : Value, TuB2 w m A1 ps.length c1 A2 ws.length c2 B vf l1 v2 (l ++ [(amV m.wlo m.whi (turnV ws k))]) W)) W') := fun W' h => by
        show Hid (sel2 (L 10) true ((TuB2 w m A1 ps.length c1 A2 ws.length c2 B vf l1 (.slice A l.length c) l)) ((TuD w m A1 ps.length c1 A2 ws.length c2 B vf l1 (.slice A l.length c))) ((fun W => ∃ v2 : Value, TuB2 w m A1 ps.length c1 A2 ws.length c2 B vf l1 v2 (l ++ [(amV m.wlo m.whi (turnV ws k))]) W)) W')
        rw [h10]
        exact h
      clear hB
      have hB := Lib.hid hM
      clear hM
      have e11 : u 11 = .pointer (some ⟨w.heap.size + 1 + 1 + 1, 1, none⟩) := (hd 11 (by decide +kernel)).2
      obtain ⟨g_10, cap_10, e10, f10_0⟩ : tr9R w m A c k A1 ps c1 A2 ws c2 l B 10 (u 10) W := (hd 10 (by decide +kernel)).2
      refine wpOp_of rfl (by rfl) ?_
      have g0 := hB.out.c.t.frozen 1
      have t0 := hB.out.c.t.cell 0
      have t1 := hB.out.c.t.cell 1
      have gl := hB.out.c.t.lt
      go_simp
      have hkeep : ∀ j, j < 13 → ∀ v, L j = true → tr9R w m A c k A1 ps c1 A2 ws c2 l B j v W → tr9R w m A c k A1 ps c1 A2 ws c2 l B j v (W.setCell ⟨w.heap.size + 1 + 1 + 1, 1, none⟩ (.slice (some ⟨g_10, 0, none⟩) (l.length + 1) cap_10)) := by
        iterate 13 (refine all_succ ?_ ?_)
        · exact all_zero
        · exact fun _ _ h => h
        · exact fun _ _ h => h
        · exact fun _ _ h => h
        · exact fun _ _ h => h
        · exact fun _ _ h => h
        · exact fun _ _ h => h
        · exact fun _ _ h => h
        · exact fun _ _ h => h
        · exact fun _ _ h => h
        · rintro v _ ⟨g, e, h1, h2, h3⟩; exact ⟨g, e, h1.far (by simp; omega) _, h2, h3⟩
        · rintro v _ ⟨g, cap, e, h1⟩; exact ⟨g, cap, e, own_set h1 (by have := hB.out.lb; omega)⟩
        · exact fun _ _ h => h
        · exact fun _ _ h => h
      exact k_of (HK.out undef _ trivial (hN _ ⟨.slice (some ⟨g_10, 0, none⟩) (l.length + 1) cap_10, hB.out.put _, own_set f10_0 (by have := hB.out.lb; omega)⟩) (fun j v hj h1 h2 => hkeep j hj v h1 h2)) (by rw [← u1_eq e11, ← u1_eq e10]; kernel_rfl)
  · intro L u W hL hB hd
    have hM : (fun W => ∃ v2 : Value, TuB2 w m A1 ps.length c1 A2 ws.length c2 B vf l1 v2 (l ++ [(amV m.wlo m.whi (turnV ws k))]) W) W := by
      have h := hB.out
      rw [hL 10 (by decide), hL 12 (by decide)] at h
      exact h
    exact k_of (HQ.out u W hM) (rfl)

end Go.Proofs.Ytljbjcnfkbmjkaa

namespace Go.Proofs.Ytljbjcnfkbmjkaa
open Go.RowKit Go.Shelf Go.Maps
attribute [local go_sem] Oper.semAt_some

/-- A list of a truth, by turns. -/
def trL (lo hi : Int) (l : List Int) (n : Nat) : List Int := (List.range n).map fun i => amV lo hi (turnV l i)
theorem trL_length (lo hi : Int) (l : List Int) (n : Nat) : (trL lo hi l n).length = n := by simp [trL]
theorem trL_succ (lo hi : Int) (l : List Int) (n : Nat) : trL lo hi l (n + 1) = trL lo hi l n ++ [amV lo hi (turnV l n)] := by simp [trL, List.range_succ]
theorem trL_rng {lo hi : Int} (h : lo ≤ hi) (l : List Int) (n : Nat) : ∀ x ∈ trL lo hi l n, lo ≤ x ∧ x ≤ hi := by
  intro x hx
  obtain ⟨i, _, rfl⟩ := List.mem_map.1 hx
  exact amV_rng h
theorem tu_start (w : World) (m : Md) (A1 : Option Addr) (n1 c1 : Nat) (A2 : Option Addr) (n2 c2 : Nat) : TuB1 w m A1 n1 c1 A2 n2 c2 (.slice none 0 0) [] ((((w.alloc (.cells #[.int .i64 m.rings, .int .i64 m.give, .int .i64 m.plo, .int .i64 m.phi, .int .i64 m.wlo, .int .i64 m.whi, .int .i64 m.st, .int .i64 m.shrink, .int .i64 m.skin, .int .i64 m.fill, .int .i64 m.gap, .int .i64 m.deep] 25)).alloc (.cells #[.slice A1 n1 c1, .slice A2 n2 c2] 58)).alloc (.cells #[.slice none 0 0, .slice none 0 0] 28)).alloc (.cells #[.slice none 0 0, .slice none 0 0] 28)) :=
  ⟨⟨⟨(((Blk.new w _ _).alloc _).alloc _).alloc _, ((((Below.refl _ w).alloc (Nat.le_refl _) _).alloc (by simp) _).alloc (by simp; omega) _).alloc (by simp; omega) _⟩, ((Blk.new1 w _ _ _).alloc _).alloc _, (Blk.new2 w _ _ _ _).alloc _, Blk.new3 w _ _ _ _ _⟩, IntsOut.nil _ _⟩
/-- Both lists, as they are returned. -/
theorem TuB2.done {w W : World} {m : Md} {A1 A2 : Option Addr} {n1 c1 n2 c2 B : Nat} {v1 v2 : Value} {l1 l2 : List Int} (h : TuB2 w m A1 n1 c1 A2 n2 c2 B v1 l1 v2 l2 W) : ∃ B1 d1 B2 d2, v1 = .slice B1 l1.length d1 ∧ v2 = .slice B2 l2.length d2 ∧ IntsIn ((W.setCell ⟨w.heap.size + 1 + 1, 0, none⟩ v1).setCell ⟨w.heap.size + 1 + 1, 1, none⟩ v2) B1 l1 ∧ IntsIn ((W.setCell ⟨w.heap.size + 1 + 1, 0, none⟩ v1).setCell ⟨w.heap.size + 1 + 1, 1, none⟩ v2) B2 l2 := by
  have hl := h.d.lb
  have h1 : IntsOut (w.heap.size + 1 + 1 + 1 + 1) ((W.setCell ⟨w.heap.size + 1 + 1, 0, none⟩ v1).setCell ⟨w.heap.size + 1 + 1, 1, none⟩ v2) v1 l1 := own_set (own_set h.d.o1 (by omega)) (by omega)
  have h2 : IntsOut B ((W.setCell ⟨w.heap.size + 1 + 1, 0, none⟩ v1).setCell ⟨w.heap.size + 1 + 1, 1, none⟩ v2) v2 l2 := own_set (own_set h.o2 (by omega)) (by omega)
  obtain ⟨B1, d1, e1, i1⟩ := h1.in_
  obtain ⟨B2, d2, e2, i2⟩ := h2.in_
  exact ⟨B1, d1, B2, d2, e1, e2, i1, i2⟩
set_option maxRecDepth 100000 in
set_option maxHeartbeats 4000000 in
theorem ltruth_any {w : World} {m : Md} (hok : MdOk m) (n : Nat) (hn : n ≤ 600) {A1 A2 : Option Addr} {c1 c2 : Nat} {ps ws : List Int} (hp : U16In w A1 ps) (hq : U16In w A2 ws) :
    Calls Try.prog 38 #[.agg #[.int .i64 m.rings, .int .i64 m.give, .int .i64 m.plo, .int .i64 m.phi, .int .i64 m.wlo, .int .i64 m.whi, .int .i64 m.st, .int .i64 m.shrink, .int .i64 m.skin, .int .i64 m.fill, .int .i64 m.gap, .int .i64 m.deep], .int .i64 (n : Int), .agg #[.slice A1 ps.length c1, .slice A2 ws.length c2]] w fun e w' => ∃ B1 d1 B2 d2, e = .returned (.agg #[.slice B1 (kR m) d1, .slice B2 n d2]) ∧ IntsIn w' B1 (trL m.plo m.phi ps (kR m)) ∧ IntsIn w' B2 (trL m.wlo m.whi ws n) ∧ Below w.heap.size w w' := by
  have HS0 := Lib.hid (tu_start w m A1 ps.length c1 A2 ws.length c2)
  have HP := Lib.hid hp
  have HQ := Lib.hid hq
  have HO := Lib.hid hok
  have HR : Hid (m.rings = ((kR m : Nat) : Int)) := (kR_eq hok.toMdIn).symm
  have hk8 : kR m ≤ 8 := (kR_le hok.toMdIn).2
  clear hp hq hok
  go_enter Try.func38, Try.ntmps38
  go_wp2_with fail
  go_loopw [8] (fun i W => ∃ (k : Nat) (v : Value), k ≤ kR m ∧ i = .int .i64 k ∧ Hid (TuB1 w m A1 ps.length c1 A2 ws.length c2 v (trL m.plo m.phi ps k) W)) (fun i _ => kR m - (intOf i).toNat)
  case atStart => exact ⟨0, _, Nat.zero_le _, rfl, HS0⟩
  case round =>
    obtain ⟨k, v, hk, rfl, HS⟩ := hrel
    clear HS0
    have c0 := HS.out.c.b0.bk.cell 0
    rw [show m.rings = ((kR m : Nat) : Int) from HR.out] at c0
    have hl := HS.out.c.b0.bk.lt
    by_cases hlt : k < kR m
    · have hlt' : (k : Int) < kR m := by omega
      obtain ⟨A, c, rfl⟩ := own_slice HS.out.o
      go_wp2_with fail
      refine wp_of_eq (tr5_region HP.out (HO.out.plo.1) HO.out.pour HO.out.phi.2 (k := k) (by omega) (by rw [trL_length]; omega) HS (Lib.hid fun u5 W5 h5 => ?_)) (by kernel_rfl)
      obtain ⟨v5, h5⟩ := h5
      have H5 := Lib.hid h5
      clear h5
      go_wp2_with fail
      go_roundw
      case rel => exact ⟨k + 1, v5, Nat.succ_le_of_lt hlt, by go_num, by have h := H5.out; rw [← trL_succ] at h; exact h⟩
      case measure => exact meas_one hlt
    · obtain rfl : k = kR m := by omega
      have hn2 : ¬ ((kR m : Int) < kR m) := by omega
      have HT0 := Lib.hid HS.out.turn
      obtain ⟨A, c, hv⟩ := own_slice HS.out.o
      go_wp2_with fail
      clear HS c0 hl hv
      generalize hX : wr.heap.size = X at *
      go_loopw [9] (fun i W => ∃ (k : Nat) (v2 : Value), k ≤ n ∧ i = .int .i64 k ∧ Hid (TuB2 w m A1 ps.length c1 A2 ws.length c2 X v (trL m.plo m.phi ps (kR m)) v2 (trL m.wlo m.whi ws k) W)) (fun i _ => n - (intOf i).toNat)
      case atStart => exact ⟨0, _, Nat.zero_le _, rfl, HT0⟩
      case round =>
        obtain ⟨k, v2, hk3, rfl, HT⟩ := hrel
        clear HT0
        by_cases hlt : k < n
        · have hlt' : (k : Int) < n := by omega
          obtain ⟨A3, c3, rfl⟩ := own_slice HT.out.o2
          go_wp2_with fail
          refine wp_of_eq (tr9_region HQ.out (HO.out.wlo.1) HO.out.wall HO.out.whi.2 (k := k) (by omega) (by rw [trL_length]; omega) HT (Lib.hid fun u5 W5 h5 => ?_)) (by kernel_rfl)
          obtain ⟨v5, h5⟩ := h5
          have H5 := Lib.hid h5
          clear h5
          go_wp2_with fail
          go_roundw
          case rel => exact ⟨k + 1, v5, Nat.succ_le_of_lt hlt, by go_num, by have h := H5.out; rw [← trL_succ] at h; exact h⟩
          case measure => exact meas_one hlt
        · obtain rfl : k = n := by omega
          have hn3 : ¬ ((k : Int) < k) := by omega
          obtain ⟨B1, d1, B2, d2, e1, e2, i1, i2⟩ := HT.out.done
          rw [trL_length] at e1 e2
          subst e1 e2
          have t0 := HT.out.d.c.t.cell 0
          have t1 := HT.out.d.c.t.cell 1
          have r0 := HT.out.d.c.r.cell 0
          have r1 := HT.out.d.c.r.cell 1
          have g0 := HT.out.d.c.r.frozen 0
          have g1 := HT.out.d.c.r.frozen 1
          have hr := HT.out.d.c.r.lt
          have ht := HT.out.d.c.t.lt
          have s0 := (HT.out.d.c.r.set_ 0 (.slice B1 (kR m) d1)).cell 0
          have s1 := ((HT.out.d.c.r.set_ 0 (.slice B1 (kR m) d1)).set_ 1 (.slice B2 k d2)).cell 1
          have HBB := Lib.hid HT.out.d.c.b0.b
          have I1 := Lib.hid i1
          have I2 := Lib.hid i2
          clear HT i1 i2
          go_wp2_with fail
          refine bodyPost_ret (v := .agg #[.slice B1 (kR m) d1, .slice B2 k d2]) (by simp at s0 s1; simp [results, Try.results38, go_sem, s0, s1]) rfl ?_
          exact ⟨_, _, _, ⟨_, rfl⟩, I1.out, I2.out, below_set (below_set HBB.out (by omega)) (by omega)⟩
end Go.Proofs.Ytljbjcnfkbmjkaa
