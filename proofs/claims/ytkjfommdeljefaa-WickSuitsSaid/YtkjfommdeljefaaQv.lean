/- A region that draws its order, makes blocks of its own and stores into them, or into blocks that are known: what each operation leaves, and what each block holds by whether it has been stored into. -/
import Derived.Test.YtkjfommdeljefaaGb
namespace Go.Proofs.Ytkjfommdeljefaa
open Go.RowKit Go.Shelf

def setL (L : Nat → Bool) (i : Nat) : Nat → Bool := fun j => if j = i then true else L j
theorem setL_same (L : Nat → Bool) (i : Nat) : setL L i i = true := by simp [setL]
theorem setL_other (L : Nat → Bool) {i j : Nat} (h : j ≠ i) : setL L i j = L j := by simp [setL, h]
theorem grown_one (W : World) (b i : Nat) (v : Value) : W.grownBy (W.setCell ⟨b, i, none⟩ v) (some b) :=
  ⟨rfl, rfl, rfl, by simp, fun k _ hk => by
    have hne : k ≠ b := fun e => hk (by rw [e])
    exact Below.heap_setCell W ⟨b, i, none⟩ v k (fun e => hne e)⟩
theorem grown_then {a b c : World} {r : Option Nat} (h : a.grownBy b r) (k : b.grownBy c r) : a.grownBy c r :=
  ⟨k.os.trans h.os, k.tape.trans h.tape, k.output.trans h.output, Nat.le_trans h.size k.size, fun i hi hr => (k.block i (Nat.lt_of_lt_of_le hi h.size) hr).trans (h.block i hi hr)⟩
theorem grown_more {W w : World} {b : Nat} (h : W.grownBy w (some b)) (i : Nat) (v : Value) : W.grownBy (w.setCell ⟨b, i, none⟩ v) (some b) := grown_then h (grown_one w b i v)
/-- A block: of which operation (or which one, where it was there), where it is stored into, what it holds ahead of that and behind. -/
structure Vr where
  a : Option Nat
  g : Nat
  st : Nat
  T : TypeId
  old : Array Value
  new : Array Value
def VrIs (N : Nat) (L : Nat → Bool) (u : Nat → Value) (q : Vr) (G : Nat) : Prop := match q.a with
  | none => G = q.g ∧ G < N
  | some a => L a = true ∧ u a = .pointer (some ⟨G, 0, none⟩) ∧ N ≤ G
def VrOk (N : Nat) (L : Nat → Bool) (u : Nat → Value) (w : World) (q : Vr) : Prop :=
  (∀ a, q.a = some a → L a = true → ∃ G, u a = .pointer (some ⟨G, 0, none⟩) ∧ N ≤ G) ∧ ∀ G, VrIs N L u q G → Blk w G q.T (if L q.st = true then q.new else q.old)
structure VrsOk (N : Nat) (L : Nat → Bool) (u : Nat → Value) (w : World) (l : List Vr) : Prop where
  ok : ∀ q ∈ l, VrOk N L u w q
  ne : ∀ q ∈ l, ∀ r ∈ l, q.st ≠ r.st → ∀ G, VrIs N L u q G → ¬ VrIs N L u r G
/-- The places of the stores and of the allocations. -/
def stores (l : List Vr) : List Nat := l.map (·.st)
def allocs (l : List Vr) : List Nat := l.filterMap (·.a)

theorem st_inj : ∀ (l : List Vr), (stores l).Nodup → ∀ x ∈ l, ∀ y ∈ l, x.st = y.st → x = y
  | [], _, x, hx, _, _, _ => by cases hx
  | a :: l, h, x, hx, y, hy, e => by
    have h' : (a.st :: stores l).Nodup := h
    rw [List.nodup_cons] at h'
    rcases List.mem_cons.1 hx with rfl | hx2
    · rcases List.mem_cons.1 hy with rfl | hy2
      · rfl
      · exact absurd (show x.st ∈ stores l from List.mem_map.2 ⟨y, hy2, e.symm⟩) h'.1
    · rcases List.mem_cons.1 hy with rfl | hy2
      · exact absurd (show y.st ∈ stores l from List.mem_map.2 ⟨x, hx2, e⟩) h'.1
      · exact st_inj l h'.2 x hx2 y hy2 e
theorem al_inj : ∀ (l : List Vr), (allocs l).Nodup → ∀ x ∈ l, ∀ y ∈ l, ∀ i, x.a = some i → y.a = some i → x = y
  | [], _, x, hx, _, _, _, _, _ => by cases hx
  | a :: l, h, x, hx, y, hy, i, e, e2 => by
    have h' : (allocs l).Nodup ∧ ∀ j, a.a = some j → j ∉ allocs l := by
      unfold allocs at h ⊢
      rw [List.filterMap_cons] at h
      split at h
      · rename_i h3; exact ⟨h, fun j h4 => by rw [h3] at h4; cases h4⟩
      · rename_i b h3
        rw [List.nodup_cons] at h
        exact ⟨h.2, fun j h4 => by rw [h3] at h4; cases h4; exact h.1⟩
    rcases List.mem_cons.1 hx with rfl | hx2
    · rcases List.mem_cons.1 hy with rfl | hy2
      · rfl
      · exact absurd (show i ∈ allocs l from List.mem_filterMap.2 ⟨y, hy2, e2⟩) (h'.2 i e)
    · rcases List.mem_cons.1 hy with rfl | hy2
      · exact absurd (show i ∈ allocs l from List.mem_filterMap.2 ⟨x, hx2, e⟩) (h'.2 i e2)
      · exact al_inj l h'.1 x hx2 y hy2 i e e2
section
variable {P : Program} {ops : Array Oper} {Q : Exit → Act → World → Prop} {md : Region.Mode} {n : Nat}
theorem getD_setL {listed : Array Bool} {i : Nat} (hi : i < listed.size) : (fun j => (listed.setIfInBounds i true).getD j false) = setL (fun j => listed.getD j false) i := by
  funext j
  rw [getD_set]
  unfold setL
  by_cases h : j = i
  · rw [if_pos ⟨h, hi⟩, if_pos h]
  · rw [if_neg (fun h2 => h h2.1), if_neg h]
theorem wpAny_spec4 (hn : ops.size = n) (fr : (Nat → Value) → Act) (I : (Nat → Bool) → (Nat → Value) → World → Prop)
    (hd : ∀ i, i < n → ∀ j ∈ waits md ops i, j < i)
    (step : ∀ i, i < n → ∀ (L : Nat → Bool) (u : Nat → Value) (w : World), I L u w → L i = false → (∀ j, j < n → L j = true → ∀ k ∈ waits md ops j, L k = true) → (∀ j ∈ waits md ops i, L j = true) →
      wpOp P ops Q i (fun a' w' => ∃ v, a' = fr (u1 u i v) ∧ I (setL L i) (u1 u i v) w') (fr u) w)
    (done : ∀ L u w, (∀ j, j < n → L j = true) → I L u w → Q .normal (fr u) w) :
    ∀ (fuel : Nat) (listed : Array Bool) (u : Nat → Value) (w : World), listed.size = n → unl listed ≤ fuel → I (fun j => listed.getD j false) u w → (∀ j, j < n → listed.getD j false = true → ∀ k ∈ waits md ops j, listed.getD k false = true) →
      wpAny P md ops Q fuel listed (fr u) w := by
  have hsame : ∀ (listed : Array Bool), listed.size = n → ∀ j, j < n → listed.getD j true = listed.getD j false := by
    intro listed hl j hj
    rw [Array.getD_eq_getD_getElem?, Array.getD_eq_getD_getElem?, Array.getElem?_eq_getElem (by omega)]; rfl
  have hnil : ∀ (listed : Array Bool), listed.size = n → Region.ready md ops listed = [] → ∀ j, j < n → listed.getD j false = true := by
    intro listed hl hr j
    induction j using Nat.strongRecOn with
    | _ j ih =>
      intro hj
      cases hb : listed.getD j false with
      | true => rfl
      | false =>
        have hmem : j ∈ Region.ready md ops listed := (ready_iff listed (by omega) j).2 ⟨by omega, by rw [hsame listed hl j hj, hb], fun k hk => ih k (hd j hj k hk) (by have := hd j hj k hk; omega)⟩
        rw [hr] at hmem; cases hmem
  intro fuel
  induction fuel with
  | zero =>
    intro listed u w hl hf hI hC
    have hall : ∀ j, j < n → listed.getD j false = true := fun j hj => by rw [← hsame listed hl j hj]; exact unl_zero (by omega) (by omega)
    refine ⟨?_, done _ u w hall hI⟩
    cases hr : Region.ready md ops listed with
    | nil => rfl
    | cons i rs =>
      have hmem : i ∈ Region.ready md ops listed := by rw [hr]; simp
      obtain ⟨h1, h2, -⟩ := (ready_iff listed (by omega) i).1 hmem
      rw [hsame listed hl i (by omega), hall i (by omega)] at h2; cases h2
  | succ fuel ih =>
    intro listed u w hl hf hI hC
    refine ⟨fun hr => done _ u w (hnil listed hl hr) hI, fun i hi => ?_⟩
    obtain ⟨h1, h2, h3⟩ := (ready_iff listed (by omega) i).1 hi
    have hin : i < n := by omega
    have h4 : listed.getD i false = false := by rw [← hsame listed hl i hin]; exact h2
    refine wpOp_mono ?_ (step i hin _ u w hI h4 hC h3)
    rintro a' w' ⟨v, rfl, hI'⟩
    refine ih _ _ _ (by simpa using hl) (by have := unl_set (by omega) h2; omega) (by rw [getD_setL (by omega)]; exact hI') ?_
    intro j hj hlj k hk2
    have hk3 : listed.getD k false = true := by
      by_cases hji : j = i
      · subst hji; exact h3 k hk2
      · rw [getD_set, if_neg (by rintro ⟨h, -⟩; exact hji h)] at hlj
        exact hC j hj hlj k hk2
    rw [getD_set]
    split
    · rfl
    · exact hk3
theorem vrIs_u1 {N : Nat} {L : Nat → Bool} {u : Nat → Value} {q : Vr} {i : Nat} (_hi : L i = false) (v : Value) {G : Nat} (ha : q.a ≠ some i) : VrIs N (setL L i) (u1 u i v) q G ↔ VrIs N L u q G := by
  unfold VrIs
  cases h : q.a with
  | none => simp
  | some a =>
    have hne : a ≠ i := fun e => ha (by rw [h, e])
    simp only [setL_other _ hne, u1_other _ _ hne]
/-- A step that is no allocation and no store leaves the blocks. -/
theorem VrsOk.step {N : Nat} {L : Nat → Bool} {u : Nat → Value} {w w' : World} {l : List Vr} (h : VrsOk N L u w l) {i : Nat} (hi : L i = false) (v : Value) (ha : ∀ q ∈ l, q.a ≠ some i) (hs : ∀ q ∈ l, q.st ≠ i) (hb : Below w.heap.size w w') : VrsOk N (setL L i) (u1 u i v) w' l := by
  refine ⟨fun q hq => ⟨fun a e hl => ?_, fun G hG => ?_⟩, fun q hq r hr hne G h1 h2 => h.ne q hq r hr hne G ((vrIs_u1 hi v (ha q hq)).1 h1) ((vrIs_u1 hi v (ha r hr)).1 h2)⟩
  · have hne : a ≠ i := fun e2 => ha q hq (by rw [e, e2])
    rw [setL_other _ hne] at hl
    rw [u1_other _ _ hne]
    exact (h.ok q hq).1 a e hl
  · rw [setL_other _ (hs q hq)]
    exact ((h.ok q hq).2 G ((vrIs_u1 hi v (ha q hq)).1 hG)).on hb
/-- An allocation. -/
theorem VrsOk.made {N : Nat} {L : Nat → Bool} {u : Nat → Value} {w : World} {l : List Vr} (h : VrsOk N L u w l) {q : Vr} {i : Nat} (_hq : q ∈ l) (hqa : q.a = some i) (hi : L i = false) (hst : L q.st = false) (hN : N ≤ w.heap.size)
    (huniq : ∀ r ∈ l, r.a = some i → r = q) (hs : ∀ r ∈ l, r.st ≠ i) :
    VrsOk N (setL L i) (u1 u i (.pointer (some ⟨w.heap.size, 0, none⟩))) (w.alloc (.cells q.old q.T)) l := by
  have hb : Below w.heap.size w (w.alloc (.cells q.old q.T)) := (Below.refl _ w).alloc (Nat.le_refl _) _
  have hlt : ∀ r ∈ l, ∀ G, VrIs N L u r G → G < w.heap.size := fun r hr G hG => ((h.ok r hr).2 G hG).lt
  have hnew : ∀ r ∈ l, r.a = some i → ∀ G, VrIs N (setL L i) (u1 u i (.pointer (some ⟨w.heap.size, 0, none⟩))) r G → G = w.heap.size := by
    intro r hr hra G hG
    unfold VrIs at hG
    rw [hra] at hG
    have := hG.2.1
    rw [u1_same] at this
    simp at this
    exact this.symm
  refine ⟨fun r hr => ⟨fun a e hl => ?_, fun G hG => ?_⟩, fun r hr s hs2 hne G h1 h2 => ?_⟩
  · by_cases hai : a = i
    · subst hai
      rw [u1_same]
      exact ⟨_, rfl, hN⟩
    · rw [setL_other _ hai] at hl
      rw [u1_other _ _ hai]
      exact (h.ok r hr).1 a e hl
  · rw [setL_other _ (hs r hr)]
    by_cases hra : r.a = some i
    · obtain rfl := huniq r hr hra
      obtain rfl := hnew r hr hra G hG
      rw [if_neg (by rw [hst]; simp)]
      exact Blk.new w _ _
    · exact ((h.ok r hr).2 G ((vrIs_u1 hi _ hra).1 hG)).on hb
  · by_cases hra : r.a = some i
    · obtain rfl := huniq r hr hra
      have e1 := hnew r hr hra G h1
      by_cases hsa : s.a = some i
      · exact hne (by rw [huniq s hs2 hsa])
      · have := hlt s hs2 G ((vrIs_u1 hi _ hsa).1 h2)
        omega
    · by_cases hsa : s.a = some i
      · have e1 := hnew s hs2 hsa G h2
        have := hlt r hr G ((vrIs_u1 hi _ hra).1 h1)
        omega
      · exact h.ne r hr s hs2 hne G ((vrIs_u1 hi _ hra).1 h1) ((vrIs_u1 hi _ hsa).1 h2)
/-- A store. -/
theorem VrsOk.put {N : Nat} {L : Nat → Bool} {u : Nat → Value} {w w' : World} {l : List Vr} (h : VrsOk N L u w l) {q : Vr} (hq : q ∈ l) {G : Nat} (hG : VrIs N L u q G) (hi : L q.st = false) (v : Value)
    (huniq : ∀ r ∈ l, r.st = q.st → r = q) (ha : ∀ r ∈ l, r.a ≠ some q.st) (hn : Blk w' G q.T q.new) (hg : w.grownBy w' (some G)) : VrsOk N (setL L q.st) (u1 u q.st v) w' l := by
  refine ⟨fun r hr => ⟨fun a e hl => ?_, fun G' hG' => ?_⟩, fun r hr s hs hne G' h1 h2 => h.ne r hr s hs hne G' ((vrIs_u1 hi v (ha r hr)).1 h1) ((vrIs_u1 hi v (ha s hs)).1 h2)⟩
  · have hne : a ≠ q.st := fun e2 => ha r hr (by rw [e, e2])
    rw [setL_other _ hne] at hl
    rw [u1_other _ _ hne]
    exact (h.ok r hr).1 a e hl
  · have h2 := (vrIs_u1 hi v (ha r hr)).1 hG'
    by_cases hst : r.st = q.st
    · obtain rfl := huniq r hr hst
      rw [setL_same, if_pos rfl]
      have : G' = G := by
        unfold VrIs at h2 hG
        cases hra : r.a with
        | none => rw [hra] at h2 hG; exact h2.1.trans hG.1.symm
        | some a =>
          rw [hra] at h2 hG
          have e := h2.2.1.symm.trans hG.2.1
          simpa using e
      rw [this]
      exact hn
    · rw [setL_other _ hst]
      have hb := (h.ok r hr).2 G' h2
      refine (hg.block G' hb.lt (fun e => ?_)).trans hb
      have : G' = G := by simpa using e
      subst this
      exact h.ne r hr q hq hst G' h2 hG
theorem wp_region_vars {id : Nat} {a : Act} {w : World} (hm : P.follows .mixedOrders = true) (n : Nat) (hn : ops.size = n) (fr : (Nat → Value) → Act) (u0 : Nat → Value) (S : World → Prop) (F : Nat → Value → Prop) (N : Nat) (l : List Vr) (al sl : List Nat) (hal : allocs l = al) (hsl : stores l = sl)
    (ha : a = fr u0) (hS : S w.drew) (hV : VrsOk N (fun _ => false) u0 w.drew l) (hN : ∀ w, S w → N ≤ w.heap.size) (hgN : ∀ q ∈ l, q.a = none → q.g < N)
    (hd : ∀ i, i < n → ∀ j ∈ waits .any ops i, j < i)
    (hon : ∀ w w', S w → Below w.heap.size w w' → S w')
    (hput : ∀ w w' G, S w → w.grownBy w' (some G) → (N ≤ G ∨ ∃ q ∈ l, q.a = none ∧ G = q.g) → S w')
    (hA : ∀ q ∈ l, ∀ i, q.a = some i → i ∈ waits .any ops q.st ∧ ∀ (u : Nat → Value) (w : World), S w → ∀ K : Act → World → Prop, K (fr (u1 u i (.pointer (some ⟨w.heap.size, 0, none⟩)))) (w.alloc (.cells q.old q.T)) → wpOp P ops Q i K (fr u) w)
    (hP : ∀ q ∈ l, ∀ (u : Nat → Value) (w : World), S w → (∀ j ∈ waits .any ops q.st, j ∉ al → j ∉ sl → F j (u j)) → ∀ G, VrIs N (fun _ => true) u q G → Blk w G q.T q.old → ∀ K : Act → World → Prop, (∀ w', Blk w' G q.T q.new → w.grownBy w' (some G) → K (fr (u1 u q.st undef)) w') → wpOp P ops Q q.st K (fr u) w)
    (h1 : sl.Nodup) (h2 : al.Nodup) (h3 : ∀ i ∈ al, i ∉ sl) (h4 : ∀ i ∈ al, i < n) (h5 : ∀ i ∈ sl, i < n)
    (step : ∀ i, i < n → i ∉ al → i ∉ sl → ∀ u w, S w → (∃ L, VrsOk N L u w l) → (∀ j ∈ waits .any ops i, j ∉ al → j ∉ sl → F j (u j)) →
      ∀ K : Act → World → Prop, (∀ v w', F i v → S w' → Below w.heap.size w w' → K (fr (u1 u i v)) w') → wpOp P ops Q i K (fr u) w)
    (done : ∀ L u w, (∀ j, j < n → L j = true) → S w → (∀ j, j < n → j ∉ al → j ∉ sl → F j (u j)) → VrsOk N L u w l → Q .normal (fr u) w) : (Code.region id ops true).wp P Q a w := by
  subst ha
  subst hal
  subst hsl
  refine wp_region_any hm ?_
  have h0 : (fun j => (Array.replicate ops.size false).getD j false) = fun _ => false := by
    funext j
    rw [Array.getD_eq_getD_getElem?, Array.getElem?_replicate]
    split <;> rfl
  have hms : ∀ q ∈ l, q.st ∈ stores l := fun q hq => List.mem_map.2 ⟨q, hq, rfl⟩
  have hma : ∀ q ∈ l, ∀ i, q.a = some i → i ∈ allocs l := fun q hq i e => List.mem_filterMap.2 ⟨q, hq, e⟩
  have hus : ∀ q ∈ l, ∀ r ∈ l, r.st = q.st → r = q := fun q hq r hr e => st_inj l h1 r hr q hq e
  have hua : ∀ q ∈ l, ∀ r ∈ l, ∀ i, q.a = some i → r.a = some i → r = q := fun q hq r hr i e e2 => al_inj l h2 r hr q hq i e2 e
  refine wpAny_spec4 hn fr (fun L u w => S w ∧ (∀ j, j < n → j ∉ allocs l → j ∉ stores l → L j = true → F j (u j)) ∧ VrsOk N L u w l) hd ?_ (fun L u w hL hI => done L u w hL hI.1 (fun j hj ha hs => hI.2.1 j hj ha hs (hL j hj)) hI.2.2) _ _ _ _ (by simpa using hn) ?_ (by rw [h0]; exact ⟨hS, fun j _ _ _ h => (by cases h), hV⟩) ?_
  · intro i hi L u w hI hLi hC hW
    obtain ⟨iS, iF, iV⟩ := hI
    have hF' : ∀ (j : Nat), j < n → j ∉ allocs l → j ∉ stores l → ∀ v, (j = i → F i v) → setL L i j = true → F j (u1 u i v j) := by
      intro j hj ha hs v hv hl
      by_cases hji : j = i
      · subst hji; rw [u1_same]; exact hv rfl
      · rw [u1_other _ _ hji]
        rw [setL_other _ hji] at hl
        exact iF j hj ha hs hl
    by_cases hia : i ∈ allocs l
    · obtain ⟨q, hq, hqa⟩ := List.mem_filterMap.1 hia
      obtain ⟨hw, hstep⟩ := hA q hq i hqa
      have hst : L q.st = false := by
        cases h : L q.st with
        | false => rfl
        | true =>
          have := hC q.st (h5 _ (hms q hq)) h i hw
          rw [hLi] at this; cases this
      refine hstep u w iS _ ⟨_, rfl, hon _ _ iS ((Below.refl _ w).alloc (Nat.le_refl _) _), fun j hj ha hs hl => hF' j hj ha hs _ (fun e => absurd (e ▸ hia) ha) hl, ?_⟩
      exact iV.made hq hqa hLi hst (hN w iS) (fun r hr hra => hua q hq r hr i hqa hra) (fun r hr e => h3 i hia (e ▸ hms r hr))
    · by_cases his : i ∈ stores l
      · obtain ⟨q, hq, rfl⟩ := List.mem_map.1 his
        have hFd : ∀ j ∈ waits .any ops q.st, j ∉ allocs l → j ∉ stores l → F j (u j) := fun j hj ha hs => iF j (by have := hd _ hi j hj; omega) ha hs (hW j hj)
        obtain ⟨G, hG⟩ : ∃ G, VrIs N L u q G := by
          unfold VrIs
          cases hqa : q.a with
          | none =>
            exact ⟨q.g, rfl, hgN q hq hqa⟩
          | some a =>
            have hla := hW a (hA q hq a hqa).1
            obtain ⟨G, e, hle⟩ := (iV.ok q hq).1 a hqa hla
            exact ⟨G, hla, e, hle⟩
        have hG' : VrIs N (fun _ => true) u q G := by
          unfold VrIs at hG ⊢
          cases hqa : q.a with
          | none => rw [hqa] at hG; exact hG
          | some a => rw [hqa] at hG; exact ⟨rfl, hG.2⟩
        have hb := (iV.ok q hq).2 G hG
        rw [if_neg (by rw [hLi]; simp)] at hb
        refine hP q hq u w iS hFd G hG' hb _ fun w' hn' hg => ⟨_, rfl, hput _ _ G iS hg ?_, fun j hj ha hs hl => hF' j hj ha hs _ (fun e => absurd (e ▸ his) hs) hl, ?_⟩
        · unfold VrIs at hG
          cases hqa : q.a with
          | none => rw [hqa] at hG; exact .inr ⟨q, hq, hqa, hG.1⟩
          | some a => rw [hqa] at hG; exact .inl hG.2.2
        · exact iV.put hq hG hLi _ (fun r hr e => hus q hq r hr e) (fun r hr e => h3 q.st (hma r hr _ e) his) hn' hg
      · refine step i hi hia his u w iS ⟨L, iV⟩ (fun j hj ha hs => iF j (by have := hd _ hi j hj; omega) ha hs (hW j hj)) _ fun v w' hv hS' hb => ⟨v, rfl, hS', fun j hj ha hs hl => hF' j hj ha hs v (fun _ => hv) hl, ?_⟩
        exact iV.step hLi v (fun q hq e => hia (hma q hq i e)) (fun q hq e => his (e ▸ hms q hq)) hb
  · unfold unl
    exact Nat.le_trans List.countP_le_length (by simp)
  · intro j hj h
    rw [Array.getD_eq_getD_getElem?, Array.getElem?_replicate] at h
    split at h <;> simp at h
end
end Go.Proofs.Ytkjfommdeljefaa
