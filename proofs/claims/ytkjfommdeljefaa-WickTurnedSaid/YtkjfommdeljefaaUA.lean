/- WickTurned: the mathematics. -/
import Derived.Test.YtkjfommdeljefaaS6
namespace Go.Proofs.Ytkjfommdeljefaa
open Go.RowKit Go.Shelf Go.Maps
attribute [local go_sem] Oper.semAt_some


/-- The wicks in another order. -/
def rotW (ks : List Wk) (b : Nat) : List Wk := (List.range ks.length).map fun i => (ks[(i + b) % ks.length]?).getD ⟨⟨#[]⟩, 0, 0, 0⟩
def turnS (s : Sh) (b : Nat) : Sh := ⟨rotW s.ks b, s.xs, s.flo, s.fhi, s.plo, s.phi⟩
theorem rot_len (ks : List Wk) (b : Nat) : (rotW ks b).length = ks.length := by simp [rotW]
theorem rot_get {ks : List Wk} {b i : Nat} (h : i < ks.length) : (rotW ks b)[i]? = ks[(i + b) % ks.length]? := by
  have hm : (i + b) % ks.length < ks.length := Nat.mod_lt _ (by omega)
  unfold rotW
  rw [List.getElem?_map, List.getElem?_range h]
  show some ((ks[(i + b) % ks.length]?).getD _) = _
  rw [List.getElem?_eq_getElem hm]
  rfl
theorem rot_idx {i b n : Nat} (h : i < n) : (i + b) % n = if i + b % n < n then i + b % n else i + b % n - n := by
  have hb := Nat.mod_lt b (show 0 < n by omega)
  rw [Nat.add_mod, Nat.mod_eq_of_lt h]
  split
  · rename_i h2; exact Nat.mod_eq_of_lt h2
  · rename_i h2; rw [Nat.mod_eq_sub_mod (by omega), Nat.mod_eq_of_lt (by omega)]
theorem rot_inj {i j b n : Nat} (hi : i < n) (hj : j < n) (h : (i + b) % n = (j + b) % n) : i = j := by
  have hb := Nat.mod_lt b (show 0 < n by omega)
  rw [rot_idx hi, rot_idx hj] at h
  generalize b % n = r at *
  split at h <;> split at h <;> omega
theorem shop_zero {s : Sh} : shopE s = 0 ↔ boundE s = 0 ∧ (∀ i, i < s.ks.length → wickE s.ks i = 0) ∧ (∀ i, i < s.xs.length → waxE s.xs i = 0) := by
  unfold shopE checkS checkOf
  by_cases hb : boundE s = 0
  · rw [if_neg (by simpa using hb)]
    cases h1 : firstAt (wickE s.ks) s.ks.length with
    | some y =>
      constructor
      · intro h; exact absurd h (firstAt_ne h1)
      · intro h; rw [firstAt_none h.2.1] at h1; cases h1
    | none =>
      cases h2 : firstAt (waxE s.xs) s.xs.length with
      | some y =>
        constructor
        · intro h; exact absurd h (firstAt_ne h2)
        · intro h; rw [firstAt_none h.2.2] at h2; cases h2
      | none => exact ⟨fun _ => ⟨hb, firstAt_zero h1, firstAt_zero h2⟩, fun _ => rfl⟩
  · rw [if_pos hb]
    exact ⟨fun h => absurd h hb, fun h => absurd h.1 hb⟩
theorem name_zero {bef : List ByteArray} {nm : ByteArray} : nameErr bef nm = 0 ↔ nameB nm = true ∧ ∀ y ∈ bef, (y.toList == nm.toList) = false := by
  unfold nameErr
  cases hn : nameB nm with
  | false => simp
  | true =>
    cases ha : bef.any (fun y => y.toList == nm.toList) with
    | true =>
      simp only [if_true, true_and]
      constructor
      · intro h; exact absurd h (by decide)
      · intro h
        obtain ⟨y, hy, he⟩ := List.any_eq_true.1 ha
        rw [h y hy] at he; cases he
    | false =>
      simp only [if_true, true_and, Bool.false_eq_true, if_false]
      refine ⟨fun _ y hy => ?_, fun _ => trivial⟩
      cases h : y.toList == nm.toList with
      | false => rfl
      | true => rw [List.any_eq_true.2 ⟨y, hy, h⟩] at ha; cases ha
theorem wick_zero {l : List Wk} {i : Nat} {x : Wk} (hx : l[i]? = some x) : wickE l i = 0 ↔ nameErr ((l.take i).map Wk.nm) x.nm = 0 ∧ orE [rangeE 1 100 [x.th], rangeE 1 1000 [x.plo, x.phi], orderE [(x.plo, x.phi)]] = 0 := by
  simp only [wickE, hx]
  rw [orE_zero, orE_zero]
  simp
theorem wick_apart {l : List Wk} (h : ∀ i, i < l.length → wickE l i = 0) {i j : Nat} {x y : Wk} (hx : l[i]? = some x) (hy : l[j]? = some y) (hlt : i < j) : (x.nm.toList == y.nm.toList) = false := by
  have h1 := (wick_zero hy).1 (h j (List.getElem?_eq_some_iff.1 hy).1)
  refine (name_zero.1 h1.1).2 x.nm (List.mem_map.2 ⟨x, ?_, rfl⟩)
  have : (l.take j)[i]? = some x := by rw [List.getElem?_take, if_pos hlt]; exact hx
  exact List.mem_of_getElem? this
theorem turn_shop {s : Sh} {b : Nat} (h : shopE s = 0) : shopE (turnS s b) = 0 := by
  obtain ⟨h1, h2, h3⟩ := shop_zero.1 h
  refine shop_zero.2 ⟨?_, ?_, h3⟩
  · have e : (turnS s b).ks.length = s.ks.length := rot_len _ _
    unfold boundE at *
    rw [e]; exact h1
  · intro i hi
    have hi' : i < s.ks.length := by have : (turnS s b).ks.length = s.ks.length := rot_len _ _; omega
    have hm : (i + b) % s.ks.length < s.ks.length := Nat.mod_lt _ (by omega)
    obtain ⟨x, hx⟩ : ∃ x, s.ks[(i + b) % s.ks.length]? = some x := ⟨_, List.getElem?_eq_getElem hm⟩
    have hr : (rotW s.ks b)[i]? = some x := by rw [rot_get hi']; exact hx
    have hz := (wick_zero hx).1 (h2 _ hm)
    refine (wick_zero hr).2 ⟨name_zero.2 ⟨(name_zero.1 hz.1).1, fun y hy => ?_⟩, hz.2⟩
    obtain ⟨z, hz1, rfl⟩ := List.mem_map.1 hy
    obtain ⟨u, hu⟩ := List.getElem?_of_mem hz1
    rw [List.getElem?_take] at hu
    split at hu
    · rename_i hui
      have hui' : u < s.ks.length := by omega
      have hu2 : s.ks[(u + b) % s.ks.length]? = some z := by rw [← rot_get hui']; exact hu
      rcases Nat.lt_trichotomy ((u + b) % s.ks.length) ((i + b) % s.ks.length) with hl | he | hl
      · exact wick_apart h2 hu2 hx hl
      · have := rot_inj hui' hi' he; omega
      · have := wick_apart h2 hx hu2 hl
        cases hq : z.nm.toList == x.nm.toList with
        | false => rfl
        | true => rw [beq_iff_eq] at hq; rw [hq, beq_self_eq_true] at this; cases this
    · cases hu
theorem turn_okW {s : Sh} {x : Wx} {c : Cd} {b i : Nat} (h : i < s.ks.length) : okW (turnS s b) x c i = okW s x c ((i + b) % s.ks.length) := by
  unfold okW
  have e : (turnS s b).ks[i]? = s.ks[(i + b) % s.ks.length]? := rot_get h
  rw [e]
  rfl
/-- Which wicks the turned ones are, one after the other. -/
def backN (m : List Nat) (b n : Nat) : Nat → List Nat
  | 0 => []
  | K + 1 => backN m b n K ++ (m.filter (fun i => (i + b) % n == K)).map (fun _ => K)
theorem turn_fil {s : Sh} {x : Wx} {c : Cd} {b K : Nat} (hK : K < s.ks.length) : ∀ j, j ≤ s.ks.length → (suitN (turnS s b) x c j).filter (fun i => (i + b) % s.ks.length == K) = if (if b % s.ks.length ≤ K then K - b % s.ks.length else K + s.ks.length - b % s.ks.length) < j ∧ okW s x c K = true then [if b % s.ks.length ≤ K then K - b % s.ks.length else K + s.ks.length - b % s.ks.length] else []
  | 0, _ => by simp [suitN]
  | j + 1, hj => by
    have hb := Nat.mod_lt b (show 0 < s.ks.length by omega)
    have ih := turn_fil (x := x) (c := c) (b := b) hK j (by omega)
    have hi : ((j + b) % s.ks.length == K) = true ↔ j = if b % s.ks.length ≤ K then K - b % s.ks.length else K + s.ks.length - b % s.ks.length := by
      rw [beq_iff_eq, rot_idx (show j < s.ks.length by omega)]
      generalize b % s.ks.length = r at *
      split <;> split <;> omega
    have ho : j = (if b % s.ks.length ≤ K then K - b % s.ks.length else K + s.ks.length - b % s.ks.length) → okW (turnS s b) x c j = okW s x c K := fun e => by
      rw [turn_okW (by omega), beq_iff_eq.1 (hi.2 e)]
    rw [suitN, List.filter_append, ih]
    generalize (if b % s.ks.length ≤ K then K - b % s.ks.length else K + s.ks.length - b % s.ks.length) = z at *
    by_cases he : j = z
    · subst he
      rw [ho rfl]
      cases hk : okW s x c K with
      | true => simp [hi.2 rfl]
      | false => simp
    · have hf : ((j + b) % s.ks.length == K) = false := by
        cases h : (j + b) % s.ks.length == K with
        | false => rfl
        | true => exact absurd (hi.1 h) he
      have h2 : (if okW (turnS s b) x c j = true then [j] else []).filter (fun i => (i + b) % s.ks.length == K) = [] := by
        split <;> simp [hf]
      rw [h2, List.append_nil]
      have h3 : (z < j + 1 ∧ okW s x c K = true) ↔ (z < j ∧ okW s x c K = true) := by
        constructor
        · intro h; exact ⟨by omega, h.2⟩
        · intro h; exact ⟨by omega, h.2⟩
      by_cases h4 : z < j ∧ okW s x c K = true
      · rw [if_pos h4, if_pos (h3.2 h4)]
      · rw [if_neg h4, if_neg (fun h => h4 (h3.1 h))]
theorem turn_back {s : Sh} {x : Wx} {c : Cd} {b : Nat} : ∀ K, K ≤ s.ks.length → backN (suitN (turnS s b) x c s.ks.length) b s.ks.length K = suitN s x c K
  | 0, _ => rfl
  | K + 1, hK => by
    have hb := Nat.mod_lt b (show 0 < s.ks.length by omega)
    rw [backN, suitN, turn_back K (by omega), turn_fil (by omega) s.ks.length (Nat.le_refl _)]
    have hz : (if b % s.ks.length ≤ K then K - b % s.ks.length else K + s.ks.length - b % s.ks.length) < s.ks.length := by split <;> omega
    cases hk : okW s x c K with
    | true => rw [if_pos ⟨hz, rfl⟩]; simp
    | false => simp
theorem cnt_step (f : Nat → Nat) (K : Nat) : ∀ m : List Nat, (m.filter (fun i => decide (f i < K + 1))).length = (m.filter (fun i => decide (f i < K))).length + (m.filter (fun i => f i == K)).length
  | [] => rfl
  | i :: m => by
    have ih := cnt_step f K m
    simp only [List.filter_cons]
    rcases Nat.lt_trichotomy (f i) K with h | h | h
    · have e1 : decide (f i < K + 1) = true := decide_eq_true (by omega)
      have e2 : decide (f i < K) = true := decide_eq_true h
      have e3 : (f i == K) = false := by simpa using (by omega : f i ≠ K)
      simp only [e1, e2, e3, if_true, List.length_cons, Bool.false_eq_true, if_false]; omega
    · have e1 : decide (f i < K + 1) = true := decide_eq_true (by omega)
      have e2 : decide (f i < K) = false := decide_eq_false (by omega)
      have e3 : (f i == K) = true := by simpa using h
      simp only [e1, e2, e3, if_true, List.length_cons, Bool.false_eq_true, if_false]; omega
    · have e1 : decide (f i < K + 1) = false := decide_eq_false (by omega)
      have e2 : decide (f i < K) = false := decide_eq_false (by omega)
      have e3 : (f i == K) = false := by simpa using (by omega : f i ≠ K)
      simp only [e1, e2, e3, Bool.false_eq_true, if_false]; omega
theorem back_len (m : List Nat) (b n : Nat) : ∀ K, (backN m b n K).length = (m.filter (fun i => decide ((i + b) % n < K))).length
  | 0 => by
    rw [List.filter_eq_nil_iff.2 (fun i _ => by simp)]; rfl
  | K + 1 => by
    rw [backN, List.length_append, List.length_map, back_len m b n K, cnt_step]
theorem turn_len {s : Sh} {x : Wx} {c : Cd} {b : Nat} (h : 0 < s.ks.length) : (suitN (turnS s b) x c s.ks.length).length = (suitN s x c s.ks.length).length := by
  rw [← turn_back (b := b) s.ks.length (Nat.le_refl _), back_len]
  congr 1
  symm
  rw [List.filter_eq_self]
  intro i _
  exact decide_eq_true (Nat.mod_lt _ h)
end Go.Proofs.Ytkjfommdeljefaa
