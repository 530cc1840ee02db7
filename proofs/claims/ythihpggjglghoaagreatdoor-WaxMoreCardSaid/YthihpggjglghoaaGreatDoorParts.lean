/- wax.parts, Mixed: contracts. -/
import Derived.Test.YthihpggjglghoaaGreatDoorBnd
import Derived.Test.YthihpggjglghoaaGreatDoorTight
namespace Go.Proofs.YthihpggjglghoaaGreatDoor
open Go.RowKit Go.Shelf

/-- A sample that comes in: a valid table with readings. -/
structure SamIn (w : World) (pa ka ra : Option Addr) (pc kc : Nat) (t : Tab) (l : List Int) : Prop where
  tab : TabIn w pa ka pc kc t
  rds : IntsIn w ra l
  val : Valid t
  rok : readsErr l t.ps.length = 0
theorem SamIn.on {w w' : World} {pa ka ra : Option Addr} {pc kc : Nat} {t : Tab} {l : List Int} (h : SamIn w pa ka ra pc kc t l) (hb : Below w.heap.size w w') : SamIn w' pa ka ra pc kc t l := ⟨h.tab.on hb, h.rds.on hb, h.val, h.rok⟩

/-- All bounds of the parts of a in a mixture with b. -/
def bnds (t : Tab) (l : List Int) (a b : Nat) : List (Int × Int) := boundsK t.ps ((t.ks[a]?.map Kd.rs).getD []) ((t.ks[b]?.map Kd.rs).getD []) l l.length

theorem reads_len {l : List Int} {np : Int} (h : readsErr l np = 0) : (l.length : Int) = np := by
  unfold readsErr at h
  by_cases hh : (l.length : Int) ≠ np
  · rw [if_pos hh] at h; simp at h
  · omega

theorem bnds_bd {t : Tab} {l : List Int} (hV : Valid t) (hl : readsErr l t.ps.length = 0) (a b : Nat) : ∀ y ∈ bnds t l a b, (-1000000000 ≤ y.1 ∧ y.1 ≤ 1000000000) ∧ (-1000000000 ≤ y.2 ∧ y.2 ≤ 1000000000) := by
  intro y hy
  unfold bnds boundsK at hy
  rw [List.mem_flatMap] at hy
  obtain ⟨i, hi, hy⟩ := hy
  unfold boundsAt at hy
  split at hy
  · rename_i r x z p h1 h2 h3 h4
    split at hy
    · simp at hy
    · rename_i hr
      have b1 : 0 ≤ r ∧ r ≤ 100000 := by rcases reads_ok hl r (List.mem_of_getElem? h1) with h | h; exact absurd h hr; exact h
      have b2 := hV.er p (List.mem_of_getElem? h4)
      have sp : ∀ (c : Nat) (q : Int × Int), ((t.ks[c]?.map Kd.rs).getD [])[i]? = some q → 0 ≤ q.1 ∧ q.1 ≤ q.2 ∧ q.2 ≤ 100000 := fun c q hq => by
        cases hc : t.ks[c]? with
        | none => rw [hc] at hq; simp at hq
        | some k => rw [hc] at hq; exact hV.rs k (List.mem_of_getElem? hc) q (List.mem_of_getElem? (by simpa using hq))
      have b3 := sp a x h2
      have b4 := sp b z h3
      simp only [bound2, List.mem_cons, List.not_mem_nil, or_false] at hy
      rcases hy with rfl | rfl <;> dsimp only <;> omega
  · simp at hy

theorem flatMap_le {α : Type} (f : Nat → List α) (m : Nat) (hf : ∀ i, (f i).length ≤ m) : ∀ k, ((List.range k).flatMap f).length ≤ m * k := by
  intro k
  induction k with
  | zero => simp
  | succ k ih =>
    rw [List.range_succ, List.flatMap_append]
    simp only [List.length_append, List.flatMap_cons, List.flatMap_nil, List.append_nil]
    have := hf k
    rw [Nat.mul_succ]
    omega
theorem boundsAt_len (ps : List Pr) (xa xb : List (Int × Int)) (l : List Int) (i : Nat) : (boundsAt ps xa xb l i).length ≤ 2 := by
  unfold boundsAt
  split
  · split
    · simp
    · simp [bound2]
  · simp
theorem bnds_len {t : Tab} {l : List Int} (hV : Valid t) (hl : readsErr l t.ps.length = 0) (a b : Nat) : (bnds t l a b).length ≤ 1000 := by
  have h := flatMap_le (boundsAt t.ps ((t.ks[a]?.map Kd.rs).getD []) ((t.ks[b]?.map Kd.rs).getD []) l) 2 (boundsAt_len _ _ _ _) l.length
  have h2 := reads_len hl
  have h3 := hV.np
  unfold bnds boundsK
  omega

theorem bounds_in {w : World} {pa ka ra : Option Addr} {pc kc rc : Nat} {t : Tab} {l : List Int} (h : SamIn w pa ka ra pc kc t l) (a b : Nat) (ha : a < t.ks.length) (hb : b < t.ks.length) :
    Calls Tryz.prog 59 #[.agg #[.slice pa t.ps.length pc, .slice ka t.ks.length kc, .int .i64 t.pu, .slice ra l.length rc], .int .i64 a, .int .i64 b] w (BndsPost w (bnds t l a b)) := by
  have := bounds_any (rc := rc) h.tab h.rds h.val h.rok a b t.ks[a] t.ks[b] (List.getElem?_eq_getElem ha) (List.getElem?_eq_getElem hb)
  unfold bnds
  rw [List.getElem?_eq_getElem ha, List.getElem?_eq_getElem hb]
  exact this

/-- .. with the list taken apart. -/
def BndsPost' (w : World) (bs : List (Int × Int)) (e : Ending) (w' : World) : Prop := ∃ A c, e = .returned (.slice A bs.length c) ∧ Bnds w' w.heap.size (.slice A bs.length c) bs ∧ Below w.heap.size w w'
theorem BndsPost.apart {w : World} {bs : List (Int × Int)} {e : Ending} {w' : World} (h : BndsPost w bs e w') : BndsPost' w bs e w' := by
  obtain ⟨v, rfl, ⟨xs, ho, hc⟩, hb⟩ := h
  rcases ho.2 with ⟨rfl, h0⟩ | ⟨g, cap, cur, rfl, r⟩
  · refine ⟨none, 0, by rw [h0], ⟨xs, ?_, hc⟩, hb⟩
    rw [h0]; rw [h0] at ho; exact ho
  · exact ⟨some ⟨g, 0, none⟩, cap, rfl, ⟨xs, ho, hc⟩, hb⟩

/-- What parts returns. -/
def partsV (t : Tab) (l : List Int) (a b : Nat) : Int × Int := tightL (bnds t l a b) (if a = b then (1000, 1000) else (1, 999))

set_option maxRecDepth 100000 in
set_option maxHeartbeats 1000000 in
theorem parts_any {w : World} {pa ka ra : Option Addr} {pc kc rc : Nat} {t : Tab} {l : List Int} (h : SamIn w pa ka ra pc kc t l) (a b : Nat) (ha : a < t.ks.length) (hb : b < t.ks.length) :
    Calls Tryz.prog 69 #[.agg #[.slice pa t.ps.length pc, .slice ka t.ks.length kc, .int .i64 t.pu, .slice ra l.length rc], .int .i64 a, .int .i64 b] w fun e w' => e = .returned (.agg #[.int .i64 (partsV t l a b).1, .int .i64 (partsV t l a b).2]) ∧ Below w.heap.size w w' := by
  have H := Lib.hid (fun (W : World) (hB : Below w.heap.size w W) => bounds_in (rc := rc) (h.on hB) a b ha hb)
  have HT := Lib.hid (fun (W : World) (B : Nat) (A : Option Addr) (c : Nat) (p : Int × Int) (hB : Bnds W B (.slice A (bnds t l a b).length c) (bnds t l a b)) (hp : -1000000000 ≤ p.1 ∧ p.1 ≤ 1000000000) => tighten_any p hB (bnds_len h.val h.rok a b) hp (bnds_bd h.val h.rok a b))
  have h1 := h.tab.tab.lp
  have h2 := h.tab.tab.lk
  have h3 := h.rds.len
  unfold partsV
  generalize bnds t l a b = bs at *
  clear h
  by_cases hab : a = b
  · subst hab
    rw [if_pos rfl]
    have HC := Lib.hid ((H.out (((w.alloc (.cells #[.slice pa t.ps.length pc, .slice ka t.ks.length kc, .int .i64 t.pu, .slice ra l.length rc] 57)).alloc (.cells #[.int .i64 0, .int .i64 0] 43)).alloc (.cells #[.int .i64 1000, .int .i64 1000] 43)).drew (((((Below.refl _ w).alloc (Nat.le_refl _) _).alloc (by simp) _).alloc (by simp; omega) _).drew)).mono fun _ _ h => h.apart)
    clear H
    go_enter Tryz.func69, Tryz.ntmps69
    go_wp2_with fail
    go_region_held3 (fun w' => w'.cell? ⟨w.heap.size, 0, none⟩ = some (.slice pa t.ps.length pc) ∧ w'.cell? ⟨w.heap.size, 1, none⟩ = some (.slice ka t.ks.length kc) ∧ w'.cell? ⟨w.heap.size, 2, none⟩ = some (.int .i64 t.pu) ∧ w'.cell? ⟨w.heap.size, 3, none⟩ = some (.slice ra l.length rc) ∧ w'.cell? ⟨w.heap.size + 1 + 1, 0, none⟩ = some (.int .i64 1000) ∧ w'.cell? ⟨w.heap.size + 1 + 1, 1, none⟩ = some (.int .i64 1000))
      (first | (simp [*]; done) | (simp [go_sem, *]; done))
      (first | (go_at_call 59; refine HC.out.mono ?_; rintro e w1 ⟨A, c, rfl, hB, hb1⟩; have hk1 := kept_of hb1; have q0 := hk1 ⟨w.heap.size + 1, 0, none⟩ (.int .i64 0) (by simp [go_sem]); have q1 := hk1 ⟨w.heap.size + 1, 1, none⟩ (.int .i64 0) (by simp [go_sem]); have hl1 : w.heap.size + 1 < w1.heap.size := Nat.lt_of_lt_of_le (by simp) hb1.size; have z0 : w1.frozen? ⟨w.heap.size + 1, 0, none⟩ = false := (hb1.frozen (p := ⟨w.heap.size + 1, 0, none⟩) (by simp)).trans (by simp [go_sem]); have z1 : w1.frozen? ⟨w.heap.size + 1, 1, none⟩ = false := (hb1.frozen (p := ⟨w.heap.size + 1, 1, none⟩) (by simp)).trans (by simp [go_sem])) | (go_at_call 58; refine (HT.out w1 _ A c (1000, 1000) hB (by decide)).mono ?_; rintro e w2 ⟨rfl, hb2⟩; have hk2 := kept_of hb2; have q2 := hk2 _ _ q0; have q3 := hk2 _ _ q1; have z2 := (hb2.frozen (p := ⟨w.heap.size + 1, 0, none⟩) hl1).trans z0; have z3 := (hb2.frozen (p := ⟨w.heap.size + 1, 1, none⟩) hl1).trans z1))
    go_wp2_with fail
    have hbw : Below w.heap.size w w2 := ((((((Below.refl _ w).alloc (Nat.le_refl _) _).alloc (by simp) _).alloc (by simp; omega) _).drew).trans (hb1.mono (by simp; omega))).trans (hb2.mono (by omega))
    refine bodyPost_ret (v := .agg #[.int .i64 (tightL bs (1000, 1000)).1, .int .i64 (tightL bs (1000, 1000)).2]) ?_ rfl ⟨rfl, by repeat (first | exact hbw | refine Below.setCell ?_ (by simp) _)⟩
    simp [results, Tryz.results69, go_sem, *]
  · rw [if_neg hab]
    have hab' : ((a : Int) == (b : Int)) = false := by simp; omega
    clear hab
    have HC := Lib.hid ((H.out (((w.alloc (.cells #[.slice pa t.ps.length pc, .slice ka t.ks.length kc, .int .i64 t.pu, .slice ra l.length rc] 57)).alloc (.cells #[.int .i64 0, .int .i64 0] 43)).alloc (.cells #[.int .i64 1, .int .i64 999] 43)).drew (((((Below.refl _ w).alloc (Nat.le_refl _) _).alloc (by simp) _).alloc (by simp; omega) _).drew)).mono fun _ _ h => h.apart)
    clear H
    go_enter Tryz.func69, Tryz.ntmps69
    go_wp2_with fail
    go_region_held3 (fun w' => w'.cell? ⟨w.heap.size, 0, none⟩ = some (.slice pa t.ps.length pc) ∧ w'.cell? ⟨w.heap.size, 1, none⟩ = some (.slice ka t.ks.length kc) ∧ w'.cell? ⟨w.heap.size, 2, none⟩ = some (.int .i64 t.pu) ∧ w'.cell? ⟨w.heap.size, 3, none⟩ = some (.slice ra l.length rc) ∧ w'.cell? ⟨w.heap.size + 1 + 1, 0, none⟩ = some (.int .i64 1) ∧ w'.cell? ⟨w.heap.size + 1 + 1, 1, none⟩ = some (.int .i64 999))
      (first | (simp [*]; done) | (simp [go_sem, *]; done))
      (first | (go_at_call 59; refine HC.out.mono ?_; rintro e w1 ⟨A, c, rfl, hB, hb1⟩; have hk1 := kept_of hb1; have q0 := hk1 ⟨w.heap.size + 1, 0, none⟩ (.int .i64 0) (by simp [go_sem]); have q1 := hk1 ⟨w.heap.size + 1, 1, none⟩ (.int .i64 0) (by simp [go_sem]); have hl1 : w.heap.size + 1 < w1.heap.size := Nat.lt_of_lt_of_le (by simp) hb1.size; have z0 : w1.frozen? ⟨w.heap.size + 1, 0, none⟩ = false := (hb1.frozen (p := ⟨w.heap.size + 1, 0, none⟩) (by simp)).trans (by simp [go_sem]); have z1 : w1.frozen? ⟨w.heap.size + 1, 1, none⟩ = false := (hb1.frozen (p := ⟨w.heap.size + 1, 1, none⟩) (by simp)).trans (by simp [go_sem])) | (go_at_call 58; refine (HT.out w1 _ A c (1, 999) hB (by decide)).mono ?_; rintro e w2 ⟨rfl, hb2⟩; have hk2 := kept_of hb2; have q2 := hk2 _ _ q0; have q3 := hk2 _ _ q1; have z2 := (hb2.frozen (p := ⟨w.heap.size + 1, 0, none⟩) hl1).trans z0; have z3 := (hb2.frozen (p := ⟨w.heap.size + 1, 1, none⟩) hl1).trans z1))
    go_wp2_with fail
    have hbw : Below w.heap.size w w2 := ((((((Below.refl _ w).alloc (Nat.le_refl _) _).alloc (by simp) _).alloc (by simp; omega) _).drew).trans (hb1.mono (by simp; omega))).trans (hb2.mono (by omega))
    refine bodyPost_ret (v := .agg #[.int .i64 (tightL bs (1, 999)).1, .int .i64 (tightL bs (1, 999)).2]) ?_ rfl ⟨rfl, by repeat (first | exact hbw | refine Below.setCell ?_ (by simp) _)⟩
    simp [results, Tryz.results69, go_sem, *]
end Go.Proofs.YthihpggjglghoaaGreatDoor
