/- wax.open, look: contracts; what a valid table is. -/
import Derived.Test.YthihpggjglghoaaGreatDoorSmp
namespace Go.Proofs.YthihpggjglghoaaGreatDoor
open Go.RowKit Go.Shelf

theorem firstAt_zero {f : Nat → Int} {n : Nat} (h : firstAt f n = none) : ∀ i, i < n → f i = 0 := by
  intro i hi
  unfold firstAt at h
  rw [Option.map_eq_none_iff, List.find?_eq_none] at h
  simpa using h i (by simpa using hi)
theorem firstAt_ne {f : Nat → Int} {n : Nat} {x : Nat × Int} (h : firstAt f n = some x) : x.2 ≠ 0 := by
  unfold firstAt at h
  rw [Option.map_eq_some_iff] at h
  obtain ⟨i, hi, rfl⟩ := h
  have := List.find?_some hi
  simpa using this

/-- A table as stated. -/
structure Valid (t : Tab) : Prop where
  np : 1 ≤ t.ps.length ∧ t.ps.length ≤ 5
  nk : 1 ≤ t.ks.length ∧ t.ks.length ≤ 8
  pu : 1 ≤ t.pu ∧ t.pu ≤ 1000
  er : ∀ p ∈ t.ps, 0 ≤ p.er ∧ p.er ≤ 10000
  pn : ∀ p ∈ t.ps, nameB p.nm = true
  kn : ∀ k ∈ t.ks, nameB k.nm = true
  rl : ∀ k ∈ t.ks, k.rs.length = t.ps.length
  rs : ∀ k ∈ t.ks, ∀ r ∈ k.rs, 0 ≤ r.1 ∧ r.1 ≤ r.2 ∧ r.2 ≤ 100000

theorem nameErr_zero {bef : List ByteArray} {s : ByteArray} (h : nameErr bef s = 0) : nameB s = true := by
  unfold nameErr at h
  cases hn : nameB s with
  | true => rfl
  | false => rw [hn] at h; simp at h
theorem rangesErr_zero {rs : List (Int × Int)} {np : Int} (h : rangesErr rs np = 0) : (rs.length : Int) = np ∧ ∀ r ∈ rs, 0 ≤ r.1 ∧ r.1 ≤ r.2 ∧ r.2 ≤ 100000 := by
  unfold rangesErr at h
  by_cases h1 : (rs.length : Int) ≠ np
  · rw [if_pos h1] at h; simp at h
  · rw [if_neg h1] at h
    cases h2 : rs.any beyondB with
    | true => rw [h2] at h; simp at h
    | false =>
      cases h3 : rs.any emptyB with
      | true => rw [h2, h3] at h; simp at h
      | false =>
        refine ⟨by omega, fun r hr => ?_⟩
        have a := List.any_eq_false.1 h2 r hr
        have b := List.any_eq_false.1 h3 r hr
        simp [beyondB] at a
        simp [emptyB] at b
        omega

theorem valid_of {t : Tab} (h : (checkT t).2.2 = 0) : Valid t := by
  rw [checkT_eq] at h
  unfold checkOf at h
  by_cases h0 : countsErr t ≠ 0
  · rw [if_pos h0] at h; exact absurd h h0
  · rw [if_neg h0] at h
    have hc : countsErr t = 0 := by omega
    unfold countsErr at hc
    split at hc
    · rename_i hnn
      split at hc
      · rename_i hpu
        cases h1 : firstAt (propErr t.ps) t.ps.length with
        | some x => rw [h1] at h; exact absurd h (firstAt_ne h1)
        | none =>
          rw [h1] at h
          dsimp only at h
          cases h2 : firstAt (kindErr t.ks t.ps.length) t.ks.length with
          | some x => rw [h2] at h; exact absurd h (firstAt_ne h2)
          | none =>
            have hp : ∀ p ∈ t.ps, nameB p.nm = true ∧ 0 ≤ p.er ∧ p.er ≤ 10000 := fun p hp => by
              obtain ⟨i, hi, e⟩ := List.getElem_of_mem hp
              have := firstAt_zero h1 i hi
              rw [propErr, List.getElem?_eq_getElem hi, e] at this
              dsimp only at this
              split at this
              · rename_i hx; exact absurd this hx
              · rename_i hx
                split at this
                · rename_i he; exact ⟨nameErr_zero (Decidable.not_not.1 hx), he⟩
                · simp at this
            have hk : ∀ k ∈ t.ks, nameB k.nm = true ∧ rangesErr k.rs t.ps.length = 0 := fun p hp => by
              obtain ⟨i, hi, e⟩ := List.getElem_of_mem hp
              have := firstAt_zero h2 i hi
              rw [kindErr, List.getElem?_eq_getElem hi, e] at this
              dsimp only at this
              split at this
              · rename_i hx; exact absurd this hx
              · rename_i hx; exact ⟨nameErr_zero (Decidable.not_not.1 hx), this⟩
            exact ⟨hnn.1, hnn.2, hpu, fun p h => (hp p h).2, fun p h => (hp p h).1, fun k h => (hk k h).1, fun k h => by have := (rangesErr_zero (hk k h).2).1; omega, fun k h => (rangesErr_zero (hk k h).2).2⟩
      · simp at hc
    · simp at hc

/-- What comes in of a table: where its parts lie, and that they can be read. -/
structure TabIn (w : World) (pa ka : Option Addr) (pc kc : Nat) (t : Tab) : Prop where
  tab : TabAt w w.heap.size pa ka t
  pc : t.ps.length ≤ pc
  kc : t.ks.length ≤ kc
  fit : NamesFit t
theorem TabIn.on {w w' : World} {pa ka : Option Addr} {pc kc : Nat} {t : Tab} (h : TabIn w pa ka pc kc t) (hb : Below w.heap.size w w') : TabIn w' pa ka pc kc t := ⟨h.tab.on hb, h.pc, h.kc, h.fit⟩
/-- .. of readings. -/
structure IntsIn (w : World) (ra : Option Addr) (l : List Int) : Prop where
  at_ : IntsAt w w.heap.size ra l
  len : l.length ≤ 9223372036854775807
theorem IntsIn.on {w w' : World} {ra : Option Addr} {l : List Int} (h : IntsIn w ra l) (hb : Below w.heap.size w w') : IntsIn w' ra l := ⟨(RowAt.below h.at_ hb (Nat.le_refl _)).mono hb.size, h.len⟩

theorem check_in {w : World} {pa ka : Option Addr} {pc kc : Nat} {t : Tab} (h : TabIn w pa ka pc kc t) :
    Calls Tryz.prog 23 #[.agg #[.slice pa t.ps.length pc, .slice ka t.ks.length kc, .int .i64 t.pu]] w fun e w' => e = .returned (.tuple #[.int .i64 (checkT t).1, .int .i64 (checkT t).2.1, .int .i64 (checkT t).2.2]) ∧ Below w.heap.size w w' :=
  check_any t pa ka pc kc w h.tab h.pc h.kc h.fit

/-- A table in a block of its own, and a zero sample in the next one, behind a call. -/
theorem open_box {w w1 : World} {c0 c1 c2 : Value} {T S : TypeId} {z0 z1 z2 z3 : Value}
    (hb : Below ((w.alloc (.cells #[c0, c1, c2] T)).alloc (.cells #[z0, z1, z2, z3] S)).heap.size ((w.alloc (.cells #[c0, c1, c2] T)).alloc (.cells #[z0, z1, z2, z3] S)) w1) :
    (w1.cell? ⟨w.heap.size, 0, none⟩ = some c0 ∧ w1.cell? ⟨w.heap.size, 1, none⟩ = some c1 ∧ w1.cell? ⟨w.heap.size, 2, none⟩ = some c2) ∧
    (w1.cell? ⟨w.heap.size + 1, 0, none⟩ = some z0 ∧ w1.cell? ⟨w.heap.size + 1, 1, none⟩ = some z1 ∧ w1.cell? ⟨w.heap.size + 1, 2, none⟩ = some z2 ∧ w1.cell? ⟨w.heap.size + 1, 3, none⟩ = some z3) ∧
    (∀ j, w1.frozen? ⟨w.heap.size + 1, j, none⟩ = false) ∧ Below w.heap.size w w1 ∧ w.heap.size + 1 < w1.heap.size := by
  have hk := kept_of hb
  refine ⟨⟨hk _ _ (by simp), hk _ _ (by simp), hk _ _ (by simp)⟩, ⟨hk _ _ (by simp), hk _ _ (by simp), hk _ _ (by simp), hk _ _ (by simp)⟩, fun j => ?_, (((Below.refl _ w).alloc (Nat.le_refl _) _).alloc (by simp) _).trans (hb.mono (by simp; omega)), by have := hb.size; simp at this; omega⟩
  rw [hb.frozen (p := ⟨w.heap.size + 1, j, none⟩) (by simp)]
  simp

set_option maxHeartbeats 1000000 in
theorem open_ok {w : World} {pa ka : Option Addr} {pc kc : Nat} {t : Tab} (h : TabIn w pa ka pc kc t) (hv : (checkT t).2.2 = 0) :
    Calls Tryz.prog 17 #[.agg #[.slice pa t.ps.length pc, .slice ka t.ks.length kc, .int .i64 t.pu]] w fun e w' => e = .returned (.tuple #[.agg #[.slice pa t.ps.length pc, .slice ka t.ks.length kc, .int .i64 t.pu, .slice none 0 0], .int .i64 0]) ∧ Below w.heap.size w w' := by
  have HC := Lib.hid (check_in (h.on (((Below.refl _ w).alloc (Nat.le_refl _) (.cells #[.slice pa t.ps.length pc, .slice ka t.ks.length kc, .int .i64 t.pu] 25)).alloc (by simp) (.cells #[.slice none 0 0, .slice none 0 0, .int .i64 0, .slice none 0 0] 57))))
  rw [hv] at HC
  have hp := h.tab.lp
  have hk := h.tab.lk
  clear hv h
  generalize (checkT t).1 = c1 at *
  generalize (checkT t).2.1 = c2 at *
  go_enter Tryz.func17, Tryz.ntmps17
  go_wp2_with fail
  refine HC.out.mono ?_
  rintro e w1 ⟨rfl, hb1⟩
  obtain ⟨⟨x0, x1, x2⟩, ⟨y0, y1, y2, y3⟩, hz, hbw, hsz⟩ := open_box hb1
  have hz0 := hz 0
  have hz1 := hz 1
  have hz2 := hz 2
  have hz3 := hz 3
  clear hz hb1 HC
  go_wp2_with fail
  refine bodyPost_ret (v := .tuple #[.agg #[.slice pa t.ps.length pc, .slice ka t.ks.length kc, .int .i64 t.pu, .slice none 0 0], .int .i64 0]) ?_ rfl ⟨rfl, (((hbw.setCell (by simp) _).setCell (by simp) _).setCell (by simp) _).setCell (by simp) _⟩
  simp [results, Tryz.results17, go_sem, y0, y1, y2, y3]

set_option maxHeartbeats 1000000 in
theorem open_err {w : World} {pa ka : Option Addr} {pc kc : Nat} {t : Tab} (h : TabIn w pa ka pc kc t) (hv : (checkT t).2.2 ≠ 0) :
    Calls Tryz.prog 17 #[.agg #[.slice pa t.ps.length pc, .slice ka t.ks.length kc, .int .i64 t.pu]] w fun e w' => e = .returned (.tuple #[.agg #[.slice none 0 0, .slice none 0 0, .int .i64 0, .slice none 0 0], .int .i64 (checkT t).2.2]) ∧ Below w.heap.size w w' := by
  have HC := Lib.hid (check_in (h.on (((Below.refl _ w).alloc (Nat.le_refl _) (.cells #[.slice pa t.ps.length pc, .slice ka t.ks.length kc, .int .i64 t.pu] 25)).alloc (by simp) (.cells #[.slice none 0 0, .slice none 0 0, .int .i64 0, .slice none 0 0] 57))))
  have hp := h.tab.lp
  have hk := h.tab.lk
  clear h
  generalize (checkT t).1 = c1 at *
  generalize (checkT t).2.1 = c2 at *
  generalize (checkT t).2.2 = c3 at *
  have hv' : (c3 != 0) = true := by simpa using hv
  go_enter Tryz.func17, Tryz.ntmps17
  go_wp2_with fail
  refine HC.out.mono ?_
  rintro e w1 ⟨rfl, hb1⟩
  obtain ⟨⟨x0, x1, x2⟩, ⟨y0, y1, y2, y3⟩, hz, hbw, hsz⟩ := open_box hb1
  have hz0 := hz 0
  have hz1 := hz 1
  have hz2 := hz 2
  have hz3 := hz 3
  clear hz hb1 HC
  go_wp2_with fail
  refine bodyPost_ret (v := .tuple #[.agg #[.slice none 0 0, .slice none 0 0, .int .i64 0, .slice none 0 0], .int .i64 c3]) ?_ rfl ⟨rfl, ?_⟩
  · simp [results, Tryz.results17, go_sem, y0, y1, y2, y3]
  · exact (((hbw.setCell (by simp) _).setCell (by simp) _).setCell (by simp) _).setCell (by simp) _

/-- The error of a table and readings. -/
def lookErr (t : Tab) (l : List Int) : Int := if (checkT t).2.2 ≠ 0 then (checkT t).2.2 else readsErr l t.ps.length

set_option maxHeartbeats 2000000 in
theorem look_ok {w : World} {pa ka ra : Option Addr} {pc kc rc : Nat} {t : Tab} {l : List Int} (h : TabIn w pa ka pc kc t) (hr : IntsIn w ra l) (hv : (checkT t).2.2 = 0) (hl : readsErr l t.ps.length = 0) :
    Calls Tryz.prog 35 #[.agg #[.slice pa t.ps.length pc, .slice ka t.ks.length kc, .int .i64 t.pu], .slice ra l.length rc] w fun e w' => e = .returned (.tuple #[.agg #[.slice pa t.ps.length pc, .slice ka t.ks.length kc, .int .i64 t.pu, .slice ra l.length rc], .int .i64 0]) ∧ Below w.heap.size w w' := by
  have hp := h.tab.lp
  have hk := h.tab.lk
  have hln := hr.len
  have hB0 : Below w.heap.size w ((w.alloc (.cells #[.slice pa t.ps.length pc, .slice ka t.ks.length kc, .int .i64 t.pu] 25)).alloc (.cells #[.slice none 0 0, .slice none 0 0, .int .i64 0, .slice none 0 0] 57)) := ((Below.refl _ w).alloc (Nat.le_refl _) _).alloc (by simp) _
  have HO := Lib.hid (open_ok (h.on hB0) hv)
  have HR := Lib.hid hr
  clear h hr
  have HL := Lib.hid hl
  clear hl hv
  go_enter Tryz.func35, Tryz.ntmps35
  go_wp2_with fail
  refine HO.out.mono ?_
  rintro e w1 ⟨rfl, hb1⟩
  obtain ⟨⟨x0, x1, x2⟩, ⟨y0, y1, y2, y3⟩, hz, hbw, hsz⟩ := open_box hb1
  have hz0 := hz 0
  have hz1 := hz 1
  have hz2 := hz 2
  have hz3 := hz 3
  clear hz hb1 HO hB0
  have hne : ¬ w.heap.size + 1 = w1.heap.size := by omega
  have hs0 : w.heap.size < w1.heap.size := by omega
  have HC := Lib.hid (fun (W : World) (hb : Below w.heap.size w W) => checkReadings_any ra rc l t.ps.length W hln (HR.out.on hb).at_)
  rw [HL.out] at HC
  go_wp2_with fail
  refine (HC.out _ ?hB).mono ?_
  case hB => repeat (first | exact hbw | refine Below.setCell ?_ (by simp) _ | refine Below.alloc ?_ (by first | omega | (simp; omega)) _)
  rintro e w2 ⟨rfl, rfl⟩
  go_wp2_with fail
  refine bodyPost_ret (v := .tuple #[.agg #[.slice pa t.ps.length pc, .slice ka t.ks.length kc, .int .i64 t.pu, .slice ra l.length rc], .int .i64 0]) ?_ rfl ⟨rfl, ?_⟩
  · simp [results, Tryz.results35, go_sem, y0, y1, y2, y3, hsz]
  · repeat (first | exact hbw | refine Below.setCell ?_ (by simp) _ | refine Below.alloc ?_ (by first | omega | (simp; omega)) _)

set_option maxHeartbeats 2000000 in
theorem look_rd {w : World} {pa ka ra : Option Addr} {pc kc rc : Nat} {t : Tab} {l : List Int} (h : TabIn w pa ka pc kc t) (hr : IntsIn w ra l) (hv : (checkT t).2.2 = 0) (hl : readsErr l t.ps.length ≠ 0) :
    Calls Tryz.prog 35 #[.agg #[.slice pa t.ps.length pc, .slice ka t.ks.length kc, .int .i64 t.pu], .slice ra l.length rc] w fun e w' => e = .returned (.tuple #[.agg #[.slice none 0 0, .slice none 0 0, .int .i64 0, .slice none 0 0], .int .i64 (readsErr l t.ps.length)]) ∧ Below w.heap.size w w' := by
  have hp := h.tab.lp
  have hk := h.tab.lk
  have hln := hr.len
  have hB0 : Below w.heap.size w ((w.alloc (.cells #[.slice pa t.ps.length pc, .slice ka t.ks.length kc, .int .i64 t.pu] 25)).alloc (.cells #[.slice none 0 0, .slice none 0 0, .int .i64 0, .slice none 0 0] 57)) := ((Below.refl _ w).alloc (Nat.le_refl _) _).alloc (by simp) _
  have HO := Lib.hid (open_ok (h.on hB0) hv)
  have HR := Lib.hid hr
  clear h hr
  have HC := Lib.hid (fun (W : World) (hb : Below w.heap.size w W) => checkReadings_any ra rc l t.ps.length W hln (HR.out.on hb).at_)
  generalize readsErr l t.ps.length = z at *
  have hz' : (z != 0) = true := by simpa using hl
  clear hv
  go_enter Tryz.func35, Tryz.ntmps35
  go_wp2_with fail
  refine HO.out.mono ?_
  rintro e w1 ⟨rfl, hb1⟩
  obtain ⟨⟨x0, x1, x2⟩, ⟨y0, y1, y2, y3⟩, hz, hbw, hsz⟩ := open_box hb1
  have hz0 := hz 0
  have hz1 := hz 1
  have hz2 := hz 2
  have hz3 := hz 3
  clear hz hb1 HO hB0
  have hne : ¬ w.heap.size + 1 = w1.heap.size := by omega
  have hs0 : w.heap.size < w1.heap.size := by omega
  go_wp2_with fail
  refine (HC.out _ ?hB).mono ?_
  case hB => repeat (first | exact hbw | refine Below.setCell ?_ (by simp) _ | refine Below.alloc ?_ (by first | omega | (simp; omega)) _)
  rintro e w2 ⟨rfl, rfl⟩
  go_wp2_with fail
  refine bodyPost_ret (v := .tuple #[.agg #[.slice none 0 0, .slice none 0 0, .int .i64 0, .slice none 0 0], .int .i64 z]) ?_ rfl ⟨rfl, ?_⟩
  · simp [results, Tryz.results35, go_sem, y0, y1, y2, y3, hsz]
  · repeat (first | exact hbw | refine Below.setCell ?_ (by simp) _ | refine Below.alloc ?_ (by first | omega | (simp; omega)) _)

set_option maxHeartbeats 2000000 in
theorem look_tab {w : World} {pa ka ra : Option Addr} {pc kc rc : Nat} {t : Tab} {l : List Int} (h : TabIn w pa ka pc kc t) (hr : IntsIn w ra l) (hv : (checkT t).2.2 ≠ 0) :
    Calls Tryz.prog 35 #[.agg #[.slice pa t.ps.length pc, .slice ka t.ks.length kc, .int .i64 t.pu], .slice ra l.length rc] w fun e w' => e = .returned (.tuple #[.agg #[.slice none 0 0, .slice none 0 0, .int .i64 0, .slice none 0 0], .int .i64 (checkT t).2.2]) ∧ Below w.heap.size w w' := by
  have hp := h.tab.lp
  have hk := h.tab.lk
  have hln := hr.len
  have hB0 : Below w.heap.size w ((w.alloc (.cells #[.slice pa t.ps.length pc, .slice ka t.ks.length kc, .int .i64 t.pu] 25)).alloc (.cells #[.slice none 0 0, .slice none 0 0, .int .i64 0, .slice none 0 0] 57)) := ((Below.refl _ w).alloc (Nat.le_refl _) _).alloc (by simp) _
  have HO := Lib.hid (open_err (h.on hB0) hv)
  have HR := Lib.hid hr
  clear h hr
  generalize (checkT t).2.2 = z at *
  have hz1 : (z == 0) = false := by simpa using hv
  have hz2 : (z != 0) = true := by simpa using hv
  go_enter Tryz.func35, Tryz.ntmps35
  go_wp2_with fail
  refine HO.out.mono ?_
  rintro e w1 ⟨rfl, hb1⟩
  obtain ⟨⟨x0, x1, x2⟩, ⟨y0, y1, y2, y3⟩, hz, hbw, hsz⟩ := open_box hb1
  have hz0 := hz 0
  have hz1 := hz 1
  have hz2 := hz 2
  have hz3 := hz 3
  clear hz hb1 HO hB0
  have hne : ¬ w.heap.size + 1 = w1.heap.size := by omega
  have hs0 : w.heap.size < w1.heap.size := by omega
  go_wp2_with fail
  refine bodyPost_ret (v := .tuple #[.agg #[.slice none 0 0, .slice none 0 0, .int .i64 0, .slice none 0 0], .int .i64 z]) ?_ rfl ⟨rfl, ?_⟩
  · simp [results, Tryz.results35, go_sem, y0, y1, y2, y3, hsz]
  · repeat (first | exact hbw | refine Below.setCell ?_ (by simp) _ | refine Below.alloc ?_ (by first | omega | (simp; omega)) _)

/-- look, where there is an error. -/
theorem look_err {w : World} {pa ka ra : Option Addr} {pc kc rc : Nat} {t : Tab} {l : List Int} (h : TabIn w pa ka pc kc t) (hr : IntsIn w ra l) (he : lookErr t l ≠ 0) :
    Calls Tryz.prog 35 #[.agg #[.slice pa t.ps.length pc, .slice ka t.ks.length kc, .int .i64 t.pu], .slice ra l.length rc] w fun e w' => e = .returned (.tuple #[.agg #[.slice none 0 0, .slice none 0 0, .int .i64 0, .slice none 0 0], .int .i64 (lookErr t l)]) ∧ Below w.heap.size w w' := by
  unfold lookErr at *
  by_cases hv : (checkT t).2.2 = 0
  · rw [if_neg (by simpa using hv)] at he ⊢
    exact look_rd h hr hv he
  · rw [if_pos hv]
    exact look_tab h hr hv
theorem lookErr_ok {t : Tab} {l : List Int} (h : lookErr t l = 0) : (checkT t).2.2 = 0 ∧ readsErr l t.ps.length = 0 := by
  unfold lookErr at h
  by_cases hv : (checkT t).2.2 = 0
  · rw [if_neg (by simpa using hv)] at h; exact ⟨hv, h⟩
  · rw [if_pos hv] at h; exact absurd h hv
end Go.Proofs.YthihpggjglghoaaGreatDoor
