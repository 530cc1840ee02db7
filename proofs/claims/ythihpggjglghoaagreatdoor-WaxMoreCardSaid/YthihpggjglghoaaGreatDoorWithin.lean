/- wax.Within: contract. -/
import Derived.Test.YthihpggjglghoaaGreatDoorSetl
namespace Go.Proofs.YthihpggjglghoaaGreatDoor
open Go.RowKit Go.Shelf Go.Maps

theorem sets_any {H : Type} {w : World} {pa ka ra : Option Addr} {pc kc rc : Nat} {t : Tab} {l : List Int} (h : SamIn w pa ka ra pc kc t l) :
    Calls Tryz.prog 38 #[.agg #[.slice pa t.ps.length pc, .slice ka t.ks.length kc, .int .i64 t.pu, .slice ra l.length rc]] w fun e w' => e = .returned (.map (some (w.heap.size + 1))) ∧ w'.ownsMap Tryz.prog 3 (plainElem (H := H) Tryz.prog 4) (w.heap.size + 1) (outerF t.ks.length (pairOk t l) t.ks.length).length (setsD (outerF t.ks.length (pairOk t l) t.ks.length)) ∧ Below w.heap.size w w' :=
  callsIn_wide.1 (sets_in h)

theorem IntsOut.base {B B' : Nat} {w : World} {v : Value} {l : List Int} (h : IntsOut B w v l) (hB : B' ≤ B) : IntsOut B' w v l := by
  refine ⟨h.1, ?_⟩
  rcases h.2 with h2 | ⟨g, cap, cur, hv, hg, r⟩
  · exact .inl h2
  · exact .inr ⟨g, cap, cur, hv, by omega, r⟩
/-- A bool that no rewriting opens. -/
structure Bx where
  b : Bool
theorem map_on {H : Type} {P : Program} {K : TypeId} {R : Value → Option (DataW H × List MemPlace)} {b n : Nat} {D : DataW H} {w w' : World} (h : w.ownsMap P K R b n D) (hb : Below w.heap.size w w') : w'.ownsMap P K R b n D := by
  obtain ⟨es, clock, hh, r⟩ := h
  exact ⟨es, clock, (hb.block b (Array.getElem?_eq_some_iff.1 hh).1).trans hh, r⟩
/-- What Within returns: the kinds in all sets, the kinds in some. -/
def withinV (t : Tab) (l : List Int) : (List Int × List Int) × Int :=
  if lookErr t l ≠ 0 then (([], []), lookErr t l) else if setList t l = [] then (([], []), 9) else ((kinV (andV t.ks.length (setList t l)), kinV (orV (setList t l))), 0)
/-- Two slices that a call made. -/
def TwoOut (w : World) (R : (List Int × List Int) × Int) : Ending → World → Prop := fun e w' => ∃ v1 v2, e = .returned (.tuple #[v1, v2, .int .i64 R.2]) ∧ IntsOut w.heap.size w' v1 R.1.1 ∧ IntsOut w.heap.size w' v2 R.1.2 ∧ Below w.heap.size w w'

set_option maxRecDepth 100000 in
set_option maxHeartbeats 4000000 in
theorem within_ok {w : World} {pa ka ra : Option Addr} {pc kc rc : Nat} {t : Tab} {l : List Int} (h : RdIn w pa ka ra pc kc t l) (h0 : lookErr t l = 0) (R : (List Int × List Int) × Int) (hR : R = if setList t l = [] then (([], []), 9) else ((kinV (andV t.ks.length (setList t l)), kinV (orV (setList t l))), 0)) :
    Calls Tryz.prog 28 #[.agg #[.slice pa t.ps.length pc, .slice ka t.ks.length kc, .int .i64 t.pu], .slice ra l.length rc] w (TwoOut w R) := by
  have hB0 : Below w.heap.size w (w.alloc (.cells #[.slice pa t.ps.length pc, .slice ka t.ks.length kc, .int .i64 t.pu] 25)) := ((Below.refl _ w).alloc (Nat.le_refl _) _)
  have HL := Lib.hid ((h.on hB0).look (rc := rc) h0)
  have h1 := h.tab.tab.lp
  have h2 := h.tab.tab.lk
  have h3 := h.rds.len
  have HS := Lib.hid (h.sam h0)
  have HR := Lib.hid hR
  have hn8 : t.ks.length ≤ 8 := HS.out.val.nk.2
  clear h h0 hR
  have law : Keyed Tryz.prog 3 := int_keyed Tryz.underlying3
  have hss : ∀ s ∈ setList t l, s < 256 := by
    intro s hs
    obtain ⟨x, _, rfl⟩ := List.mem_map.1 hs
    exact pairSet_lt x hn8
  have HSS := Lib.hid hss
  clear hss
  go_enter Tryz.func28, Tryz.ntmps28
  go_wp2_with fail
  refine HL.out.mono ?_
  rintro e w1 ⟨rfl, hb1⟩
  have hbw := hB0.trans (hb1.mono hB0.size)
  clear HL hb1
  go_wp2_with fail
  refine (sets_any (H := Unit) (HS.out.on (hbw.alloc hbw.size _))).mono ?_
  rintro e w2 ⟨rfl, hown, hb2⟩
  have hbw2 := (hbw.alloc hbw.size _).trans (hb2.mono (by have := hbw.size; simp; omega))
  have BS2 := Lib.hid (Blk.on (Blk.new w1 57 #[.slice pa t.ps.length pc, .slice ka t.ks.length kc, .int .i64 t.pu, .slice ra l.length rc]) hb2)
  have hsz0 : size (setsD (H := Unit) (outerF t.ks.length (pairOk t l) t.ks.length)) = 0 ↔ setList t l = [] := (size_sets _).trans (by simp [setList])
  have hhas : ∀ z : Int, has (setsD (H := Unit) (outerF t.ks.length (pairOk t l) t.ks.length)) (.int .i64 z) = true ↔ ∃ s ∈ setList t l, z = (s : Nat) := has_sets _
  have hsz2 : w1.heap.size < w2.heap.size := by have := hb2.size; simp at this; omega
  have hwle : w.heap.size ≤ w1.heap.size := hbw.size
  generalize setsD (H := Unit) (outerF t.ks.length (pairOk t l) t.ks.length) = D at *
  generalize (outerF t.ks.length (pairOk t l) t.ks.length).length = nD at *
  generalize setList t l = ss at *
  have HH := Lib.hid hhas
  clear hb2 hhas HS
  obtain ⟨s0, s1, s2, s3, _, _, _, _, s8⟩ := BS2.out.four
  simp only [World.size_alloc] at hown ⊢
  have HO := Lib.hid hown
  clear hown hbw hB0
  by_cases hss : ss = []
  · have hzb : ((size D : Int) == 0) = true := by have := hsz0.2 hss; simp [this]
    have HR2 := Lib.hid (HR.out.trans (if_pos hss))
    clear hss hsz0
    go_wp2_with (first
      | (at_len; refine wpList_len_own _ rfl _ 87 rfl 3 4 Tryz.underlying87 _ (w1.heap.size + 1 + 1) _ _ rfl HO.out ?_)
      | fail)
    refine bodyPost_ret (v := .tuple #[.slice none 0 0, .slice none 0 0, .int .i64 9]) ?_ rfl ⟨_, _, by rw [HR2.out], by rw [HR2.out]; exact World.ownsRow_nil _ _ _ _, by rw [HR2.out]; exact World.ownsRow_nil _ _ _ _, hbw2⟩
    simp [results, Tryz.results28, go_sem, *]
  · have hzb : ((size D : Int) == 0) = false := by
      have : size D ≠ 0 := fun h => hss (hsz0.1 h)
      simp [this]
    have HR2 := Lib.hid (HR.out.trans (if_neg hss))
    clear hss hsz0
    go_wp2_with (first
      | (at_len; refine wpList_len_own _ rfl _ 87 rfl 3 4 Tryz.underlying87 _ (w1.heap.size + 1 + 1) _ _ rfl HO.out ?_)
      | fail)
    refine (everyKind_any _ _ ka t.ks.length kc t.pu hn8 _).mono ?_
    rintro e w3 ⟨rfl, hb3⟩
    have HO3 := Lib.hid (map_on HO.out hb3)
    have hbw3 := hbw2.trans (hb3.mono hbw2.size)
    have hs3 := hb3.size
    clear hb3 s0 s1 s2 s3
    go_wp2_with (first
      | (at_range; refine wpList_range_own _ rfl _ 87 rfl 3 4 law Tryz.underlying87 _ (w1.heap.size + 1 + 1) _ _ rfl HO3.out ?_; intro w4 hrg4 hg4 hs4)
      | fail)
    go_frame
    have hbw4 : Below w.heap.size w w4 := hbw3.grown hg4 hbw3.size (fun k e => by cases e)
    have h3w := hbw3.size
    have HG4 := Lib.hid hrg4
    have hb34 : Below w3.heap.size w3 w4 := (Below.refl _ w3).grown hg4 (Nat.le_refl _) (fun k e => by cases e)
    clear hrg4 hg4
    go_loopw [9, 10, 11] (fun a o s wr => ∃ A O : Nat, a = .int .i64 A ∧ o = .int .i64 O ∧ ∃ (left : Lit → Bool) (cnt : Nat), Hid (wr.ranges Tryz.prog 3 (plainElem Tryz.prog 4) (w1.heap.size + 1 + 1) w3.heap.size nD D left cnt) ∧ Hid (Seen t.ks.length ss left A O) ∧ Below w.heap.size w wr)
      (fun _ _ _ wr => wr.rangeLeft (w1.heap.size + 1 + 1) w3.heap.size)
    case atStart => exact ⟨_, 0, rfl, rfl, _, _, HG4.out, by show Seen _ _ _ _ _; exact seen_start hn8 (fun s hs => (HH.out _).2 ⟨s, hs, rfl⟩), hbw4⟩
    case round =>
      obtain ⟨A, O, rfl, rfl, left, cnt, HG, HSE, hbr⟩ := hrel
      go_wp2_with (first
        | (at_next; refine wpList_next_ranges _ rfl _ rfl 3 law (plainElem Tryz.prog 4) (Value.int .i64) (fun c : Bx => Value.bool c.b) (fun key kl hkey => by obtain ⟨x, rfl, _⟩ := Maps.keyOf_int_inv Tryz.underlying3 hkey; exact ⟨x, rfl⟩) (fun v y hv => by obtain ⟨c, rfl, _⟩ := plainElem_bool_inv Tryz.underlying4 hv; exact ⟨⟨c⟩, rfl⟩) (w1.heap.size + 1 + 1) w3.heap.size nD _ _ _ rfl HG.out ?_ ?_)
        | fail)
      · intro hc0 hl0
        obtain ⟨rfl, rfl⟩ := seen_end HSE.out hl0
        have hA := HSE.out.la
        have hO := HSE.out.lo
        go_wp2_with fail
        refine (kindsIn_any _ hA _).mono ?_
        rintro e w6 ⟨v1, rfl, k1, _, hb6⟩
        go_wp2_with fail
        refine (kindsIn_any _ hO _).mono ?_
        rintro e w7 ⟨v2, rfl, k2, _, hb7⟩
        have k1' := own_below k1 hb7
        have hr1 := hbr.size
        have hr6 := hb6.size
        have hbw7 := (hbr.trans (hb6.mono hr1)).trans (hb7.mono (by omega))
        go_wp2_with fail
        refine bodyPost_ret (v := .tuple #[v1, v2, .int .i64 0]) ?_ rfl ⟨_, _, by rw [HR2.out], by rw [HR2.out]; exact IntsOut.base k1' hr1, by rw [HR2.out]; exact IntsOut.base k2 (by omega), hbw7⟩
        simp [results, Tryz.results28, go_sem, *]
      · intro x c kl y ps w5 cnt1 hkey hlx hRv hat hrg1 hlt hg1 hs1 hen
        obtain ⟨x', ex, rfl, hwx⟩ := Maps.keyOf_int_inv Tryz.underlying3 hkey
        obtain rfl : x = x' := by simpa using ex
        obtain ⟨xs, hxs, rfl⟩ := (HH.out x).1 (has_true_of_atKey hat)
        have hx8 : xs < 256 := HSS.out xs hxs
        have hstep := seen_step HSE.out hxs hx8
        rw [show (fun z => left z && !z.sameKey (.int .i64 xs)) = (fun z => left z && !z.sameKey (.int .i64 xs)) from rfl] at hstep
        have HST := Lib.hid hstep
        have hA := HSE.out.la
        have hO := HSE.out.lo
        have e1 := band_nat A xs hA hx8
        have e2 := bor_nat O xs hO hx8
        have HG1 := Lib.hid hrg1
        have hbr1 : Below w.heap.size w w5 := hbr.grown hg1 hbr.size (fun k e => by cases e; exact h3w)
        have hm1 := hrg1.left_eq
        have hm0 := HG.out.left_eq
        clear hstep hrg1 hg1 hat hRv hkey hwx hlx ex
        go_wp2_with fail
        go_roundw
        case rel => exact ⟨A &&& xs, O ||| xs, by first | rfl | (rw [← e1]) , by first | rfl | (rw [← e2]), _, _, HG1.out, HST.out, hbr1⟩
        case measure => rw [hm1, hm0]; exact hlt

set_option maxRecDepth 100000 in
set_option maxHeartbeats 2000000 in
theorem within_look {w : World} {pa ka ra : Option Addr} {pc kc rc : Nat} {t : Tab} {l : List Int} (h : RdIn w pa ka ra pc kc t l) (h0 : lookErr t l ≠ 0) :
    Calls Tryz.prog 28 #[.agg #[.slice pa t.ps.length pc, .slice ka t.ks.length kc, .int .i64 t.pu], .slice ra l.length rc] w (TwoOut w (([], []), lookErr t l)) := by
  have hB0 : Below w.heap.size w (w.alloc (.cells #[.slice pa t.ps.length pc, .slice ka t.ks.length kc, .int .i64 t.pu] 25)) := ((Below.refl _ w).alloc (Nat.le_refl _) _)
  have HL := Lib.hid (look_err (rc := rc) (h.on hB0).tab (h.on hB0).rds h0)
  have h1 := h.tab.tab.lp
  have h2 := h.tab.tab.lk
  have h3 := h.rds.len
  clear h
  generalize lookErr t l = z at *
  have z2 : (z != 0) = true := by simpa using h0
  go_enter Tryz.func28, Tryz.ntmps28
  go_wp2_with fail
  refine HL.out.mono ?_
  rintro e w1 ⟨rfl, hb1⟩
  have hbw := hB0.trans (hb1.mono hB0.size)
  clear HL hb1
  go_wp2_with fail
  refine bodyPost_ret (v := .tuple #[.slice none 0 0, .slice none 0 0, .int .i64 z]) ?_ rfl ⟨_, _, rfl, World.ownsRow_nil _ _ _ _, World.ownsRow_nil _ _ _ _, hbw.alloc hbw.size _⟩
  simp [results, Tryz.results28, go_sem, *]

/-- **Within returns withinV.** -/
theorem within2_any {w : World} {pa ka ra : Option Addr} {pc kc rc : Nat} {t : Tab} {l : List Int} (h : RdIn w pa ka ra pc kc t l) :
    Calls Tryz.prog 28 #[.agg #[.slice pa t.ps.length pc, .slice ka t.ks.length kc, .int .i64 t.pu], .slice ra l.length rc] w (TwoOut w (withinV t l)) := by
  unfold withinV
  by_cases h0 : lookErr t l = 0
  · rw [if_neg (by simpa using h0)]
    exact within_ok h h0 _ rfl
  · rw [if_pos h0]
    exact within_look h h0
end Go.Proofs.YthihpggjglghoaaGreatDoor
