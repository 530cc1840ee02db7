/- wax.readTable, Read: contracts, whole. -/
import Derived.Test.YthihpggjglghoaaGreatDoorOut
namespace Go.Proofs.YthihpggjglghoaaGreatDoor
open Go.RowKit Go.Shelf

theorem propsW_small {n : Nat} : ∀ (ws : List ByteArray) (l : List Pr), propsW ws = some l → (∀ x ∈ ws, x.size ≤ n) → ∀ p ∈ l, p.nm.size ≤ n
  | [], l, h, _, p, hp => by
    simp only [propsW, Option.some.injEq] at h
    subst h
    simp at hp
  | [a], l, h, _, p, hp => by simp [propsW] at h
  | a :: b :: r, l, h, hx, p, hp => by
    simp only [propsW] at h
    split at h
    · cases h
    · rw [Option.map_eq_some_iff] at h
      obtain ⟨l', hl', rfl⟩ := h
      rcases List.mem_cons.1 hp with rfl | hp
      · exact hx a (by simp)
      · exact propsW_small r l' hl' (fun x hxx => hx x (by simp [hxx])) p hp
theorem words_small {n : Nat} {s : ByteArray} (hs : s.size ≤ n) : ∀ x ∈ wordsV (cutF s), x.size ≤ n := fun x hx => splitB_size ⟨#[32]⟩ n _ _ (by have := (cut_sizes s).1; omega) x hx
theorem tstV_small {s cr : ByteArray} {l : List Pr} {ws : List ByteArray} {n : Nat} (h : tstV s = some (l, cr, ws)) (hs : s.size ≤ n) : (∀ p ∈ l, p.nm.size ≤ n) ∧ cr.size ≤ n ∧ ws = [] := by
  unfold tstV at h
  split at h
  · have hw := words_small hs
    generalize wordsV (cutF s) = wv at *
    cases wv with
    | nil => cases h
    | cons a r =>
      simp only [tstW] at h
      split at h
      · rw [Option.map_eq_some_iff] at h
        obtain ⟨l', hl', he⟩ := h
        simp only [Prod.mk.injEq] at he
        obtain ⟨rfl, rfl, rfl⟩ := he
        exact ⟨propsW_small r _ hl' (fun x hx => hw x (by simp [hx])), by have := (cut_sizes s).2; omega, rfl⟩
      · cases h
  · cases h
theorem purV_small {s cr : ByteArray} {pu : Int} {ws : List ByteArray} {n : Nat} (h : purV s = some (pu, cr, ws)) (hs : s.size ≤ n) : cr.size ≤ n ∧ ws = [] := by
  unfold purV at h
  split at h
  · generalize wordsV (cutF s) = wv at *
    unfold purW at h
    split at h
    · split at h
      · rw [Option.map_eq_some_iff] at h
        obtain ⟨l', hl', he⟩ := h
        simp only [Prod.mk.injEq] at he
        obtain ⟨rfl, rfl, rfl⟩ := he
        exact ⟨by have := (cut_sizes s).2; omega, rfl⟩
      · cases h
    · cases h
  · cases h
theorem kndV_small {s cr : ByteArray} {x : ByteArray × List (Int × Int)} {ws : List ByteArray} {n : Nat} (h : kndV s = some (x, cr, ws)) (hs : s.size ≤ n) : x.1.size ≤ n ∧ cr.size ≤ n := by
  unfold kndV at h
  split at h
  · have hw := words_small hs
    generalize wordsV (cutF s) = wv at *
    cases wv with
    | nil => cases h
    | cons a r =>
      simp only [kndW] at h
      rw [Option.map_eq_some_iff] at h
      obtain ⟨l', hl', he⟩ := h
      simp only [Prod.mk.injEq] at he
      obtain ⟨rfl, rfl, rfl⟩ := he
      exact ⟨hw a (by simp), by have := (cut_sizes s).2; omega⟩
  · cases h
theorem kindsV_small {n : Nat} : ∀ (f : Nat) (s : ByteArray) (kl : List (ByteArray × List (Int × Int))), kindsV f s = some kl → s.size ≤ n → ∀ k ∈ kl, k.1.size ≤ n
  | 0, s, kl, h, _, k, hk => by
    simp only [kindsV, Option.some.injEq] at h
    subst h
    simp at hk
  | f + 1, s, kl, h, hs, k, hk => by
    simp only [kindsV] at h
    split at h
    · simp only [Option.some.injEq] at h
      subst h
      simp at hk
    · cases hkn : kndV s with
      | none => rw [hkn] at h; cases h
      | some y =>
        obtain ⟨x, r, ws⟩ := y
        rw [hkn] at h
        simp only [Option.map_eq_some_iff] at h
        obtain ⟨l', hl', rfl⟩ := h
        obtain ⟨h1, h2⟩ := kndV_small hkn hs
        rcases List.mem_cons.1 hk with rfl | hk
        · exact h1
        · exact kindsV_small f r l' hl' h2 k hk

/-- What readTable reads. -/
def rtV (s : ByteArray) : Option (List Pr × Int × List (ByteArray × List (Int × Int))) :=
  match tstV s with
  | none => none
  | some (l, cr, _) => match purV cr with
    | none => none
    | some (pu, cr2, _) => (kindsV (cr2.size + 1) cr2).map fun kl => (l, pu, kl)
theorem rtV_small {s : ByteArray} {n : Nat} {x : List Pr × Int × List (ByteArray × List (Int × Int))} (h : rtV s = some x) (hs : s.size ≤ n) : (∀ p ∈ x.1, p.nm.size ≤ n) ∧ ∀ k ∈ x.2.2, k.1.size ≤ n := by
  unfold rtV at h
  cases h1 : tstV s with
  | none => rw [h1] at h; cases h
  | some y =>
    obtain ⟨l, cr, ws⟩ := y
    obtain ⟨a1, a2, rfl⟩ := tstV_small h1 hs
    rw [h1] at h
    simp only at h
    cases h2 : purV cr with
    | none => rw [h2] at h; cases h
    | some z =>
      obtain ⟨pu, cr2, ws2⟩ := z
      obtain ⟨b1, rfl⟩ := purV_small h2 a2
      rw [h2] at h
      simp only [Option.map_eq_some_iff] at h
      obtain ⟨kl, hkl, rfl⟩ := h
      exact ⟨a1, kindsV_small _ _ _ hkl b1⟩
theorem readTable_any {w : World} (hB : Base w) (s : ByteArray) (hs : s.size ≤ 100000000) : Calls Tryz.prog 22 #[.string s] w (RtOut w (rtV s)) := by
  unfold rtV
  cases h1 : tstV s with
  | none => exact readTable_tests hB s hs h1
  | some y =>
    obtain ⟨l, cr, ws⟩ := y
    obtain ⟨_, hcr, rfl⟩ := tstV_small h1 hs
    simp only
    cases h2 : purV cr with
    | none => exact readTable_pur hB s hs h1 h2
    | some z =>
      obtain ⟨pu, cr2, ws2⟩ := z
      obtain ⟨_, rfl⟩ := purV_small h2 hcr
      exact readTable_loop hB s hs h1 h2 _ rfl

/-- A table without places. -/
def plainT (x : List Pr × Int × List (ByteArray × List (Int × Int))) : Tab := ⟨x.1, x.2.2.map (fun k => ⟨k.1, none, 0, k.2⟩), x.2.1⟩
theorem kindErr_plain (ks : List Kd) (np : Int) (i : Nat) : kindErr ((ks.map fun k => (k.nm, k.rs)).map fun k => (⟨k.1, none, 0, k.2⟩ : Kd)) np i = kindErr ks np i := by
  unfold kindErr
  rw [List.map_map, List.getElem?_map]
  cases ks[i]? with
  | none => rfl
  | some k =>
    simp only [Option.map_some, Function.comp_apply]
    rw [← List.map_take, List.map_map]
    rfl
theorem checkT_plain (ps : List Pr) (ks : List Kd) (pu : Int) : checkT (plainT (ps, pu, ks.map fun k => (k.nm, k.rs))) = checkT ⟨ps, ks, pu⟩ := by
  unfold checkT plainT
  simp only
  rw [show kindErr ((ks.map fun k => (k.nm, k.rs)).map fun k => (⟨k.1, none, 0, k.2⟩ : Kd)) ps.length = kindErr ks ps.length from funext fun i => kindErr_plain ks _ i]
  simp only [List.length_map]
  congr 1
  unfold countsErr
  simp only [List.length_map]
/-- What Read returns. -/
def readV (s : ByteArray) : Option (List Pr × Int × List (ByteArray × List (Int × Int))) × Int :=
  if 2000 < s.size then (none, 3) else match rtV s with
  | none => (none, 6)
  | some x => if (checkT (plainT x)).2.2 = 0 then (some x, 0) else (none, 6)
def ReadOut (w : World) (R : Option (List Pr × Int × List (ByteArray × List (Int × Int))) × Int) (e : Ending) (w' : World) : Prop :=
  match R.1 with
  | none => e = .returned (.tuple #[.agg #[.slice none 0 0, .slice none 0 0, .int .i64 0], .int .i64 R.2]) ∧ Below w.heap.size w w'
  | some (l, pu, kl) => ∃ pa pc ka kc ks, e = .returned (.tuple #[.agg #[.slice pa l.length pc, .slice ka ks.length kc, .int .i64 pu], .int .i64 R.2]) ∧ TabIn w' pa ka pc kc ⟨l, ks, pu⟩ ∧ ks.map (fun k => (k.nm, k.rs)) = kl ∧ Below w.heap.size w w'

set_option maxRecDepth 100000 in
set_option maxHeartbeats 2000000 in
theorem read_any {w : World} (hB : Base w) (s : ByteArray) (hs : s.size ≤ 9223372036854775807) : Calls Tryz.prog 7 #[.string s] w (ReadOut w (readV s)) := by
  have hb1 : Below w.heap.size w (w.alloc (.cells #[.slice none 0 0, .slice none 0 0, .int .i64 0] 25)) := (Below.refl _ w).alloc (Nat.le_refl _) _
  by_cases hl : 2000 < s.size
  · have hR : readV s = (none, 3) := by simp [readV, hl]
    rw [hR]
    clear hR hB
    go_enter Tryz.func7, Tryz.ntmps7
    go_wp2_with fail
    exact bodyPost_ret (v := .tuple #[.agg #[.slice none 0 0, .slice none 0 0, .int .i64 0], .int .i64 3]) (by simp [results, Tryz.results7, go_sem]) rfl ⟨rfl, hb1⟩
  · have HRT := readTable_any (hB.on hb1) s (by omega)
    cases hr : rtV s with
    | none =>
      have hR : readV s = (none, 6) := by simp [readV, hl, hr]
      rw [hR]
      rw [hr] at HRT
      have HR := Lib.hid HRT
      clear hR hB HRT hr
      go_enter Tryz.func7, Tryz.ntmps7
      go_wp2_with fail
      refine HR.out.mono ?_
      rintro e w1 ⟨rfl, hb⟩
      have hB1 : Blk w1 w.heap.size 25 #[.slice none 0 0, .slice none 0 0, .int .i64 0] := (hb.block w.heap.size (by simp)).trans (Blk.new w _ _)
      obtain ⟨t0, t1, t2, t3, t4, t5, t6⟩ := hB1.three
      have hbb := Lib.hid (hb1.trans (hb.mono (by simp)))
      clear hb hb1 hB1
      go_wp2_with fail
      refine bodyPost_ret (v := .tuple #[.agg #[.slice none 0 0, .slice none 0 0, .int .i64 0], .int .i64 6]) ?_ rfl ⟨rfl, ?_⟩
      · simp [results, Tryz.results7, go_sem, *]
      · repeat (first | exact hbb.out | refine Below.setCell ?_ (by simp) _ | refine Below.alloc ?_ (by simp; omega) _)
    | some x =>
      obtain ⟨l, pu, kl⟩ := x
      obtain ⟨s1, s2⟩ := rtV_small hr (show s.size ≤ 2000 by omega)
      obtain ⟨R, hRv⟩ : ∃ R, R = readV s := ⟨_, rfl⟩
      rw [← hRv]
      have HV := Lib.hid (show R = if (checkT (plainT (l, pu, kl))).2.2 = 0 then (some (l, pu, kl), 0) else (none, 6) by rw [hRv]; simp [readV, hl, hr])
      rw [hr] at HRT
      have HR := Lib.hid HRT
      have HS := Lib.hid (And.intro s1 s2)
      clear hB HRT hr s1 s2 hRv
      go_enter Tryz.func7, Tryz.ntmps7
      go_wp2_with fail
      refine HR.out.mono ?_
      rintro e w1 ⟨pv, kv, ks, rfl, hpo, hko, hkl, hb⟩
      obtain ⟨pa, pc, rfl⟩ := own_slice hpo
      obtain ⟨ka, kc, rfl⟩ := own_slice hko.row
      have hNF : NamesFit ⟨l, ks, pu⟩ := ⟨fun p hp => Nat.le_trans (HS.out.1 p hp) (by decide), fun k hk => Nat.le_trans (HS.out.2 (k.nm, k.rs) (by rw [← hkl]; exact List.mem_map_of_mem hk)) (by decide)⟩
      have hTI := (tab_of_outs (t := ⟨l, ks, pu⟩) hpo hko hNF).2.2
      have HNF := Lib.hid hNF
      have hpo : PropsOut (w.heap.size + 1) w1 (.slice pa l.length pc) l := hpo.base (by simp)
      have hko : KindsOut (w.heap.size + 1) w1 (.slice ka ks.length kc) ks := hko.base (by simp)
      have HPO := Lib.hid hpo
      have HKO := Lib.hid hko
      have HCK := check_in (hTI.on ((Below.refl _ w1).alloc (Nat.le_refl _) (.cells #[.slice pa l.length pc, .slice ka ks.length kc, .int .i64 pu] 25)))
      have hB1 : Blk w1 w.heap.size 25 #[.slice none 0 0, .slice none 0 0, .int .i64 0] := (hb.block w.heap.size (by simp)).trans (Blk.new w _ _)
      have hbb := hb1.trans (hb.mono (by simp))
      have hb2 := (Below.refl _ w1).alloc (Nat.le_refl _) (.cells #[.slice pa l.length pc, .slice ka ks.length kc, .int .i64 pu] 25)
      have hE : checkT (plainT (l, pu, kl)) = checkT ⟨l, ks, pu⟩ := by rw [← hkl]; exact checkT_plain l ks pu
      have HVV := Lib.hid (show R = if (checkT ⟨l, ks, pu⟩).2.2 = 0 then (some (l, pu, kl), 0) else (none, 6) by rw [HV.out, hE])
      generalize checkT ⟨l, ks, pu⟩ = ck at *
      have HC := Lib.hid HCK
      have HI := Lib.hid hTI
      have HKL := Lib.hid hkl
      have HBB := Lib.hid hbb
      have hsz := hb.size
      simp only [World.size_alloc] at hsz
      obtain ⟨t0, t1, t2, t3, t4, t5, t6⟩ := hB1.three
      have HB1 := Lib.hid hB1
      clear hb hpo hko hkl hNF hTI HCK hbb hb1 hE HV HS HR hB1
      go_wp2_with fail
      refine HC.out.mono ?_
      rintro e w2 ⟨rfl, hb3⟩
      have hb4 := hb2.trans (hb3.mono (by simp))
      have hB2 : Blk w2 w.heap.size 25 #[.slice none 0 0, .slice none 0 0, .int .i64 0] := (hb4.block w.heap.size t6).trans HB1.out
      obtain ⟨v0, v1, v2, v3, v4, v5, v6⟩ := hB2.three
      have hB3 : Blk w2 w1.heap.size 25 #[.slice pa l.length pc, .slice ka ks.length kc, .int .i64 pu] := (hb3.block w1.heap.size (by simp)).trans (Blk.new w1 _ _)
      obtain ⟨z0, z1, z2, z3, z4, z5, z6⟩ := hB3.three
      have HB5 := Lib.hid (HBB.out.trans (hb4.mono HBB.out.size))
      have HG := Lib.hid (grown_of_below hb4 (some w.heap.size))
      have hne : w.heap.size ≠ w1.heap.size := by omega
      clear hb3 hb4 hB2 hB3 hb2 t0 t1 t2 t3 t4 t5 HC HBB HI HB1
      by_cases hc : ck.2.2 = 0
      · have HRR := Lib.hid (show R = (some (l, pu, kl), 0) by rw [HVV.out, if_pos hc])
        clear HVV
        rw [hc]
        go_wp2_with fail
        refine bodyPost_ret (v := .tuple #[.agg #[.slice pa l.length pc, .slice ka ks.length kc, .int .i64 pu], .int .i64 0]) ?_ rfl ?_
        · simp [results, Tryz.results7, go_sem, *]
        · have g0 := HG.out.trans (grown_set w2 w.heap.size 0 (.slice pa l.length pc))
          have g1 := g0.trans (grown_set (w2.setCell ⟨w.heap.size, 0, none⟩ (.slice pa l.length pc)) w.heap.size 1 (.slice ka ks.length kc))
          have g2 := g1.trans (grown_set ((w2.setCell ⟨w.heap.size, 0, none⟩ (.slice pa l.length pc)).setCell ⟨w.heap.size, 1, none⟩ (.slice ka ks.length kc)) w.heap.size 2 (.int .i64 pu))
          rw [HRR.out]
          refine ⟨pa, pc, ka, kc, ks, rfl, (tab_of_outs (t := ⟨l, ks, pu⟩) (HPO.out.kept g2 (by omega)) (HKO.out.far g2 (fun j e => by cases e; omega)) HNF.out).2.2, HKL.out, ?_⟩
          repeat (first | exact HB5.out | refine Below.setCell ?_ (by simp) _ | refine Below.alloc ?_ (by simp; omega) _)
      · have HRR := Lib.hid (show R = (none, 6) by rw [HVV.out, if_neg hc])
        have hcb : (ck.2.2 != 0) = true := by simpa using hc
        have hcb2 : (ck.2.2 == 0) = false := by simpa using hc
        clear HVV hc
        go_wp2_with fail
        refine bodyPost_ret (v := .tuple #[.agg #[.slice none 0 0, .slice none 0 0, .int .i64 0], .int .i64 6]) ?_ rfl ?_
        · simp [results, Tryz.results7, go_sem, *]
        · rw [HRR.out]
          refine ⟨rfl, ?_⟩
          repeat (first | exact HB5.out | refine Below.setCell ?_ (by simp) _ | refine Below.alloc ?_ (by simp; omega) _)
end Go.Proofs.YthihpggjglghoaaGreatDoor
