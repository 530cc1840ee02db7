/- wax.readTable: its loop. -/
import Derived.Test.YthihpggjglghoaaGreatDoorKds
namespace Go.Proofs.YthihpggjglghoaaGreatDoor
open Go.RowKit Go.Shelf

theorem Named.set2 {w W : World} {a b : Value} {n : Int} (h : Named w W a b n) (m : Int) : Named w (W.setCell ⟨w.heap.size, 2, none⟩ (.int .i64 m)) a b m :=
  ⟨by have := h.1.set_ 2 (.int .i64 m); simpa using this, h.2.far (p := ⟨w.heap.size, 2, none⟩) (by simp) _⟩
/-- How much of the text a reader has left. -/
def restLeft (w : World) (RB : Nat) : Nat := match w.cell? ⟨RB, 0, none⟩ with
  | some (.string s) => s.size
  | _ => 0
theorem Rdr.restLeft {w0 w : World} {RB UB : Nat} {rest : ByteArray} {ws : List ByteArray} (h : Rdr w0 w RB UB rest ws) : restLeft w RB = rest.size := by
  obtain ⟨A, c, hB, _, _⟩ := h.at_
  have h1 := hB.two.1
  unfold Go.Proofs.YthihpggjglghoaaGreatDoor.restLeft
  rw [h1]
/-- What readTable hands back. -/
def RtOut (w : World) (R : Option (List Pr × Int × List (ByteArray × List (Int × Int)))) (e : Ending) (w' : World) : Prop :=
  match R with
  | none => e = .returned (.tuple #[.agg #[.slice none 0 0, .slice none 0 0, .int .i64 0], .bool false]) ∧ Below w.heap.size w w'
  | some (l, pu, kl) => ∃ pv kv ks, e = .returned (.tuple #[.agg #[pv, kv, .int .i64 pu], .bool true]) ∧ PropsOut w.heap.size w' pv l ∧ KindsOut w.heap.size w' kv ks ∧ ks.map (fun k => (k.nm, k.rs)) = kl ∧ Below w.heap.size w w'

theorem KindsOut.base {B B' : Nat} {w : World} {v : Value} {ks : List Kd} (h : KindsOut B w v ks) (hB : B' ≤ B) : KindsOut B' w v ks := by
  refine ⟨⟨h.row.1, ?_⟩, fun k hk => ⟨(h.inn k hk).1.base hB, (h.inn k hk).2⟩⟩
  rcases h.row.2 with h2 | ⟨g, cap, cur, hv, hg, r⟩
  · exact .inl h2
  · exact .inr ⟨g, cap, cur, hv, by omega, r⟩
theorem empty_eq (s : ByteArray) : (s.toList == ByteArray.toList ⟨#[]⟩) = s.toList.isEmpty := by
  have h : ByteArray.toList ⟨#[]⟩ = [] := by simp
  rw [h]
  cases s.toList <;> rfl
/-- Where the loop has ended: the results. -/
theorem loop_end {w wr w2 : World} {A va : Option Addr} {c vc n : Nat} {l : List Pr} {ks : List Kd} {pu0 : Int} (hN : Named w wr (.slice A n c) (.slice va ks.length vc) pu0) (hK : KindsOut w2.heap.size wr (.slice va ks.length vc) ks) (hP : PropsOut (w.heap.size + 3) wr (.slice A n c) l) (hb : Below w.heap.size w wr) (_ : w2.heap.size ≤ wr.heap.size)
    (hw2 : w.heap.size + 3 ≤ w2.heap.size) (pu : Int) (W : World) (hW : W = ((((wr.setCell ⟨w.heap.size, 0, none⟩ (.slice A n c)).setCell ⟨w.heap.size, 1, none⟩ (.slice va ks.length vc)).setCell ⟨w.heap.size, 2, none⟩ (.int .i64 pu)).setCell ⟨w.heap.size + 1, 0, none⟩ (.bool true))) :
    Blk W w.heap.size 25 #[.slice A n c, .slice va ks.length vc, .int .i64 pu] ∧ Blk W (w.heap.size + 1) 4 #[.bool true] ∧ PropsOut w.heap.size W (.slice A n c) l ∧ KindsOut w.heap.size W (.slice va ks.length vc) ks ∧ Below w.heap.size w W := by
  subst hW
  have g0 := grown_set wr w.heap.size 0 (.slice A n c)
  have g1 := grown_set (wr.setCell ⟨w.heap.size, 0, none⟩ (.slice A n c)) w.heap.size 1 (.slice va ks.length vc)
  have g2 := grown_set ((wr.setCell ⟨w.heap.size, 0, none⟩ (.slice A n c)).setCell ⟨w.heap.size, 1, none⟩ (.slice va ks.length vc)) w.heap.size 2 (.int .i64 pu)
  have g3 := grown_set (((wr.setCell ⟨w.heap.size, 0, none⟩ (.slice A n c)).setCell ⟨w.heap.size, 1, none⟩ (.slice va ks.length vc)).setCell ⟨w.heap.size, 2, none⟩ (.int .i64 pu)) (w.heap.size + 1) 0 (.bool true)
  refine ⟨?_, ?_, ?_, ?_, ?_⟩
  · have b := (((hN.1.set_ 0 (.slice A n c)).set_ 1 (.slice va ks.length vc)).set_ 2 (.int .i64 pu)).far (p := ⟨w.heap.size + 1, 0, none⟩) (by simp) (.bool true)
    simpa using b
  · have b := (((hN.2.far (p := ⟨w.heap.size, 0, none⟩) (by simp) (.slice A n c)).far (p := ⟨w.heap.size, 1, none⟩) (by simp) (.slice va ks.length vc)).far (p := ⟨w.heap.size, 2, none⟩) (by simp) (.int .i64 pu)).set_ 0 (.bool true)
    simpa using b
  · exact ((((hP.kept g0 (by omega)).kept g1 (by omega)).kept g2 (by omega)).kept g3 (by omega)).base (by omega)
  · have k := (((hK.far g0 (fun j e => by cases e; omega)).far g1 (fun j e => by cases e; omega)).far g2 (fun j e => by cases e; omega)).far g3 (fun j e => by cases e; omega)
    exact k.base (by omega)
  · exact (((hb.setCell (p := ⟨w.heap.size, 0, none⟩) (Nat.le_refl _) _).setCell (p := ⟨w.heap.size, 1, none⟩) (Nat.le_refl _) _).setCell (p := ⟨w.heap.size, 2, none⟩) (Nat.le_refl _) _).setCell (p := ⟨w.heap.size + 1, 0, none⟩) (by simp) _

/-- What a function leaves hangs on its slots by its results alone. -/
theorem leaves_tmps {fn : Func} {t1 t2 : Array Value} {R : Ending → World → Prop} (ht : results fn t1 = results fn t2) : ∀ (ds : List Deferred) (u : FrameMode) (w : World), Leaves Tryz.prog fn t1 R ds u w → Leaves Tryz.prog fn t2 R ds u w := by
  intro ds
  induction ds with
  | nil =>
    intro u w h
    cases u with
    | run => exact h
    | returning => obtain ⟨v, hr, hR⟩ := h; exact ⟨v, ht ▸ hr, hR⟩
    | panicking c => exact h
  | cons d ds ih =>
    intro u w h
    obtain ⟨hu, fv, cap, f, args, h1, h2, h3⟩ := h
    refine ⟨hu, fv, cap, f, args, h1, h2, h3.mono fun e u' w' hh => ?_⟩
    cases e with
    | returned v => exact ih _ _ hh
    | panicked c => exact ih _ _ hh
    | outgrown => exact hh
theorem rt_res (t : Array Value) (d : Nat) (v : Value) (h2 : d ≠ 2) (h3 : d ≠ 3) : results Tryz.f22 (t.setIfInBounds d v) = results Tryz.f22 t := by
  simp [results, Tryz.results22, go_sem, h2, h3]

/-- A round of readTable. -/
theorem rt_rel {w wr w2 w4 w7 : World} {A va ad : Option Addr} {c vc n gg cap cp f UB4 : Nat} {l : List Pr} {ks : List Kd} {nm : ByteArray} {rs : List (Int × Int)} {r rest : ByteArray} {pu : Int} {K : Option (List (ByteArray × List (Int × Int)))}
    (HP2 : Hid (K = (kindsV f r).map ((ks ++ [Kd.mk nm none 0 rs]).map (fun k : Kd => (k.nm, k.rs)) ++ ·))) (hf : rest.size < f + 1) (hrlt : r.size < rest.size) {N : Nat} (hkl : ks.length + rest.size ≤ N)
    (hw2 : w.heap.size + 3 ≤ w2.heap.size) (h2r : w2.heap.size ≤ wr.heap.size) (HPW : ∀ g, Value.ownBlock (.slice A n c) = some g → w.heap.size + 3 ≤ g ∧ g < w2.heap.size)
    (hN : Named w wr (.slice A n c) (.slice va ks.length vc) pu) (hK : KindsOut w2.heap.size wr (.slice va ks.length vc) ks) (hP : PropsOut (w.heap.size + 3) wr (.slice A n c) l)
    (g4 : wr.grownBy w4 (some (w.heap.size + 1 + 1))) (hr4 : Rdr w w4 (w.heap.size + 1 + 1) UB4 r []) (hs4 : SpansOut wr.heap.size w4 (.slice ad rs.length cp) rs)
    (hown : w7.ownsRow w2.heap.size 51 2 (.slice (some ⟨gg, 0, none⟩) (ks.length + 1) cap) (ks.length + 1) (kdCells ks ++ [.string nm, .slice ad rs.length cp]))
    (hgrow : (w4.alloc (.cells #[.string nm, .slice ad rs.length cp] 51)).grownBy w7 (Value.ownBlock (.slice va ks.length vc))) (hat : Value.ownBlock (.slice va ks.length vc) = some gg ∨ gg = w4.heap.size + 1)
    (q : World) (hq : q = w7.setCell ⟨w.heap.size, 1, none⟩ (.slice (some ⟨gg, 0, none⟩) (ks.length + 1) cap)) :
    (∃ ks' rest' f' va' vc', Hid (K = (kindsV f' rest').map (ks'.map (fun k : Kd => (k.nm, k.rs)) ++ ·)) ∧ rest'.size < f' ∧ ks'.length + rest'.size ≤ N ∧ Hid (Named w q (.slice A n c) (.slice va' ks'.length vc') pu) ∧ Hid (KindsOut w2.heap.size q (.slice va' ks'.length vc') ks') ∧ Hid (PropsOut (w.heap.size + 3) q (.slice A n c) l) ∧ w2.heap.size ≤ q.heap.size ∧ Hid (Rdr w q (w.heap.size + 1 + 1) 0 rest' [])) ∧ restLeft q (w.heap.size + 1 + 1) = r.size := by
  have hrow := World.ownsRow.lt hK.row
  have s1 := g4.size
  have s2 := hgrow.size
  rw [World.size_alloc] at s2
  have gs := grown_set w7 w.heap.size 1 (.slice (some ⟨gg, 0, none⟩) (ks.length + 1) cap)
  rw [← hq] at gs
  have s3 := gs.size
  have hrd : Rdr w q (w.heap.size + 1 + 1) 0 r [] := ((hr4.low.on ((Below.refl _ w4).alloc (Nat.le_refl _) _)).far0 hgrow (fun j e => by have := (hrow j e).1; omega)).far0 gs (fun j e => by cases e; exact ⟨Nat.zero_le _, by omega, Nat.le_refl _⟩)
  have hmore := (hK.more g4 (by omega) h2r hs4 hown hgrow hat).far gs (fun j e => by cases e; omega)
  have hn : Named w w7 (.slice A n c) (.slice va ks.length vc) pu := by
    have h4 := hN.far g4
    exact ⟨(h4.1.alloc _).far2 hgrow (fun j e => by have := (hrow j e).1; omega), (h4.2.alloc _).far2 hgrow (fun j e => by have := (hrow j e).1; omega)⟩
  have hpp : PropsOut (w.heap.size + 3) q (.slice A n c) l := by
    have h4 := hP.kept g4 (by omega)
    have h7 : PropsOut (w.heap.size + 3) w7 (.slice A n c) l := World.ownsRow.kept (World.ownsRow.alloc h4 _) hgrow (by
      cases hv : Value.ownBlock (.slice A n c) with
      | none => exact .inl rfl
      | some g => right; intro e; have h8 := (HPW g hv).2; have h9 := (hrow g e.symm).1; omega)
    exact World.ownsRow.kept h7 gs (by
      cases hv : Value.ownBlock (.slice A n c) with
      | none => exact .inl rfl
      | some g => right; intro e; have h8 := (HPW g hv).1; cases e; omega)
  refine ⟨⟨ks ++ [Kd.mk nm ad cp rs], r, f, some ⟨gg, 0, none⟩, cap, ?_, by omega, by simp; omega, ?_, ?_, hpp, by omega, hrd⟩, hrd.restLeft⟩
  · show K = _
    rw [HP2.out]
    simp
  · show Named _ _ _ _ _
    rw [List.length_append, List.length_singleton]
    refine ⟨?_, ?_⟩
    · have b := hn.1.set_ 1 (.slice (some ⟨gg, 0, none⟩) (ks.length + 1) cap)
      rw [hq]
      simpa using b
    · exact hn.2.far2 gs (fun j e => by cases e; omega)
  · show KindsOut _ _ _ _
    rw [List.length_append, List.length_singleton]
    exact hmore

set_option maxRecDepth 100000 in
set_option maxHeartbeats 4000000 in
theorem readTable_loop {w : World} (hB : Base w) (s : ByteArray) (hs : s.size ≤ 100000000) {l : List Pr} {cr cr2 : ByteArray} {pu : Int} (h1 : tstV s = some (l, cr, [])) (h2 : purV cr = some (pu, cr2, [])) (R : Option (List Pr × Int × List (ByteArray × List (Int × Int)))) (hR : R = (kindsV (cr2.size + 1) cr2).map fun kl => (l, pu, kl)) :
    Calls Tryz.prog 22 #[.string s] w (RtOut w R) := by
  have hmf : ∀ (fn : Fn) (first cap : Array Value) (w : World), (Instr.makeFunc fn first cap).run Tryz.prog w = .ok (.func fn first cap) w := fun _ _ _ _ => rfl
  obtain ⟨i0, hi0, hz0, hz1, hz2⟩ := info_parts infoKd
  have HT := tests_any (rdr_start hB s hs)
  rw [h1] at HT
  have hbe := (rdr_start hB s hs).be
  have hn0 := named_start w (.cells #[.string s, .slice none 0 0] 98)
  have HT2 := Lib.hid HT
  have HRR := Lib.hid hR
  clear HT h1 hR
  go_enter_defers Tryz.func22, Tryz.ntmps22
  go_wp2_with fail
  refine HT2.out.mono ?_
  rintro e w1 ⟨v, UB, rfl, hv, hg, hr⟩
  obtain ⟨A, c, rfl⟩ := own_slice hv
  have hv : PropsOut (w.heap.size + 3) w1 (.slice A l.length c) l := hv.base (by simp)
  have hn1 := hn0.far hg
  have hn2 := hn1.set0 (.slice A l.length c)
  have hgs := grown_set w1 w.heap.size 0 (.slice A l.length c)
  have hr2 := hr.low.far0 hgs (fun j e => by cases e; exact ⟨Nat.zero_le _, by omega, Nat.le_refl _⟩)
  have HP := purity_any hr2
  rw [h2] at HP
  have HP2 := Lib.hid HP
  obtain ⟨t0, t1, t2, t3, t4, t5, t6⟩ := hn1.1.three
  have HN2 := Lib.hid hn2
  have hplt := World.ownsRow.lt hv
  have hsz1 := hg.size
  simp only [World.size_alloc] at hsz1
  have HV2 := Lib.hid (World.ownsRow.kept hv hgs (by
    cases hb : Value.ownBlock (.slice A l.length c) with
    | none => exact .inl rfl
    | some g => right; intro e; have := (hplt g hb).1; cases e; omega))
  clear hn0 hbe hg HT2 hv hr hr2 HP hn1 hn2 h2 hgs
  go_wp2_with fail
  refine HP2.out.mono ?_
  rintro e w2 ⟨v2, UB2, rfl, rfl, hg2, hr3⟩
  have hn3 := HN2.out.far hg2
  have hn4 := hn3.set2 pu
  have hgs := grown_set w2 w.heap.size 2 (.int .i64 pu)
  have hr4 := hr3.low.far0 hgs (fun j e => by cases e; exact ⟨Nat.zero_le _, by omega, Nat.le_refl _⟩)
  have hsz2 := hg2.size
  simp only [World.size_setCell] at hsz2
  have hpo : PropsOut (w.heap.size + 3) (w2.setCell ⟨w.heap.size, 2, none⟩ (.int .i64 pu)) (.slice A l.length c) l := World.ownsRow.kept (World.ownsRow.kept HV2.out hg2 (by
    cases hb : Value.ownBlock (.slice A l.length c) with
    | none => exact .inl rfl
    | some g => right; intro e; have := (hplt g hb).1; cases e; omega)) hgs (by
    cases hb : Value.ownBlock (.slice A l.length c) with
    | none => exact .inl rfl
    | some g => right; intro e; have := (hplt g hb).1; cases e; omega)
  have hpw : ∀ g, Value.ownBlock (.slice A l.length c) = some g → w.heap.size + 3 ≤ g ∧ g < w2.heap.size := fun g hb => by have := hplt g hb; omega
  obtain ⟨t0, t1, t2, t3, t4, t5, t6⟩ := hn3.1.three
  have HN4 := Lib.hid hn4
  have HR4 := Lib.hid hr4
  have HPO := Lib.hid hpo
  have HPW := Lib.hid hpw
  have hrs := hr4.siz.1
  clear HP2 hg2 HN2 hn3 hn4 hgs hr3 hr4 hpo hpw hplt HV2
  go_wp2_with fail
  go_loopw [20] (fun _ wr => ∃ ks rest f va vc, Hid (kindsV (cr2.size + 1) cr2 = (kindsV f rest).map (ks.map (fun k : Kd => (k.nm, k.rs)) ++ ·)) ∧ rest.size < f ∧ ks.length + rest.size ≤ cr2.size ∧ Hid (Named w wr (.slice A l.length c) (.slice va ks.length vc) pu) ∧ Hid (KindsOut w2.heap.size wr (.slice va ks.length vc) ks) ∧ Hid (PropsOut (w.heap.size + 3) wr (.slice A l.length c) l) ∧ w2.heap.size ≤ wr.heap.size ∧ Hid (Rdr w wr (w.heap.size + 1 + 1) 0 rest [])) (fun _ wr => restLeft wr (w.heap.size + 1 + 1))
  case atStart => exact ⟨[], cr2, cr2.size + 1, none, 0, by show _ = _; simp, by omega, by simp, HN4.out, KindsOut.nil _ _, HPO.out, by simp, HR4.out⟩
  case round =>
    obtain ⟨ks, rest, f, va, vc, HKV, hf, hkl, HNr, HKO, HPr, h2r, HRr⟩ := hrel
    obtain ⟨A2, c2, hBl, _, hcc⟩ := HRr.out.at_
    obtain ⟨r0, r1, r2, r3, r4⟩ := hBl.two
    have hml := HRr.out.restLeft
    have hbr := HRr.out.be
    obtain ⟨t0, t1, t2, t3, t4, t5, t6⟩ := HNr.out.1.three
    obtain ⟨o0, o1, o2⟩ := HNr.out.2.one
    clear hBl
    cases hE : rest.toList.isEmpty with
    | true =>
      have HP2 := Lib.hid (show R = some (l, pu, ks.map fun k : Kd => (k.nm, k.rs)) by rw [HRR.out, HKV.out, kindsV_end ((empty_eq rest).trans hE)]; simp)
      obtain ⟨u1, u2, u3, u4, u5⟩ := loop_end HNr.out HKO.out HPr.out hbr h2r (by omega) pu _ rfl
      obtain ⟨x0, x1, x2, _, _, _, _⟩ := u1.three
      obtain ⟨y0, _, _⟩ := u2.one
      have HF := Lib.hid (And.intro u3 (And.intro u4 u5))
      clear u1 u2 u3 u4 u5
      go_wp2_with fail
      refine leaves_cons (f := 48) (args := #[.pointer (some ⟨w.heap.size, 0, none⟩), .pointer (some ⟨w.heap.size + 1, 0, none⟩)]) (by simp) (by simp [go_sem]) ?_
      refine (rtc_idle _ _ _).mono ?_
      rintro e u' w'' ⟨rfl, rfl, rfl⟩
      rw [HP2.out]
      simp [Leaves, settle, results, Tryz.results22, go_sem, x0, x1, x2, y0]
      exact ⟨.slice A l.length c, .slice va ks.length vc, ks, rfl, HF.out.1, HF.out.2.1, rfl, HF.out.2.2⟩
    | false =>
      obtain ⟨f, rfl⟩ : ∃ f', f = f' + 1 := ⟨f - 1, by omega⟩
      cases hk : kndV rest with
      | none =>
        have HK := kind_any (HRr.out.on ((Below.refl _ wr).drew))
        rw [hk] at HK
        have HK2 := Lib.hid HK
        have HP2 := Lib.hid (show R = none by rw [HRR.out, HKV.out, kindsV_stop ((empty_eq rest).trans hE) hk]; rfl)
        clear HK
        go_wp2_with fail
        refine wp_region_any (by kernel_rfl) ?_
        refine wpAny_take (i := 0) (v := .pointer (some ⟨w.heap.size, 1, none⟩)) rfl (by kernel_rfl) (by kernel_rfl) (by kernel_rfl) (fun _ _ _ h => leaves_tmps (rt_res _ 20 _ (by decide) (by decide)) _ _ _ h) (Or.inl ⟨by rfl, fun w => by go_simp⟩) ?_
        refine wpAny_take (i := 2) (v := .pointer (some ⟨w.heap.size + 1 + 1, 0, none⟩)) rfl (by kernel_rfl) (by kernel_rfl) (by kernel_rfl) (fun _ _ _ h => leaves_tmps (rt_res _ 22 _ (by decide) (by decide)) _ _ _ h) (Or.inl ⟨by rfl, fun w => by go_simp⟩) ?_
        refine wpAny_ready (rs := [1, 3]) (by kernel_rfl) (by simp) ?_
        refine AllReady.cons rfl (fun K hK => ?_) ?_
        · go_simp
          refine hK _ _ ?_
          clear hK K
          refine wpAny_ready (rs := [3]) (by kernel_rfl) (by simp) ?_
          refine AllReady.cons rfl (fun K hK => ?_) AllReady.nil
          go_simp
          refine HK2.out.mono ?_
          rintro e w4 ⟨rfl, hg4⟩
          go_wp2_with fail
          clear hK K
          have hn3 := HNr.out.far (grown_undrew hg4)
          have hb3 : Below w.heap.size w w4 := hbr.grown (grown_undrew hg4) hbr.size (fun k e => by cases e; omega)
          clear hg4
          refine leaves_cons (f := 48) (args := #[.pointer (some ⟨w.heap.size, 0, none⟩), .pointer (some ⟨w.heap.size + 1, 0, none⟩)]) (by simp) (by simp [go_sem]) ?_
          refine (rtc_catch hn3.1 hn3.2 (by omega) _ _ []).mono ?_
          rintro e u' w'' ⟨rfl, rfl, rfl⟩
          obtain ⟨c1, c2⟩ := cleared_reads hn3
          obtain ⟨t0, t1, t2, _, _, _, _⟩ := c1.three
          obtain ⟨o0, _, _⟩ := c2.one
          have hfin := cleared_below hb3
          rw [HP2.out]
          simp [RtOut, Leaves, settle, results, Tryz.results22, go_sem, t0, t1, t2, o0, hfin]
        · refine AllReady.cons rfl (fun K hK => ?_) AllReady.nil
          go_simp
          refine HK2.out.mono ?_
          rintro e w4 ⟨rfl, hg4⟩
          go_wp2_with fail
          clear hK K
          have hn3 := HNr.out.far (grown_undrew hg4)
          have hb3 : Below w.heap.size w w4 := hbr.grown (grown_undrew hg4) hbr.size (fun k e => by cases e; omega)
          clear hg4
          refine leaves_cons (f := 48) (args := #[.pointer (some ⟨w.heap.size, 0, none⟩), .pointer (some ⟨w.heap.size + 1, 0, none⟩)]) (by simp) (by simp [go_sem]) ?_
          refine (rtc_catch hn3.1 hn3.2 (by omega) _ _ []).mono ?_
          rintro e u' w'' ⟨rfl, rfl, rfl⟩
          obtain ⟨c1, c2⟩ := cleared_reads hn3
          obtain ⟨t0, t1, t2, _, _, _, _⟩ := c1.three
          obtain ⟨o0, _, _⟩ := c2.one
          have hfin := cleared_below hb3
          rw [HP2.out]
          simp [RtOut, Leaves, settle, results, Tryz.results22, go_sem, t0, t1, t2, o0, hfin]
      | some y =>
        obtain ⟨x, r, ws⟩ := y
        obtain ⟨hre, rfl, hrlt⟩ := kndV_some hk
        have HK := kind_any (HRr.out.on ((Below.refl _ wr).drew))
        rw [hk] at HK
        have HK2 := Lib.hid HK
        have HP2 := Lib.hid (show kindsV (cr2.size + 1) cr2 = (kindsV f r).map ((ks ++ [Kd.mk x.1 none 0 x.2]).map (fun k : Kd => (k.nm, k.rs)) ++ ·) by
          rw [HKV.out, kindsV_step ((empty_eq rest).trans hE) hk]
          cases kindsV f r <;> simp)
        have HNN := Lib.hid (⟨by unfold maxLen; omega, by omega⟩ : ks.length + 1 ≤ maxLen ∧ (ks.length + 1) * 40 ≤ 140737488355328)
        have hkb := World.ownsRow.lt HKO.out.row
        have aX : some w.heap.size ≠ Value.ownBlock (.slice va ks.length vc) := fun e => by have := (hkb _ e.symm).1; omega
        have aR : some w.heap.size ≠ some (w.heap.size + 1 + 1) := fun e => by simp at e; omega
        clear HK hre
        go_wp2_with fail
        refine wp_region_noPanic ?_
        go_region_law (first | (go_simp; refine HK2.out.mono ?_; rintro e w4 ⟨v4, UB4, rfl, ⟨sl, rfl, hs4⟩, hg4, hr4⟩; obtain ⟨ad, cp, rfl⟩ := own_slice hs4; have hz4 := hg4.size; have ck4 : w4.cell? ⟨w.heap.size, 1, none⟩ = some (.slice va ks.length vc) := (hg4.cell_far ⟨w.heap.size, 1, none⟩ t6 aR).trans t1; have fk4 : w4.frozen? ⟨w.heap.size, 1, none⟩ = false := (hg4.frozen_far ⟨w.heap.size, 1, none⟩ t6 aR).trans t4; have hlt4 : w.heap.size < w4.heap.size := Nat.lt_of_lt_of_le t6 hz4) | (refine step_append_lies _ (by rfl) _ _ _ (by rfl) w2.heap.size 51 i0 (.agg #[.string ⟨#[]⟩, .slice none 0 0]) 2 40 Tryz.underlying23 hi0 hz0 hz1 hz2 rfl (by omega) (.slice va ks.length vc) ks.length (kdCells ks) (by rfl) (World.ownsRow.alloc (KindsOut.far HKO.out (grown_undrew hg4) (by intro j e; cases e; omega)).row _) ⟨w4.heap.size, 0, none⟩ 1 1 [.string x.1, .slice ad x.2.length cp] (by rfl) (by rfl) (World.news_of_block (cs := #[.string x.1, .slice ad x.2.length cp]) (t := 51) (fr := (0, 0)) (new_two _ _ _ _ _ rfl)) (by simp [Value.oneCell']) (by omega) HNN.out.1 HNN.out.2 (by simp; exact Nat.le_succ_of_le (Nat.le_trans h2r hz4)) (w4.heap.size + 1) (by simp) ?_; intro gg cap w7 hown1 hgrow hat hglt; have ck7 : w7.cell? ⟨w.heap.size, 1, none⟩ = some (.slice va ks.length vc) := (hgrow.cell_far ⟨w.heap.size, 1, none⟩ (by rw [World.size_alloc]; exact Nat.lt_succ_of_lt hlt4) aX).trans ((((Below.refl _ w4).alloc (Nat.le_refl _) _).cell (p := ⟨w.heap.size, 1, none⟩) hlt4).trans ck4); have fk7 : w7.frozen? ⟨w.heap.size, 1, none⟩ = false := (hgrow.frozen_far ⟨w.heap.size, 1, none⟩ (by rw [World.size_alloc]; exact Nat.lt_succ_of_lt hlt4) aX).trans ((((Below.refl _ w4).alloc (Nat.le_refl _) _).frozen (p := ⟨w.heap.size, 1, none⟩) hlt4).trans fk4)) | fail)
        all_goals refine NoPanic.normal ?_
        all_goals (have HW4 := Lib.hid (rt_rel HP2 hf hrlt hkl (show w.heap.size + 3 ≤ w2.heap.size by omega) h2r HPW.out HNr.out HKO.out HPr.out (grown_undrew hg4) hr4 hs4 hown1 hgrow hat _ rfl); clear hg4 hr4 hs4 hown1 hgrow hat ck4 fk4 ck7 fk7 t0 t1 t2 t3 t4 t5 t6 o0 o1 o2 r0 r1 r2 r3 r4)
        all_goals go_wp2_with fail
        all_goals go_roundw
        all_goals first
          | exact HW4.out.1
          | (rw [HW4.out.2, hml]; exact hrlt)
end Go.Proofs.YthihpggjglghoaaGreatDoor
