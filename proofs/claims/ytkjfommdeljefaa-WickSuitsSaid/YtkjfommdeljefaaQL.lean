/- wick.Thinnest: contract. -/
import Derived.Test.YtkjfommdeljefaaQK
import Derived.Test.YtkjfommdeljefaaQM
import Derived.RangeFuncNested
import Derived.RangeFuncBound
import Derived.RangeFuncCalls
import Derived.RangeFuncLeaves
import Derived.RangeFuncWrites
import Derived.Shelf.RegionOpen
import Derived.OwnWalkIn
import Derived.TacticsInMore
import Derived.LoopNIn
import Derived.LoopIn
import Derived.Maps.OwnIn
namespace Go.Proofs.Ytkjfommdeljefaa
open Go.RowKit Go.Shelf Go.Maps
attribute [local go_sem] Oper.semAt_some


/-- Of how many threads a wick is. -/
def thW (ks : List Wk) (i : Nat) : Int := match ks[i]? with
  | some k => k.th
  | none => 0
/-- The thinner one of the best so far and another wick. -/
def thinS (ks : List Wk) (best : Int) (i : Nat) : Int := if best < 0 ∨ thW ks i < thW ks best.toNat then i else best
def thinV (ks : List Wk) (l : List Nat) : Int := l.foldl (thinS ks) (-1)
def thinF (ks : List Wk) {m : Nat} (l : List (Fin m)) : Int := l.foldl (fun b i => thinS ks b i.1) (-1)
theorem thinF_snoc (ks : List Wk) {m : Nat} (l : List (Fin m)) (i : Fin m) : thinF ks (l ++ [i]) = thinS ks (thinF ks l) i.1 := by simp [thinF, List.foldl_append]
theorem thinF_map (ks : List Wk) {m : Nat} (l : List (Fin m)) : thinF ks l = thinV ks (l.map (·.1)) := by simp [thinF, thinV, List.foldl_map]
theorem thinS_in {ks : List Wk} {b : Int} {m i : Nat} (hb : b = -1 ∨ ∃ j : Nat, j < m ∧ b = j) (hi : i < m) : thinS ks b i = -1 ∨ ∃ j : Nat, j < m ∧ thinS ks b i = j := by
  unfold thinS
  split
  · exact .inr ⟨i, hi, rfl⟩
  · exact hb
/-- What Thinnest hands back. -/
def thinOut (z : Int) : Value := if z < 0 then .tuple #[.int .i64 0, .int .i64 9] else .tuple #[.int .i64 z, .int .i64 0]
/-- Between two rounds of Thinnest. -/
def ThI (w : World) (p : Sp) (T7 T8 Bs : Nat) (V : Array Value) (pre : List (Fin p.s.ks.length)) (W : World) : Prop :=
  (Blk W T8 3 #[.int .i64 (thinF p.s.ks pre)] ∧ Blk W T7 93 V ∧ Blk W Bs 93 V ∧ Below w.heap.size w W) ∧ (thinF p.s.ks pre = -1 ∨ ∃ j : Nat, j < p.s.ks.length ∧ thinF p.s.ks pre = j)
theorem thI_own {w : World} {p : Sp} {T7 T8 Bs : Nat} {V : Array Value} (B : Nat) (hB : w.heap.size ≤ B) : OwnFrom B (ThI w p T7 T8 Bs V) := by
  rintro s W W' row ⟨⟨h1, h2, h3, h4⟩, h5⟩ hg hr
  have hr' : ∀ r, row = some r → ∃ o : Obj, W.heap[r]? = some o ∧ o.isCells = false := fun r e => (hr r e).2
  exact ⟨⟨blk_not h1 hg hr', blk_not h2 hg hr', blk_not h3 hg hr', h4.grown hg h4.size (fun k e => by have := (hr k e).1; omega)⟩, h5⟩
set_option maxRecDepth 100000 in
set_option maxHeartbeats 2000000 in
theorem thin_err {w : World} {p : Sp} {c : Cd} (h : ShIn w p) (he : askCE p.s c ≠ 0) :
    Calls Try.prog 28 #[.agg #[.slice p.ka p.s.ks.length p.kc, .slice p.xa p.s.xs.length p.xc, .int .i64 p.s.flo, .int .i64 p.s.fhi, .int .i64 p.s.plo, .int .i64 p.s.phi], .agg #[.int .i64 c.wax, .int .i64 c.dia, .int .i64 c.dra, .int .i64 c.clo, .int .i64 c.chi]] w fun e w' => e = .returned (.tuple #[.int .i64 0, .int .i64 (askCE p.s c)]) ∧ Below w.heap.size w w' := by
  have hb0 := ((Bx.nil w).alloc #[.slice p.ka p.s.ks.length p.kc, .slice p.xa p.s.xs.length p.xc, .int .i64 p.s.flo, .int .i64 p.s.fhi, .int .i64 p.s.plo, .int .i64 p.s.phi] 27).alloc #[.int .i64 c.wax, .int .i64 c.dia, .int .i64 c.dra, .int .i64 c.clo, .int .i64 c.chi] 34
  simp only [World.size_alloc] at hb0
  have HB : Hid (Bx w _ _) := Lib.hid hb0
  have HH := Lib.hid h
  have hz : (askCE p.s c != 0) = true := by simpa using he
  have HE : Hid (orE [shopE p.s, candE p.s c] = askCE p.s c) := rfl
  clear h hb0
  go_enter Try.func28, Try.ntmps28
  go_wp2_with fail
  refine wp_of_eq (th_region (S := Bx w [(w.heap.size + 1, 34, #[.int .i64 c.wax, .int .i64 c.dia, .int .i64 c.dra, .int .i64 c.clo, .int .i64 c.chi]), (w.heap.size, 27, #[.slice p.ka p.s.ks.length p.kc, .slice p.xa p.s.xs.length p.xc, .int .i64 p.s.flo, .int .i64 p.s.fhi, .int .i64 p.s.plo, .int .i64 p.s.phi])]) (fun _ _ h hb => h.on hb) (P := w.heap.size) (Q0 := w.heap.size + 1) (p := p) (c := c) (fun W h => h.get (by simp)) (fun W h => h.get (by simp)) (fun W h => HH.out.on h.b) HB (Lib.hid fun u W hS => ?_)) (by kernel_rfl)
  rw [HE.out]
  have HS := Lib.hid hS
  clear hS
  go_wp2_with fail
  refine bodyPost_ret (v := .tuple #[.int .i64 0, .int .i64 (askCE p.s c)]) ?_ rfl ⟨rfl, HS.out.b⟩
  simp [results, Try.results28, go_sem]
set_option maxRecDepth 100000 in
set_option maxHeartbeats 4000000 in
theorem thin_in {w : World} {p : Sp} {c : Cd} {x : Wx} (h : ShIn w p) (ha : AskC p.s c x) (hs : askCE p.s c = 0) :
    CallsIn Fence.wide 10 Try.prog 28 #[.agg #[.slice p.ka p.s.ks.length p.kc, .slice p.xa p.s.xs.length p.xc, .int .i64 p.s.flo, .int .i64 p.s.fhi, .int .i64 p.s.plo, .int .i64 p.s.phi], .agg #[.int .i64 c.wax, .int .i64 c.dia, .int .i64 c.dra, .int .i64 c.clo, .int .i64 c.chi]] w fun e w' => e = .returned (thinOut (thinV p.s.ks (suitN p.s x c p.s.ks.length))) ∧ Below w.heap.size w w' := by
  have hro : Fence.wide.round = none := rfl
  have hn1 : 1 ≤ 10 := by decide
  have hb0 := ((Bx.nil w).alloc #[.slice p.ka p.s.ks.length p.kc, .slice p.xa p.s.xs.length p.xc, .int .i64 p.s.flo, .int .i64 p.s.fhi, .int .i64 p.s.plo, .int .i64 p.s.phi] 27).alloc #[.int .i64 c.wax, .int .i64 c.dia, .int .i64 c.dra, .int .i64 c.clo, .int .i64 c.chi] 34
  simp only [World.size_alloc] at hb0
  have HB : Hid (Bx w _ _) := Lib.hid hb0
  have HH := Lib.hid h
  have HA := Lib.hid ha
  have HE : Hid (orE [shopE p.s, candE p.s c] = 0) := hs
  have HN := Lib.hid ha.sh.nk
  clear h hb0 ha hs
  refine callsIn_of_wp_marks Try.func28 rfl trivial ?_ hro
  simp only [Try.ntmps28, List.size_toArray, List.length_cons, List.length_nil, Nat.reduceAdd, Nat.reduceSub, Array.replicate_succ, Array.replicate_zero, List.push_toArray, List.append_toArray, List.nil_append, List.cons_append]
  gi_wp2_with fail
  refine wpIn_wide.2 (wp_of_eq (th_region (S := Bx w [(w.heap.size + 1, 34, #[.int .i64 c.wax, .int .i64 c.dia, .int .i64 c.dra, .int .i64 c.clo, .int .i64 c.chi]), (w.heap.size, 27, #[.slice p.ka p.s.ks.length p.kc, .slice p.xa p.s.xs.length p.xc, .int .i64 p.s.flo, .int .i64 p.s.fhi, .int .i64 p.s.plo, .int .i64 p.s.phi])]) (fun _ _ h hb => h.on hb) (P := w.heap.size) (Q0 := w.heap.size + 1) (p := p) (c := c) (fun W h => h.get (by simp)) (fun W h => h.get (by simp)) (fun W h => HH.out.on h.b) HB (Lib.hid fun u W hS => ?_)) (by kernel_rfl))
  rw [HE.out]
  have HC := Lib.hid hS
  clear hS
  have sb : Blk _ (w.heap.size) 27 #[.slice p.ka p.s.ks.length p.kc, .slice p.xa p.s.xs.length p.xc, .int .i64 p.s.flo, .int .i64 p.s.fhi, .int .i64 p.s.plo, .int .i64 p.s.phi] := HC.out.get (by simp); have s0 := sb.cell 0; have s1 := sb.cell 1; have s2 := sb.cell 2; have s3 := sb.cell 3; have s4 := sb.cell 4; have s5 := sb.cell 5; have sl := sb.lt; clear sb
  have cb : Blk _ (w.heap.size + 1) 34 #[.int .i64 c.wax, .int .i64 c.dia, .int .i64 c.dra, .int .i64 c.clo, .int .i64 c.chi] := HC.out.get (by simp); have c0 := cb.cell 0; have c1 := cb.cell 1; have c2 := cb.cell 2; have c3 := cb.cell 3; have c4 := cb.cell 4; have cl := cb.lt; clear cb
  gi_wp2_with fail
  refine ⟨trivial, ?_⟩
  refine (callsIn_wide.2 (suiting_any _ _ _)).mono ?_
  rintro e w2 ⟨rfl, hw⟩
  have B7 : Blk w2 W.heap.size 93 #[.slice p.ka p.s.ks.length p.kc, .slice p.xa p.s.xs.length p.xc, .int .i64 p.s.flo, .int .i64 p.s.fhi, .int .i64 p.s.plo, .int .i64 p.s.phi, .int .i64 c.wax, .int .i64 c.dia, .int .i64 c.dra, .int .i64 c.clo, .int .i64 c.chi] := by rw [hw]; exact ((Blk.new W _ _).alloc _).alloc _
  have B8 : Blk w2 (W.heap.size + 1) 3 #[.int .i64 (-1)] := by rw [hw]; exact (Blk.new1 W _ _ _).alloc _
  have BB : Blk w2 (W.heap.size + 1 + 1) 93 #[.slice p.ka p.s.ks.length p.kc, .slice p.xa p.s.xs.length p.xc, .int .i64 p.s.flo, .int .i64 p.s.fhi, .int .i64 p.s.plo, .int .i64 p.s.phi, .int .i64 c.wax, .int .i64 c.dia, .int .i64 c.dra, .int .i64 c.clo, .int .i64 c.chi] := by rw [hw]; exact Blk.new2 W _ _ _ _
  have hsw := HC.out.b.size
  have hbw : Below w.heap.size w w2 := by rw [hw]; exact ((HC.out.b.alloc hsw _).alloc (by simp; omega) _).alloc (by simp; omega) _
  have hI0 : ThI w p W.heap.size (W.heap.size + 1) (W.heap.size + 1 + 1) #[.slice p.ka p.s.ks.length p.kc, .slice p.xa p.s.xs.length p.xc, .int .i64 p.s.flo, .int .i64 p.s.fhi, .int .i64 p.s.plo, .int .i64 p.s.phi, .int .i64 c.wax, .int .i64 c.dia, .int .i64 c.dra, .int .i64 c.clo, .int .i64 c.chi] [] w2 := ⟨⟨B8, B7, BB, hbw⟩, .inl rfl⟩
  have HBW := Lib.hid hbw
  have HBB := Lib.hid BB
  have HI0 := Lib.hid hI0
  clear hw B7 B8 BB hbw hI0 s0 s1 s2 s3 s4 s5 sl c0 c1 c2 c3 c4 cl
  simp only [World.size_alloc]
  gi_wp2_with fail
  refine wpIn_rangeFunc_ownG hro hn1 (gf := 90) (lb := #[.pointer (some ⟨W.heap.size + 1 + 1, 0, none⟩)]) rfl trivial (enters_of Try.func90 (by kernel_rfl) rfl)
    (suit_stops (wB := w) (w0 := w2) HH.out HA.out _ HBB.out HBW.out 9 (by decide)) keepB_t (keepB_b HBW.out.size) (Below.refl _ _) (fun _ => rfl)
    (ThI w p W.heap.size (W.heap.size + 1) (W.heap.size + 1 + 1) #[.slice p.ka p.s.ks.length p.kc, .slice p.xa p.s.xs.length p.xc, .int .i64 p.s.flo, .int .i64 p.s.fhi, .int .i64 p.s.plo, .int .i64 p.s.phi, .int .i64 c.wax, .int .i64 c.dia, .int .i64 c.dra, .int .i64 c.clo, .int .i64 c.chi]) (fun _ _ _ => False) (thI_own _ HBW.out.size) (fun _ _ _ _ _ hs _ _ => hs) HI0.out
    (fun i => { tmps := #[.agg #[.slice p.ka p.s.ks.length p.kc, .slice p.xa p.s.xs.length p.xc, .int .i64 p.s.flo, .int .i64 p.s.fhi, .int .i64 p.s.plo, .int .i64 p.s.phi], .agg #[.int .i64 c.wax, .int .i64 c.dia, .int .i64 c.dra, .int .i64 c.clo, .int .i64 c.chi], .pointer (some ⟨w.heap.size, 0, none⟩), .pointer (some ⟨w.heap.size + 1, 0, none⟩), .int .i64 0, .int .i64 0, .int .i64 0, .pointer (some ⟨W.heap.size, 0, none⟩), .pointer (some ⟨W.heap.size + 1, 0, none⟩), .int .i64 (i.1 : Int), u 0, u 1, u 2, u 3, u 4, u 5, u 6, .int .i64 0, .bool false, undef, .agg #[.slice p.ka p.s.ks.length p.kc, .slice p.xa p.s.xs.length p.xc, .int .i64 p.s.flo, .int .i64 p.s.fhi, .int .i64 p.s.plo, .int .i64 p.s.phi], .agg #[.int .i64 c.wax, .int .i64 c.dia, .int .i64 c.dra, .int .i64 c.clo, .int .i64 c.chi], .agg #[.slice p.ka p.s.ks.length p.kc, .slice p.xa p.s.xs.length p.xc, .int .i64 p.s.flo, .int .i64 p.s.fhi, .int .i64 p.s.plo, .int .i64 p.s.phi, .int .i64 c.wax, .int .i64 c.dia, .int .i64 c.dra, .int .i64 c.clo, .int .i64 c.chi], .agg #[.slice p.ka p.s.ks.length p.kc, .slice p.xa p.s.xs.length p.xc, .int .i64 p.s.flo, .int .i64 p.s.fhi, .int .i64 p.s.plo, .int .i64 p.s.phi, .int .i64 c.wax, .int .i64 c.dia, .int .i64 c.dra, .int .i64 c.clo, .int .i64 c.chi], .func (.func 90) #[] #[.pointer (some ⟨W.heap.size + 1 + 1, 0, none⟩)], .int .i64 (i.1 : Int), undef, undef, undef, undef, undef, undef, undef, undef, undef, undef, undef, undef, undef, undef, undef, undef, undef, undef, undef, undef, undef, undef, undef], defers := [] }) ?assign ?body ?done ?stop
  case assign =>
    intro lo i W' K hK
    gi_wp2_with fail
    exact hK
  case body =>
    rintro lo pre i W' ⟨⟨J1, J2, J3, J4⟩, J5⟩ hlt
    have hi := i.2
    obtain ⟨ki, hki⟩ : ∃ ki, p.s.ks[i.1]? = some ki := ⟨p.s.ks[i.1], List.getElem?_eq_getElem hi⟩
    have hti : thW p.s.ks i.1 = ki.th := by unfold thW; rw [hki]
    obtain ⟨b, o, hka, hbb, -, a1, -, -⟩ := wks_at ((HH.out.on J4).ks.at_) hki
    have m0 := J1.cell 0
    have m1 := J1.frozen 0
    have m2 := J1.lt
    have n0 := J2.cell 0
    have n2 := J2.lt
    have HKeep : Hid (∀ nq, KeepsFrom w2.heap.size W' (W'.drewN nq) ∧ KeepB w.heap.size (W.heap.size + 1 + 1) W' (W'.drewN nq) ∧ (Blk (W'.drewN nq) (W.heap.size + 1) 3 #[.int .i64 (thinF p.s.ks pre)] ∧ Blk (W'.drewN nq) W.heap.size 93 #[.slice p.ka p.s.ks.length p.kc, .slice p.xa p.s.xs.length p.xc, .int .i64 p.s.flo, .int .i64 p.s.fhi, .int .i64 p.s.plo, .int .i64 p.s.phi, .int .i64 c.wax, .int .i64 c.dia, .int .i64 c.dra, .int .i64 c.clo, .int .i64 c.chi] ∧ Blk (W'.drewN nq) (W.heap.size + 1 + 1) 93 #[.slice p.ka p.s.ks.length p.kc, .slice p.xa p.s.xs.length p.xc, .int .i64 p.s.flo, .int .i64 p.s.fhi, .int .i64 p.s.plo, .int .i64 p.s.phi, .int .i64 c.wax, .int .i64 c.dia, .int .i64 c.dra, .int .i64 c.clo, .int .i64 c.chi] ∧ Below w.heap.size w (W'.drewN nq))) := fun nq => ⟨⟨by simp, fun k o _ h _ => by simpa using h⟩, ⟨below_drewN' (Below.refl _ _) _, fun cs hc => hc.on (below_drewN' (Below.refl _ _) _)⟩, J1.on (below_drewN' (Below.refl _ _) _), J2.on (below_drewN' (Below.refl _ _) _), J3.on (below_drewN' (Below.refl _ _) _), below_drewN' J4 _⟩
    have HPut : Hid (∀ nq, KeepsFrom w2.heap.size W' ((W'.drewN nq).setCell ⟨W.heap.size + 1, 0, none⟩ (.int .i64 (i.1 : Int))) ∧ KeepB w.heap.size (W.heap.size + 1 + 1) W' ((W'.drewN nq).setCell ⟨W.heap.size + 1, 0, none⟩ (.int .i64 (i.1 : Int))) ∧ (Blk ((W'.drewN nq).setCell ⟨W.heap.size + 1, 0, none⟩ (.int .i64 (i.1 : Int))) (W.heap.size + 1) 3 #[.int .i64 (i.1 : Int)] ∧ Blk ((W'.drewN nq).setCell ⟨W.heap.size + 1, 0, none⟩ (.int .i64 (i.1 : Int))) W.heap.size 93 #[.slice p.ka p.s.ks.length p.kc, .slice p.xa p.s.xs.length p.xc, .int .i64 p.s.flo, .int .i64 p.s.fhi, .int .i64 p.s.plo, .int .i64 p.s.phi, .int .i64 c.wax, .int .i64 c.dia, .int .i64 c.dra, .int .i64 c.clo, .int .i64 c.chi] ∧ Blk ((W'.drewN nq).setCell ⟨W.heap.size + 1, 0, none⟩ (.int .i64 (i.1 : Int))) (W.heap.size + 1 + 1) 93 #[.slice p.ka p.s.ks.length p.kc, .slice p.xa p.s.xs.length p.xc, .int .i64 p.s.flo, .int .i64 p.s.fhi, .int .i64 p.s.plo, .int .i64 p.s.phi, .int .i64 c.wax, .int .i64 c.dia, .int .i64 c.dra, .int .i64 c.clo, .int .i64 c.chi] ∧ Below w.heap.size w ((W'.drewN nq).setCell ⟨W.heap.size + 1, 0, none⟩ (.int .i64 (i.1 : Int))))) := by
      intro nq
      obtain ⟨e1, e2, e3, e4, e5, e6⟩ := HKeep.out nq
      have hbe : Below w.heap.size (W'.drewN nq) ((W'.drewN nq).setCell ⟨W.heap.size + 1, 0, none⟩ (.int .i64 (i.1 : Int))) := (Below.refl _ _).setCell (by show w.heap.size ≤ W.heap.size + 1; omega) _
      have hg := grown_one (W'.drewN nq) (W.heap.size + 1) 0 (.int .i64 (i.1 : Int))
      refine ⟨e1.trans (keeps_cells hg (blk_cells e3)), ⟨e2.1.trans hbe, fun cs hc => (e2.2 cs hc).far (by simp) _⟩, ?_, e4.far (by simp) _, e5.far (by simp) _, e6.trans hbe⟩
      have := e3.set_ 0 (.int .i64 (i.1 : Int)); simpa using this
    have hsn := thinF_snoc p.s.ks pre i
    have hsi := thinS_in (ks := p.s.ks) J5 hi
    rw [← hsn] at hsi
    have HSI := Lib.hid hsi
    have HSN := Lib.hid hsn
    clear hsi hsn
    rcases J5 with hbest | ⟨j, hj, hbest⟩
    · rw [hbest] at m0
      have HT : Hid (thinF p.s.ks (pre ++ [i]) = i.1) := by show _ = _; rw [HSN.out, hbest]; unfold thinS; rw [if_pos (.inl (by decide))]
      clear J1 J2 J3 J4 hbest HSN HKeep
      gi_wp2_with fail
      refine quiet_round (F := Fence.wide) rfl (by kernel_rfl) (by kernel_rfl) (by kernel_rfl) ?_
      repeat (gi_big_quiet_step (fail))
      refine wpQuietIn_nil ?_
      rintro _ ⟨nq, rfl⟩
      gi_wp2_with fail
      obtain ⟨e1, e2, e3, e4, e5, e6⟩ := HPut.out nq
      exact ⟨e1, e2, ⟨by rw [HT.out]; exact e3, e4, e5, e6⟩, HSI.out⟩
    · rw [hbest] at m0
      obtain ⟨kj, hkj⟩ : ∃ kj, p.s.ks[j]? = some kj := ⟨p.s.ks[j], List.getElem?_eq_getElem hj⟩
      have htj : thW p.s.ks j = kj.th := by unfold thW; rw [hkj]
      obtain ⟨b2, o2, hka2, -, -, a2, -, -⟩ := wks_at ((HH.out.on J4).ks.at_) hkj
      rw [hka] at hka2
      simp only [Option.some.injEq, Addr.mk.injEq, and_true] at hka2
      obtain ⟨rfl, rfl⟩ := hka2
      have hjd : decide ((j : Int) < 0) = false := decide_eq_false (by omega)
      by_cases hlt2 : ki.th < kj.th
      · have hdd : decide (ki.th < kj.th) = true := decide_eq_true hlt2
        have HT : Hid (thinF p.s.ks (pre ++ [i]) = i.1) := by show _ = _; rw [HSN.out, hbest]; unfold thinS; rw [if_pos (.inr (by rw [hti, Int.toNat_natCast, htj]; exact hlt2))]
        clear J1 J2 J3 J4 hbest HSN HKeep hti htj hki hkj
        gi_wp2_with fail
        refine quiet_round (F := Fence.wide) rfl (by kernel_rfl) (by kernel_rfl) (by kernel_rfl) ?_
        repeat (gi_big_quiet_step (fail))
        refine wpQuietIn_nil ?_
        rintro _ ⟨nq, rfl⟩
        gi_wp2_with fail
        obtain ⟨e1, e2, e3, e4, e5, e6⟩ := HPut.out nq
        exact ⟨e1, e2, ⟨by rw [HT.out]; exact e3, e4, e5, e6⟩, HSI.out⟩
      · have hdd : decide (ki.th < kj.th) = false := decide_eq_false hlt2
        have HT : Hid (thinF p.s.ks (pre ++ [i]) = thinF p.s.ks pre) := by show _ = _; rw [HSN.out, hbest]; unfold thinS; rw [if_neg (by rw [hti, Int.toNat_natCast, htj]; omega)]
        clear J1 J2 J3 J4 hbest HSN HPut hti htj hki hkj
        gi_wp2_with fail
        refine quiet_round (F := Fence.wide) rfl (by kernel_rfl) (by kernel_rfl) (by kernel_rfl) ?_
        repeat (gi_big_quiet_step (fail))
        refine wpQuietIn_nil ?_
        rintro _ ⟨nq, rfl⟩
        gi_wp2_with fail
        obtain ⟨e1, e2, e3, e4, e5, e6⟩ := HKeep.out nq
        exact ⟨e1, e2, ⟨by rw [HT.out]; exact e3, e4, e5, e6⟩, HSI.out⟩
  case done =>
    rintro D ys W' hD rfl ⟨⟨J1, J2, J3, J4⟩, J5⟩ hK
    have HM : Hid (thinF p.s.ks (suitF p.s x c p.s.ks.length) = thinV p.s.ks (suitN p.s x c p.s.ks.length)) := by
      show _ = _
      rw [thinF_map]
      congr 1
      have h1 := suitF_map p.s x c p.s.ks.length (Nat.le_refl _)
      have h2 := congrArg (List.map Int.toNat) h1
      simpa [List.map_map, Function.comp_def] using h2
    rw [HM.out] at J1 J5
    have m0 := J1.cell 0
    have m2 := J1.lt
    have HB4 := Lib.hid J4
    have HK := Lib.hid hK
    clear J1 J2 J3 J4 hK HM
    obtain ⟨z, hzz⟩ : ∃ z, thinV p.s.ks (suitN p.s x c p.s.ks.length) = z := ⟨_, rfl⟩
    have HZ := Lib.hid hzz
    rw [hzz] at m0
    clear hzz J5
    have HEnd := Lib.hid (fun o' => HB4.out.trans (belowK_b (w := w) (Nat.le_refl _) W' D _ o' (by have := HBW.out.size; omega) HK.out rfl rfl))
    by_cases hz : z < 0
    · have HO := Lib.hid (show thinOut z = .tuple #[.int .i64 0, .int .i64 9] from if_pos hz)
      have hzd : decide (z < 0) = true := decide_eq_true hz
      gi_wp2_with fail
      refine ⟨by simp, .inl ⟨_, _, rfl, run_takeDeferred HK.out, ?_⟩⟩
      refine ⟨.tuple #[.int .i64 0, .int .i64 9], by simp [results, Try.results28, go_sem], by rw [HZ.out, HO.out], HEnd.out _⟩
    · have HO := Lib.hid (show thinOut z = .tuple #[.int .i64 z, .int .i64 0] from if_neg hz)
      have hzd : decide (z < 0) = false := decide_eq_false hz
      gi_wp2_with fail
      refine ⟨by simp, .inl ⟨_, _, rfl, run_takeDeferred HK.out, ?_⟩⟩
      refine ⟨.tuple #[.int .i64 z, .int .i64 0], ?_, by rw [HZ.out, HO.out], HEnd.out _⟩
      simp [results, Try.results28, go_sem]
  case stop =>
    rintro D c pre W _ _ h _
    exact h.elim
end Go.Proofs.Ytkjfommdeljefaa
