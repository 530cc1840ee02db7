/- WickTruth: the law. -/
import Derived.Test.YtkjfommdeljefaaT6
namespace Go.Proofs.Ytkjfommdeljefaa
open Go.RowKit Go.Shelf Go.Maps
attribute [local go_sem] Oper.semAt_some

/-- Which wick is asked, by turns. -/
theorem askK_of {s : Sh} {c : Cd} (he : askCE s c = 0) (y : Int) : ∃ k x, Ask s (y % (s.ks.length : Int)) c k x ∧ y % (s.ks.length : Int) = y % s.ks.length ∧ askE s (y % (s.ks.length : Int)) c = 0 := by
  obtain ⟨x, ha⟩ := askC_of he
  have hk := ha.sh.nk
  have hq0 : 0 ≤ y % (s.ks.length : Int) := Int.emod_nonneg _ (by omega)
  have hq1 : y % (s.ks.length : Int) < s.ks.length := Int.emod_lt_of_pos _ (by omega)
  have hlt : (y % (s.ks.length : Int)).toNat < s.ks.length := by omega
  have hsh : shopE s = 0 := by
    unfold askCE at he
    rw [orE_zero] at he
    exact he _ (by simp)
  have hask : Ask s (y % (s.ks.length : Int)) c (s.ks[(y % (s.ks.length : Int)).toNat]'hlt) x := ⟨ha.sh, hq0, List.getElem?_eq_getElem hlt, ha.hx, ha.cd⟩
  exact ⟨_, _, hask, rfl, hask.ask hsh⟩

set_option maxRecDepth 100000 in
set_option maxHeartbeats 2000000 in
theorem ltr_err {w : World} {p : Sp} {c : Cd} {yk y0 y1 y2 y3 y4 y5 n0 n1 n2 n3 : Int} (h : ShIn w p) (he : askCE p.s c ≠ 0) :
    Calls Try.prog 7 #[.agg #[.slice p.ka p.s.ks.length p.kc, .slice p.xa p.s.xs.length p.xc, .int .i64 p.s.flo, .int .i64 p.s.fhi, .int .i64 p.s.plo, .int .i64 p.s.phi], .agg #[.int .i64 c.wax, .int .i64 c.dia, .int .i64 c.dra, .int .i64 c.clo, .int .i64 c.chi], .agg #[.int .u8 yk, .int .u16 y0, .int .u16 y1, .int .u16 y2, .int .u16 y3, .int .u16 y4, .int .u16 y5, .int .u16 n0, .int .u16 n1, .int .u16 n2, .int .u16 n3]] w fun e w' => e = .returned (.bool true) ∧ Below w.heap.size w w' := by
  have hb0 := (((Bx.nil w).alloc #[.slice p.ka p.s.ks.length p.kc, .slice p.xa p.s.xs.length p.xc, .int .i64 p.s.flo, .int .i64 p.s.fhi, .int .i64 p.s.plo, .int .i64 p.s.phi] 27).alloc #[.int .i64 c.wax, .int .i64 c.dia, .int .i64 c.dra, .int .i64 c.clo, .int .i64 c.chi] 34).alloc #[.int .u8 yk, .int .u16 y0, .int .u16 y1, .int .u16 y2, .int .u16 y3, .int .u16 y4, .int .u16 y5, .int .u16 n0, .int .u16 n1, .int .u16 n2, .int .u16 n3] 65
  simp only [World.size_alloc] at hb0
  have HB := Lib.hid hb0
  have HC := Lib.hid (fun (W : World) (hW : Below w.heap.size w W) => rcandle_any c (h.on hW))
  have HU := Lib.hid (fun (W : World) (hW : Below w.heap.size w W) => suits_err (h.on hW) he)
  have hz : (askCE p.s c != 0) = true := by simpa using he
  clear h he hb0
  generalize askCE p.s c = z at *
  go_enter Try.func7, Try.ntmps7
  go_wp2_with (first
    | (go_at_call 36; (with_reducible refine (HC.out _ HB.out.b).mono ?_); rintro e w1 ⟨rfl, hb⟩; have HD := Lib.hid (HB.out.on hb); clear hb; have sb : Blk _ (w.heap.size) 27 #[.slice p.ka p.s.ks.length p.kc, .slice p.xa p.s.xs.length p.xc, .int .i64 p.s.flo, .int .i64 p.s.fhi, .int .i64 p.s.plo, .int .i64 p.s.phi] := HD.out.get (by simp); have s0 := sb.cell 0; have s1 := sb.cell 1; have s2 := sb.cell 2; have s3 := sb.cell 3; have s4 := sb.cell 4; have s5 := sb.cell 5; have sl := sb.lt; clear sb; have cb : Blk _ (w.heap.size + 1) 34 #[.int .i64 c.wax, .int .i64 c.dia, .int .i64 c.dra, .int .i64 c.clo, .int .i64 c.chi] := HD.out.get (by simp); have c0 := cb.cell 0; have c1 := cb.cell 1; have c2 := cb.cell 2; have c3 := cb.cell 3; have c4 := cb.cell 4; have cl := cb.lt; clear cb)
    | (go_at_call 26; (with_reducible refine (HU.out _ HD.out.b).mono ?_); rintro e w2 ⟨rfl, hb⟩; have HE := Lib.hid (HD.out.on hb); clear hb; clear s0 s1 s2 s3 s4 s5 sl; clear c0 c1 c2 c3 c4 cl)
    | (go_at_call 16; (refine (lawake_any _).mono ?_); rintro e w9 ⟨rfl, hb⟩; have HZ := Lib.hid (HE.out.b.trans (hb.mono HE.out.b.size)); clear hb)
    | fail)
  go_ret
  exact ⟨rfl, HZ.out⟩

set_option maxRecDepth 100000 in
set_option maxHeartbeats 4000000 in
theorem ltr_ok {w : World} {p : Sp} {c : Cd} {q yk y0 y1 y2 y3 y4 y5 n0 n1 n2 n3 : Int} {l m b : Bn} {t lo hi : Tu} (hks : p.s.ks.length ≤ 12) (hk0 : 1 ≤ p.s.ks.length) (hyk : 0 ≤ yk ∧ yk ≤ 255) (hq : q = yk % p.s.ks.length)
    (C0 : Hid (∀ W, Below w.heap.size w W → Calls Try.prog 36 #[.agg #[.slice p.ka p.s.ks.length p.kc, .slice p.xa p.s.xs.length p.xc, .int .i64 p.s.flo, .int .i64 p.s.fhi, .int .i64 p.s.plo, .int .i64 p.s.phi], .agg #[.int .i64 c.wax, .int .i64 c.dia, .int .i64 c.dra, .int .i64 c.clo, .int .i64 c.chi]] W fun e w' => e = .returned (.int .i64 0) ∧ Below W.heap.size W w'))
    (C1 : Hid (∀ W, Below w.heap.size w W → Calls Try.prog 19 #[.agg #[.slice p.ka p.s.ks.length p.kc, .slice p.xa p.s.xs.length p.xc, .int .i64 p.s.flo, .int .i64 p.s.fhi, .int .i64 p.s.plo, .int .i64 p.s.phi], .int .i64 q, .agg #[.int .i64 c.wax, .int .i64 c.dia, .int .i64 c.dra, .int .i64 c.clo, .int .i64 c.chi]] W fun e w' => e = .returned (.tuple #[.agg #[.int .i64 l.rate, .int .i64 l.flame, .int .i64 l.pool], .agg #[.int .i64 m.rate, .int .i64 m.flame, .int .i64 m.pool], .int .i64 0]) ∧ Below W.heap.size W w'))
    (C2 : Hid (∀ W, Below w.heap.size w W → Calls Try.prog 37 #[.agg #[.slice p.ka p.s.ks.length p.kc, .slice p.xa p.s.xs.length p.xc, .int .i64 p.s.flo, .int .i64 p.s.fhi, .int .i64 p.s.plo, .int .i64 p.s.phi], .int .i64 q, .agg #[.int .i64 c.wax, .int .i64 c.dia, .int .i64 c.dra, .int .i64 c.clo, .int .i64 c.chi], .agg #[.int .u16 y0, .int .u16 y1, .int .u16 y2, .int .u16 y3, .int .u16 y4, .int .u16 y5]] W fun e w' => e = .returned (.agg #[.int .i64 t.pull, .int .i64 t.flow, .int .i64 t.rise, .int .i64 t.spr, .int .i64 t.dra, .int .i64 t.cold]) ∧ Below W.heap.size W w'))
    (C3 : Hid (∀ W, Below w.heap.size w W → Calls Try.prog 17 #[.agg #[.slice p.ka p.s.ks.length p.kc, .slice p.xa p.s.xs.length p.xc, .int .i64 p.s.flo, .int .i64 p.s.fhi, .int .i64 p.s.plo, .int .i64 p.s.phi], .int .i64 q, .agg #[.int .i64 c.wax, .int .i64 c.dia, .int .i64 c.dra, .int .i64 c.clo, .int .i64 c.chi], .agg #[.int .i64 t.pull, .int .i64 t.flow, .int .i64 t.rise, .int .i64 t.spr, .int .i64 t.dra, .int .i64 t.cold]] W fun e w' => e = .returned (.tuple #[.agg #[.int .i64 b.rate, .int .i64 b.flame, .int .i64 b.pool], .int .i64 0]) ∧ Below W.heap.size W w'))
    (C4 : Hid (∀ W, Below w.heap.size w W → Calls Try.prog 38 #[.agg #[.slice p.ka p.s.ks.length p.kc, .slice p.xa p.s.xs.length p.xc, .int .i64 p.s.flo, .int .i64 p.s.fhi, .int .i64 p.s.plo, .int .i64 p.s.phi], .int .i64 q, .agg #[.int .i64 c.wax, .int .i64 c.dia, .int .i64 c.dra, .int .i64 c.clo, .int .i64 c.chi]] W fun e w' => e = .returned (.tuple #[.agg #[.int .i64 lo.pull, .int .i64 lo.flow, .int .i64 lo.rise, .int .i64 lo.spr, .int .i64 lo.dra, .int .i64 lo.cold], .agg #[.int .i64 hi.pull, .int .i64 hi.flow, .int .i64 hi.rise, .int .i64 hi.spr, .int .i64 hi.dra, .int .i64 hi.cold]]) ∧ Below W.heap.size W w'))
    (C5 : Hid (∀ W, Below w.heap.size w W → Calls Try.prog 17 #[.agg #[.slice p.ka p.s.ks.length p.kc, .slice p.xa p.s.xs.length p.xc, .int .i64 p.s.flo, .int .i64 p.s.fhi, .int .i64 p.s.plo, .int .i64 p.s.phi], .int .i64 q, .agg #[.int .i64 c.wax, .int .i64 c.dia, .int .i64 c.dra, .int .i64 c.clo, .int .i64 c.chi], .agg #[.int .i64 lo.pull, .int .i64 lo.flow, .int .i64 lo.rise, .int .i64 lo.spr, .int .i64 lo.dra, .int .i64 lo.cold]] W fun e w' => e = .returned (.tuple #[.agg #[.int .i64 l.rate, .int .i64 l.flame, .int .i64 l.pool], .int .i64 0]) ∧ Below W.heap.size W w'))
    (C6 : Hid (∀ W, Below w.heap.size w W → Calls Try.prog 17 #[.agg #[.slice p.ka p.s.ks.length p.kc, .slice p.xa p.s.xs.length p.xc, .int .i64 p.s.flo, .int .i64 p.s.fhi, .int .i64 p.s.plo, .int .i64 p.s.phi], .int .i64 q, .agg #[.int .i64 c.wax, .int .i64 c.dia, .int .i64 c.dra, .int .i64 c.clo, .int .i64 c.chi], .agg #[.int .i64 hi.pull, .int .i64 hi.flow, .int .i64 hi.rise, .int .i64 hi.spr, .int .i64 hi.dra, .int .i64 hi.cold]] W fun e w' => e = .returned (.tuple #[.agg #[.int .i64 m.rate, .int .i64 m.flame, .int .i64 m.pool], .int .i64 0]) ∧ Below W.heap.size W w'))
    (h1 : l.rate ≤ b.rate) (h2 : b.rate ≤ m.rate) (h3 : l.flame ≤ b.flame) (h4 : b.flame ≤ m.flame) (h5 : l.pool ≤ b.pool) (h6 : b.pool ≤ m.pool) (h7 : 0 < l.rate) :
    Calls Try.prog 7 #[.agg #[.slice p.ka p.s.ks.length p.kc, .slice p.xa p.s.xs.length p.xc, .int .i64 p.s.flo, .int .i64 p.s.fhi, .int .i64 p.s.plo, .int .i64 p.s.phi], .agg #[.int .i64 c.wax, .int .i64 c.dia, .int .i64 c.dra, .int .i64 c.clo, .int .i64 c.chi], .agg #[.int .u8 yk, .int .u16 y0, .int .u16 y1, .int .u16 y2, .int .u16 y3, .int .u16 y4, .int .u16 y5, .int .u16 n0, .int .u16 n1, .int .u16 n2, .int .u16 n3]] w fun e w' => e = .returned (.bool true) ∧ Below w.heap.size w w' := by
  have hb0 := (((Bx.nil w).alloc #[.slice p.ka p.s.ks.length p.kc, .slice p.xa p.s.xs.length p.xc, .int .i64 p.s.flo, .int .i64 p.s.fhi, .int .i64 p.s.plo, .int .i64 p.s.phi] 27).alloc #[.int .i64 c.wax, .int .i64 c.dia, .int .i64 c.dra, .int .i64 c.clo, .int .i64 c.chi] 34).alloc #[.int .u8 yk, .int .u16 y0, .int .u16 y1, .int .u16 y2, .int .u16 y3, .int .u16 y4, .int .u16 y5, .int .u16 n0, .int .u16 n1, .int .u16 n2, .int .u16 n3] 65
  simp only [World.size_alloc] at hb0
  have HB := Lib.hid hb0
  have t0 : yk.tmod (p.s.ks.length : Int) = q := by rw [Int.tmod_eq_emod_of_nonneg hyk.1, hq]
  have w0 : IntKind.i64.wrap yk = yk := IntWalk.i64_in _ (by omega)
  have w2 : IntKind.i64.wrap q = q := IntWalk.i64_in _ (by rw [hq]; have := Int.emod_nonneg yk (show (p.s.ks.length : Int) ≠ 0 by omega); have := Int.emod_lt_of_pos yk (show (0 : Int) < p.s.ks.length by omega); omega)
  have n0' : ¬ ((p.s.ks.length : Int) = 0) := by omega
  have E1 : ∀ W, (binOp .neq 40 (.agg #[.int .i64 l.rate, .int .i64 l.flame, .int .i64 l.pool]) (.agg #[.int .i64 l.rate, .int .i64 l.flame, .int .i64 l.pool])).run Try.prog W = .ok (.bool false) W := fun W => by rw [bn_neq]; simp [bnEq]
  have E2 : ∀ W, (binOp .neq 40 (.agg #[.int .i64 m.rate, .int .i64 m.flame, .int .i64 m.pool]) (.agg #[.int .i64 m.rate, .int .i64 m.flame, .int .i64 m.pool])).run Try.prog W = .ok (.bool false) W := fun W => by rw [bn_neq]; simp [bnEq]
  clear hb0 hq
  go_enter Try.func7, Try.ntmps7
  go_wp2_with (first
    | (go_at_call 36; (with_reducible refine (C0.out _ HB.out.b).mono ?_); rintro e w1 ⟨rfl, hb⟩; have HD := Lib.hid (HB.out.on hb); clear hb; have sb : Blk _ (w.heap.size) 27 #[.slice p.ka p.s.ks.length p.kc, .slice p.xa p.s.xs.length p.xc, .int .i64 p.s.flo, .int .i64 p.s.fhi, .int .i64 p.s.plo, .int .i64 p.s.phi] := HD.out.get (by simp); have s0 := sb.cell 0; have s1 := sb.cell 1; have s2 := sb.cell 2; have s3 := sb.cell 3; have s4 := sb.cell 4; have s5 := sb.cell 5; have sl := sb.lt; clear sb; have cb : Blk _ (w.heap.size + 1) 34 #[.int .i64 c.wax, .int .i64 c.dia, .int .i64 c.dra, .int .i64 c.clo, .int .i64 c.chi] := HD.out.get (by simp); have c0 := cb.cell 0; have c1 := cb.cell 1; have c2 := cb.cell 2; have c3 := cb.cell 3; have c4 := cb.cell 4; have cl := cb.lt; clear cb; have xb : Blk _ (w.heap.size + 1 + 1) 65 #[.int .u8 yk, .int .u16 y0, .int .u16 y1, .int .u16 y2, .int .u16 y3, .int .u16 y4, .int .u16 y5, .int .u16 n0, .int .u16 n1, .int .u16 n2, .int .u16 n3] := HD.out.get (by simp); have x0 := xb.cell 0; have x1 := xb.cell 1; have x2 := xb.cell 2; have x3 := xb.cell 3; have x4 := xb.cell 4; have x5 := xb.cell 5; have x6 := xb.cell 6; have x7 := xb.cell 7; have x8 := xb.cell 8; have x9 := xb.cell 9; have x10 := xb.cell 10; have xl := xb.lt; clear xb)
    | (go_at_call 19; (with_reducible refine (C1.out _ HD.out.b).mono ?_); rintro e w2 ⟨rfl, hb⟩; have HE := Lib.hid (HD.out.on hb); clear hb; clear s0 s1 s2 s3 s4 s5 sl; clear c0 c1 c2 c3 c4 cl; clear x0 x1 x2 x3 x4 x5 x6 x7 x8 x9 x10 xl)
    | fail)
  have hsz : w.heap.size + 3 ≤ w2.heap.size := by have hz : Blk w2 (w.heap.size + 1 + 1) 65 #[.int .u8 yk, .int .u16 y0, .int .u16 y1, .int .u16 y2, .int .u16 y3, .int .u16 y4, .int .u16 y5, .int .u16 n0, .int .u16 n1, .int .u16 n2, .int .u16 n3] := HE.out.get (by simp); have := hz.lt; omega
  have hd0 := (HE.out.alloc #[.int .i64 l.rate, .int .i64 l.flame, .int .i64 l.pool] 40).alloc #[.int .i64 m.rate, .int .i64 m.flame, .int .i64 m.pool] 40
  simp only [World.size_alloc] at hd0
  have HF := Lib.hid hd0
  clear hd0
  refine wp_of_eq (lt6_region (S := Bx w [(w2.heap.size + 1, 40, #[.int .i64 m.rate, .int .i64 m.flame, .int .i64 m.pool]), (w2.heap.size, 40, #[.int .i64 l.rate, .int .i64 l.flame, .int .i64 l.pool]), (w.heap.size + 1 + 1, 65, #[.int .u8 yk, .int .u16 y0, .int .u16 y1, .int .u16 y2, .int .u16 y3, .int .u16 y4, .int .u16 y5, .int .u16 n0, .int .u16 n1, .int .u16 n2, .int .u16 n3]), (w.heap.size + 1, 34, #[.int .i64 c.wax, .int .i64 c.dia, .int .i64 c.dra, .int .i64 c.clo, .int .i64 c.chi]), (w.heap.size, 27, #[.slice p.ka p.s.ks.length p.kc, .slice p.xa p.s.xs.length p.xc, .int .i64 p.s.flo, .int .i64 p.s.fhi, .int .i64 p.s.plo, .int .i64 p.s.phi])]) (N := w2.heap.size + 2) (P := w.heap.size) (C := w.heap.size + 1) (X := w.heap.size + 1 + 1) (qk := q) (p := p) (c := c) (t := t) (b := b) (yk := yk) (y0 := y0) (y1 := y1) (y2 := y2) (y3 := y3) (y4 := y4) (y5 := y5) (n0 := n0) (n1 := n1) (n2 := n2) (n3 := n3) (fun W h => h.get (by simp)) (fun W h => h.get (by simp)) (fun W h => h.get (by simp)) (Lib.hid fun W h => C2.out W h.b) (Lib.hid fun W h => C3.out W h.b)
    (fun _ _ h hb => h.on hb) (fun W W' G h hg hG => h.put hg (by omega) (fun q hq => by simp only [List.mem_cons, List.not_mem_nil, or_false] at hq; rcases hq with rfl | rfl | rfl | rfl | rfl <;> (simp only; omega))) (fun W h => (h.at_ _ List.mem_cons_self).2.lt) HF (Lib.hid fun u G0 W hS hG hB => ?_)) (by kernel_rfl)
  have HS := Lib.hid (hS.add hB (by omega))
  clear hS hB hG HF
  have sb : Blk _ (w.heap.size) 27 #[.slice p.ka p.s.ks.length p.kc, .slice p.xa p.s.xs.length p.xc, .int .i64 p.s.flo, .int .i64 p.s.fhi, .int .i64 p.s.plo, .int .i64 p.s.phi] := HS.out.get (by simp); have s0 := sb.cell 0; have s1 := sb.cell 1; have s2 := sb.cell 2; have s3 := sb.cell 3; have s4 := sb.cell 4; have s5 := sb.cell 5; have sl := sb.lt; clear sb; have cb : Blk _ (w.heap.size + 1) 34 #[.int .i64 c.wax, .int .i64 c.dia, .int .i64 c.dra, .int .i64 c.clo, .int .i64 c.chi] := HS.out.get (by simp); have c0 := cb.cell 0; have c1 := cb.cell 1; have c2 := cb.cell 2; have c3 := cb.cell 3; have c4 := cb.cell 4; have cl := cb.lt; clear cb
  go_wp2_with (first
    | (go_at_call 38; (with_reducible refine (C4.out _ HS.out.b).mono ?_); rintro e w4 ⟨rfl, hb⟩; have HU := Lib.hid (HS.out.on hb); clear hb; clear s0 s1 s2 s3 s4 s5 sl; clear c0 c1 c2 c3 c4 cl; have sb : Blk _ (w.heap.size) 27 #[.slice p.ka p.s.ks.length p.kc, .slice p.xa p.s.xs.length p.xc, .int .i64 p.s.flo, .int .i64 p.s.fhi, .int .i64 p.s.plo, .int .i64 p.s.phi] := HU.out.get (by simp); have s0 := sb.cell 0; have s1 := sb.cell 1; have s2 := sb.cell 2; have s3 := sb.cell 3; have s4 := sb.cell 4; have s5 := sb.cell 5; have sl := sb.lt; clear sb; have cb : Blk _ (w.heap.size + 1) 34 #[.int .i64 c.wax, .int .i64 c.dia, .int .i64 c.dra, .int .i64 c.clo, .int .i64 c.chi] := HU.out.get (by simp); have c0 := cb.cell 0; have c1 := cb.cell 1; have c2 := cb.cell 2; have c3 := cb.cell 3; have c4 := cb.cell 4; have cl := cb.lt; clear cb; have hv0 := (HU.out.alloc #[.int .i64 lo.pull, .int .i64 lo.flow, .int .i64 lo.rise, .int .i64 lo.spr, .int .i64 lo.dra, .int .i64 lo.cold] 36).alloc #[.int .i64 hi.pull, .int .i64 hi.flow, .int .i64 hi.rise, .int .i64 hi.spr, .int .i64 hi.dra, .int .i64 hi.cold] 36; simp only [World.size_alloc] at hv0; have HV := Lib.hid hv0; clear hv0)
    | (go_at_call 17; (with_reducible refine (C5.out _ HV.out.b).mono ?_); rintro e w5 ⟨rfl, hb⟩; have HX := Lib.hid (HV.out.on hb); clear hb; clear s0 s1 s2 s3 s4 s5 sl; clear c0 c1 c2 c3 c4 cl; have sb : Blk _ (w.heap.size) 27 #[.slice p.ka p.s.ks.length p.kc, .slice p.xa p.s.xs.length p.xc, .int .i64 p.s.flo, .int .i64 p.s.fhi, .int .i64 p.s.plo, .int .i64 p.s.phi] := HX.out.get (by simp); have s0 := sb.cell 0; have s1 := sb.cell 1; have s2 := sb.cell 2; have s3 := sb.cell 3; have s4 := sb.cell 4; have s5 := sb.cell 5; have sl := sb.lt; clear sb; have cb : Blk _ (w.heap.size + 1) 34 #[.int .i64 c.wax, .int .i64 c.dia, .int .i64 c.dra, .int .i64 c.clo, .int .i64 c.chi] := HX.out.get (by simp); have c0 := cb.cell 0; have c1 := cb.cell 1; have c2 := cb.cell 2; have c3 := cb.cell 3; have c4 := cb.cell 4; have cl := cb.lt; clear cb; have gb : Blk _ (w4.heap.size + 1) 36 #[.int .i64 hi.pull, .int .i64 hi.flow, .int .i64 hi.rise, .int .i64 hi.spr, .int .i64 hi.dra, .int .i64 hi.cold] := HX.out.get (by simp); have g0 := gb.cell 0; have g1 := gb.cell 1; have g2 := gb.cell 2; have g3 := gb.cell 3; have g4 := gb.cell 4; have g5 := gb.cell 5; have gl := gb.lt; clear gb; have HY := Lib.hid (HX.out.alloc #[.int .i64 l.rate, .int .i64 l.flame, .int .i64 l.pool] 40))
    | (go_at_call 17; (with_reducible refine (C6.out _ HY.out.b).mono ?_); rintro e w6 ⟨rfl, hb⟩; have HA := Lib.hid (HY.out.on hb); clear hb; clear s0 s1 s2 s3 s4 s5 sl; clear c0 c1 c2 c3 c4 cl; clear g0 g1 g2 g3 g4 g5 gl; have ab : Blk _ (w5.heap.size) 40 #[.int .i64 l.rate, .int .i64 l.flame, .int .i64 l.pool] := HA.out.get (by simp); have a0 := ab.cell 0; have a1 := ab.cell 1; have a2 := ab.cell 2; have al := ab.lt; clear ab; have db : Blk _ (w2.heap.size) 40 #[.int .i64 l.rate, .int .i64 l.flame, .int .i64 l.pool] := HA.out.get (by simp); have d0 := db.cell 0; have d1 := db.cell 1; have d2 := db.cell 2; have dl := db.lt; clear db; have mb : Blk _ (w2.heap.size + 1) 40 #[.int .i64 m.rate, .int .i64 m.flame, .int .i64 m.pool] := HA.out.get (by simp); have m0 := mb.cell 0; have m1 := mb.cell 1; have m2 := mb.cell 2; have ml := mb.lt; clear mb; have fb : Blk _ (G0) 40 #[.int .i64 b.rate, .int .i64 b.flame, .int .i64 b.pool] := HA.out.get (by simp); have f0 := fb.cell 0; have f1 := fb.cell 1; have f2 := fb.cell 2; have fl := fb.lt; clear fb)
    | (go_at_call 16; (refine (lawake_any _).mono ?_); rintro e w9 ⟨rfl, hb⟩; have HZ := Lib.hid ((HA.out.b.alloc HA.out.b.size _).trans (hb.mono (HA.out.b.alloc HA.out.b.size _).size)); clear hb)
    | fail)
  go_ret
  exact ⟨rfl, HZ.out⟩


theorem ltr_any {w : World} {p : Sp} (c : Cd) {yk y0 y1 y2 y3 y4 y5 n0 n1 n2 n3 : Int} (h : ShIn w p) (hyk : 0 ≤ yk ∧ yk ≤ 255) (hy : (0 ≤ y0 ∧ y0 ≤ 65535) ∧ (0 ≤ y1 ∧ y1 ≤ 65535) ∧ (0 ≤ y2 ∧ y2 ≤ 65535) ∧ (0 ≤ y3 ∧ y3 ≤ 65535) ∧ (0 ≤ y4 ∧ y4 ≤ 65535) ∧ (0 ≤ y5 ∧ y5 ≤ 65535)) :
    Calls Try.prog 7 #[.agg #[.slice p.ka p.s.ks.length p.kc, .slice p.xa p.s.xs.length p.xc, .int .i64 p.s.flo, .int .i64 p.s.fhi, .int .i64 p.s.plo, .int .i64 p.s.phi], .agg #[.int .i64 c.wax, .int .i64 c.dia, .int .i64 c.dra, .int .i64 c.clo, .int .i64 c.chi], .agg #[.int .u8 yk, .int .u16 y0, .int .u16 y1, .int .u16 y2, .int .u16 y3, .int .u16 y4, .int .u16 y5, .int .u16 n0, .int .u16 n1, .int .u16 n2, .int .u16 n3]] w fun e w' => e = .returned (.bool true) ∧ Below w.heap.size w w' := by
  by_cases he : askCE p.s c = 0
  · obtain ⟨k, x, ha, hq, hs⟩ := askK_of he yk
    have C0 := Lib.hid (fun (W : World) (hW : Below w.heap.size w W) => rcandle_any c (h.on hW))
    rw [he] at C0
    have lo := weak_ok ha.ko ha.xo ha.cd
    have hi := strong_ok ha.ko ha.xo ha.cd
    have tt := tuV_ok ha.ko ha.xo ha.cd y0 y1 y2 y3 y4 y5
    have h1 := burn_weak ha.ko ha.xo ha.cd tt
    have h2 := burn_strong ha.ko ha.xo ha.cd tt
    have h3 := (burn_in (lo.in_ ha.ko ha.xo ha.cd) ha.xo).rate
    exact ltr_ok ha.sh.nk.2 ha.sh.nk.1 hyk rfl C0 (Lib.hid fun W hW => pburn_ok (h.on hW) ha hs) (Lib.hid fun W hW => ltruth_any (h.on hW) ha hy) (Lib.hid fun W hW => at_yes (h.on hW) ha hs tt) (Lib.hid fun W hW => rends_any (h.on hW) ha.h0 ha.hk ha.cd.wax.1 ha.hx ha.cd.dra) (Lib.hid fun W hW => at_yes (h.on hW) ha hs lo) (Lib.hid fun W hW => at_yes (h.on hW) ha hs hi)
      h1.1 h2.1 h1.2.1 h2.2.1 h1.2.2 h2.2.2 (by omega)
  · exact ltr_err h he
end Go.Proofs.Ytkjfommdeljefaa
