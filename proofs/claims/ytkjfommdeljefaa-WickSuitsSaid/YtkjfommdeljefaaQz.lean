/- wick.Burn: contract. -/
import Derived.Test.YtkjfommdeljefaaQy
namespace Go.Proofs.Ytkjfommdeljefaa
open Go.RowKit Go.Shelf Go.Maps
attribute [local go_sem] Oper.semAt_some


theorem put3 {W : World} {g : Nat} {T : TypeId} {a0 a1 a2 b0 b1 b2 : Value} (h : Blk W g T #[a0, a1, a2]) : Blk (((W.setCell ⟨g, 0, none⟩ b0).setCell ⟨g, 1, none⟩ b1).setCell ⟨g, 2, none⟩ b2) g T #[b0, b1, b2] := by
  have := ((h.set_ 0 b0).set_ 1 b1).set_ 2 b2
  simpa using this
set_option maxRecDepth 100000 in
set_option maxHeartbeats 2000000 in
theorem pburn_err {w : World} {p : Sp} {c : Cd} {q : Int} (h : ShIn w p) (he : askE p.s q c ≠ 0) :
    Calls Try.prog 19 #[.agg #[.slice p.ka p.s.ks.length p.kc, .slice p.xa p.s.xs.length p.xc, .int .i64 p.s.flo, .int .i64 p.s.fhi, .int .i64 p.s.plo, .int .i64 p.s.phi], .int .i64 q, .agg #[.int .i64 c.wax, .int .i64 c.dia, .int .i64 c.dra, .int .i64 c.clo, .int .i64 c.chi]] w fun e w' => e = .returned (.tuple #[.agg #[.int .i64 0, .int .i64 0, .int .i64 0], .agg #[.int .i64 0, .int .i64 0, .int .i64 0], .int .i64 (askE p.s q c)]) ∧ Below w.heap.size w w' := by
  have hb0 := ((((Bx.nil w).alloc #[.slice p.ka p.s.ks.length p.kc, .slice p.xa p.s.xs.length p.xc, .int .i64 p.s.flo, .int .i64 p.s.fhi, .int .i64 p.s.plo, .int .i64 p.s.phi] 27).alloc #[.int .i64 c.wax, .int .i64 c.dia, .int .i64 c.dra, .int .i64 c.clo, .int .i64 c.chi] 34).alloc #[.int .i64 0, .int .i64 0, .int .i64 0] 40).alloc #[.int .i64 0, .int .i64 0, .int .i64 0] 40
  simp only [World.size_alloc] at hb0
  have HB : Hid (Bx w _ _) := Lib.hid hb0
  have HA := Lib.hid (askE_any (k := q) (c := c) (h.on HB.out.b))
  have hz : (askE p.s q c != 0) = true := by simpa using he
  clear h hb0
  generalize askE p.s q c = z at *
  go_enter Try.func19, Try.ntmps19
  go_wp2_with (refine HA.out.mono ?_; rintro e w1 ⟨rfl, hb⟩; have HC := Lib.hid (HB.out.on hb); clear hb; have rb : Blk _ (w.heap.size + 1 + 1) 40 #[.int .i64 0, .int .i64 0, .int .i64 0] := HC.out.get (by simp); have r0 := rb.cell 0; have r1 := rb.cell 1; have r2 := rb.cell 2; have rl := rb.lt; have rf0 := rb.frozen 0; have rf1 := rb.frozen 1; have rf2 := rb.frozen 2; clear rb; have sb : Blk _ (w.heap.size + 1 + 1 + 1) 40 #[.int .i64 0, .int .i64 0, .int .i64 0] := HC.out.get (by simp); have s0 := sb.cell 0; have s1 := sb.cell 1; have s2 := sb.cell 2; have sl := sb.lt; have sf0 := sb.frozen 0; have sf1 := sb.frozen 1; have sf2 := sb.frozen 2; clear sb)
  refine bodyPost_ret (v := .tuple #[.agg #[.int .i64 0, .int .i64 0, .int .i64 0], .agg #[.int .i64 0, .int .i64 0, .int .i64 0], .int .i64 z]) ?_ rfl ⟨rfl, ?_⟩
  · simp [results, Try.results19, go_sem, *]
  · repeat (first | (with_reducible exact HC.out.b) | with_reducible refine Below.setCell ?_ (by simp; try omega) _)
set_option maxRecDepth 100000 in
set_option maxHeartbeats 2000000 in
theorem pburn_ok {w : World} {p : Sp} {c : Cd} {q : Int} {k : Wk} {x : Wx} (h : ShIn w p) (ha : Ask p.s q c k x) (hs : askE p.s q c = 0) :
    Calls Try.prog 19 #[.agg #[.slice p.ka p.s.ks.length p.kc, .slice p.xa p.s.xs.length p.xc, .int .i64 p.s.flo, .int .i64 p.s.fhi, .int .i64 p.s.plo, .int .i64 p.s.phi], .int .i64 q, .agg #[.int .i64 c.wax, .int .i64 c.dia, .int .i64 c.dra, .int .i64 c.clo, .int .i64 c.chi]] w fun e w' => e = .returned (.tuple #[.agg #[.int .i64 (burn x (weakT k x c)).rate, .int .i64 (burn x (weakT k x c)).flame, .int .i64 (burn x (weakT k x c)).pool], .agg #[.int .i64 (burn x (strongT k x c)).rate, .int .i64 (burn x (strongT k x c)).flame, .int .i64 (burn x (strongT k x c)).pool], .int .i64 0]) ∧ Below w.heap.size w w' := by
  have hb0 := ((((Bx.nil w).alloc #[.slice p.ka p.s.ks.length p.kc, .slice p.xa p.s.xs.length p.xc, .int .i64 p.s.flo, .int .i64 p.s.fhi, .int .i64 p.s.plo, .int .i64 p.s.phi] 27).alloc #[.int .i64 c.wax, .int .i64 c.dia, .int .i64 c.dra, .int .i64 c.clo, .int .i64 c.chi] 34).alloc #[.int .i64 0, .int .i64 0, .int .i64 0] 40).alloc #[.int .i64 0, .int .i64 0, .int .i64 0] 40
  simp only [World.size_alloc] at hb0
  have HB : Hid (Bx w _ _) := Lib.hid hb0
  have HA := Lib.hid (askE_any (k := q) (c := c) (h.on HB.out.b))
  rw [hs] at HA
  have HU := Lib.hid (fun (W : World) (hb : Below w.heap.size w W) => burns_any (h.on hb) ha.h0 ha.hk ha.hx ha.ko ha.xo ha.cd)
  clear h hb0 ha hs
  generalize burn x (weakT k x c) = b1 at *
  generalize burn x (strongT k x c) = b2 at *
  go_enter Try.func19, Try.ntmps19
  go_wp2_with (first
    | (go_at_call 49; refine HA.out.mono ?_; rintro e w1 ⟨rfl, hb⟩; have HC := Lib.hid (HB.out.on hb); clear hb; have sb : Blk _ (w.heap.size) 27 #[.slice p.ka p.s.ks.length p.kc, .slice p.xa p.s.xs.length p.xc, .int .i64 p.s.flo, .int .i64 p.s.fhi, .int .i64 p.s.plo, .int .i64 p.s.phi] := HC.out.get (by simp); have s0 := sb.cell 0; have s1 := sb.cell 1; have s2 := sb.cell 2; have s3 := sb.cell 3; have s4 := sb.cell 4; have s5 := sb.cell 5; have sl := sb.lt; clear sb; have cb : Blk _ (w.heap.size + 1) 34 #[.int .i64 c.wax, .int .i64 c.dia, .int .i64 c.dra, .int .i64 c.clo, .int .i64 c.chi] := HC.out.get (by simp); have c0 := cb.cell 0; have c1 := cb.cell 1; have c2 := cb.cell 2; have c3 := cb.cell 3; have c4 := cb.cell 4; have cl := cb.lt; clear cb)
    | (go_at_call 55; refine (HU.out _ (HC.out.b.alloc HC.out.b.size _)).mono ?_; rintro e w2 ⟨rfl, hb⟩; have HD := Lib.hid ((HC.out.alloc #[.slice p.ka p.s.ks.length p.kc, .slice p.xa p.s.xs.length p.xc, .int .i64 p.s.flo, .int .i64 p.s.fhi, .int .i64 p.s.plo, .int .i64 p.s.phi, .int .i64 c.wax, .int .i64 c.dia, .int .i64 c.dra, .int .i64 c.clo, .int .i64 c.chi] 93).on hb); clear hb s0 s1 s2 s3 s4 s5 sl c0 c1 c2 c3 c4 cl; have rb : Blk _ (w.heap.size + 1 + 1) 40 #[.int .i64 0, .int .i64 0, .int .i64 0] := HD.out.get (by simp); have r0 := rb.cell 0; have r1 := rb.cell 1; have r2 := rb.cell 2; have rl := rb.lt; have rf0 := rb.frozen 0; have rf1 := rb.frozen 1; have rf2 := rb.frozen 2; clear rb; have sb : Blk _ (w.heap.size + 1 + 1 + 1) 40 #[.int .i64 0, .int .i64 0, .int .i64 0] := HD.out.get (by simp); have s0 := sb.cell 0; have s1 := sb.cell 1; have s2 := sb.cell 2; have sl := sb.lt; have sf0 := sb.frozen 0; have sf1 := sb.frozen 1; have sf2 := sb.frozen 2; clear sb)
    | fail)
  refine wp_of_eq (bu6_region (S := SB w (w.heap.size + 4)) (R1 := w.heap.size + 1 + 1) (R2 := w.heap.size + 1 + 1 + 1) (N := w.heap.size + 4) (a0 := b1.rate) (a1 := b1.flame) (a2 := b1.pool) (b0 := b2.rate) (b1 := b2.flame) (b2 := b2.pool) (fun _ _ h hb => h.on hb) (fun W1 W2 G h hg hG => h.put hg (by omega)) (fun W h => h.n) (Lib.hid ⟨?hL, ?hn⟩) ?hk0 (by omega) ?hk1 (by omega) (by omega) (Lib.hid fun u2 W2 hS2 hA hB => ?_)) (by kernel_rfl)
  case hL => repeat (first | (with_reducible exact HD.out.b) | with_reducible refine Below.setCell ?_ (by simp; try omega) _)
  case hn => simp; omega
  case hk0 =>
    have hz : Blk w2 (w.heap.size + 1 + 1) 40 #[.int .i64 0, .int .i64 0, .int .i64 0] := HD.out.get (by simp)
    repeat (first | (with_reducible exact put3 hz) | with_reducible refine Blk.far ?_ (by simp) _)
  case hk1 =>
    have hz : Blk w2 (w.heap.size + 1 + 1 + 1) 40 #[.int .i64 0, .int .i64 0, .int .i64 0] := HD.out.get (by simp)
    with_reducible refine put3 (a0 := .int .i64 0) (a1 := .int .i64 0) (a2 := .int .i64 0) ?_
    repeat (first | (with_reducible exact hz) | with_reducible refine Blk.far ?_ (by simp) _)
  have hF := Lib.hid hS2.b
  have x0 := hA.cell 0; have x1 := hA.cell 1; have x2 := hA.cell 2; have y0 := hB.cell 0; have y1 := hB.cell 1; have y2 := hB.cell 2
  clear hS2 hA hB r0 r1 r2 rl rf0 rf1 rf2 s0 s1 s2 sl sf0 sf1 sf2
  go_wp2_with fail
  refine bodyPost_ret (v := .tuple #[.agg #[.int .i64 b1.rate, .int .i64 b1.flame, .int .i64 b1.pool], .agg #[.int .i64 b2.rate, .int .i64 b2.flame, .int .i64 b2.pool], .int .i64 0]) ?_ rfl ⟨rfl, hF.out⟩
  simp [results, Try.results19, go_sem, x0, x1, x2, y0, y1, y2]
end Go.Proofs.Ytkjfommdeljefaa
