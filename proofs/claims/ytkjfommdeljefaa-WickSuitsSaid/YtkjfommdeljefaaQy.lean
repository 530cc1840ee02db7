/- wick.At: contract. -/
import Derived.Test.YtkjfommdeljefaaGe
namespace Go.Proofs.Ytkjfommdeljefaa
open Go.RowKit Go.Shelf Go.Maps
attribute [local go_sem] Oper.semAt_some


/-- A valid question of a shop, a wick and a candle: which wick and which wax they are. -/
structure Ask (s : Sh) (q : Int) (c : Cd) (k : Wk) (x : Wx) : Prop where
  sh : ShOk s
  h0 : 0 ≤ q
  hk : s.ks[q.toNat]? = some k
  hx : s.xs[c.wax.toNat]? = some x
  cd : CdOk s c
theorem Ask.ko {s : Sh} {q : Int} {c : Cd} {k : Wk} {x : Wx} (h : Ask s q c k x) : WkOk k := h.sh.ks k (List.mem_of_getElem? h.hk)
theorem Ask.xo {s : Sh} {q : Int} {c : Cd} {k : Wk} {x : Wx} (h : Ask s q c k x) : WxOk x := h.sh.xs x (List.mem_of_getElem? h.hx)
theorem ask_of {s : Sh} {q : Int} {c : Cd} (h : askE s q c = 0) : ∃ k x, Ask s q c k x := by
  obtain ⟨h1, h2, h3⟩ := askE_zero.1 h
  have hc := candE_zero.1 h3
  have l1 : q.toNat < s.ks.length := by omega
  have l2 : c.wax.toNat < s.xs.length := by have := hc.wax; omega
  exact ⟨s.ks[q.toNat], s.xs[c.wax.toNat], shopE_ok h1, h2.1, List.getElem?_eq_getElem l1, List.getElem?_eq_getElem l2, hc⟩
theorem Ask.ask {s : Sh} {q : Int} {c : Cd} {k : Wk} {x : Wx} (h : Ask s q c k x) (hs : shopE s = 0) : askE s q c = 0 := askE_zero.2 ⟨hs, ⟨h.h0, by have := (List.getElem?_eq_some_iff.1 h.hk).1; have := h.h0; omega⟩, candE_zero.2 h.cd⟩


set_option maxRecDepth 100000 in
set_option maxHeartbeats 2000000 in
theorem at_err {w : World} {p : Sp} {c : Cd} {q : Int} (t : Tu) (h : ShIn w p) (he : askE p.s q c ≠ 0) :
    Calls Try.prog 17 #[.agg #[.slice p.ka p.s.ks.length p.kc, .slice p.xa p.s.xs.length p.xc, .int .i64 p.s.flo, .int .i64 p.s.fhi, .int .i64 p.s.plo, .int .i64 p.s.phi], .int .i64 q, .agg #[.int .i64 c.wax, .int .i64 c.dia, .int .i64 c.dra, .int .i64 c.clo, .int .i64 c.chi], .agg #[.int .i64 t.pull, .int .i64 t.flow, .int .i64 t.rise, .int .i64 t.spr, .int .i64 t.dra, .int .i64 t.cold]] w fun e w' => e = .returned (.tuple #[.agg #[.int .i64 0, .int .i64 0, .int .i64 0], .int .i64 (askE p.s q c)]) ∧ Below w.heap.size w w' := by
  have hb0 := ((((Bx.nil w).alloc #[.slice p.ka p.s.ks.length p.kc, .slice p.xa p.s.xs.length p.xc, .int .i64 p.s.flo, .int .i64 p.s.fhi, .int .i64 p.s.plo, .int .i64 p.s.phi] 27).alloc #[.int .i64 c.wax, .int .i64 c.dia, .int .i64 c.dra, .int .i64 c.clo, .int .i64 c.chi] 34).alloc #[.int .i64 t.pull, .int .i64 t.flow, .int .i64 t.rise, .int .i64 t.spr, .int .i64 t.dra, .int .i64 t.cold] 36).alloc #[.int .i64 0, .int .i64 0, .int .i64 0] 40
  simp only [World.size_alloc] at hb0
  have HB : Hid (Bx w _ _) := Lib.hid hb0
  have HA := Lib.hid (askE_any (k := q) (c := c) (h.on HB.out.b))
  have hz : (askE p.s q c != 0) = true := by simpa using he
  clear h hb0
  generalize askE p.s q c = z at *
  go_enter Try.func17, Try.ntmps17
  go_wp2_with (refine HA.out.mono ?_; rintro e w1 ⟨rfl, hb⟩; have HC := Lib.hid (HB.out.on hb); clear hb; have rb : Blk _ (w.heap.size + 1 + 1 + 1) 40 #[.int .i64 0, .int .i64 0, .int .i64 0] := HC.out.get (by simp); have r0 := rb.cell 0; have r1 := rb.cell 1; have r2 := rb.cell 2; have rl := rb.lt; have rf0 := rb.frozen 0; have rf1 := rb.frozen 1; have rf2 := rb.frozen 2; clear rb)
  refine bodyPost_ret (v := .tuple #[.agg #[.int .i64 0, .int .i64 0, .int .i64 0], .int .i64 z]) ?_ rfl ⟨rfl, ?_⟩
  · simp [results, Try.results17, go_sem, *]
  · repeat (first | (with_reducible exact HC.out.b) | with_reducible refine Below.setCell ?_ (by simp; try omega) _)
set_option maxRecDepth 100000 in
set_option maxHeartbeats 2000000 in
theorem at_no {w : World} {p : Sp} {c : Cd} {q : Int} {k : Wk} {x : Wx} {t : Tu} (h : ShIn w p) (ha : Ask p.s q c k x) (hs : askE p.s q c = 0) (ht : tuB k x c t = false) :
    Calls Try.prog 17 #[.agg #[.slice p.ka p.s.ks.length p.kc, .slice p.xa p.s.xs.length p.xc, .int .i64 p.s.flo, .int .i64 p.s.fhi, .int .i64 p.s.plo, .int .i64 p.s.phi], .int .i64 q, .agg #[.int .i64 c.wax, .int .i64 c.dia, .int .i64 c.dra, .int .i64 c.clo, .int .i64 c.chi], .agg #[.int .i64 t.pull, .int .i64 t.flow, .int .i64 t.rise, .int .i64 t.spr, .int .i64 t.dra, .int .i64 t.cold]] w fun e w' => e = .returned (.tuple #[.agg #[.int .i64 0, .int .i64 0, .int .i64 0], .int .i64 7]) ∧ Below w.heap.size w w' := by
  have hb0 := ((((Bx.nil w).alloc #[.slice p.ka p.s.ks.length p.kc, .slice p.xa p.s.xs.length p.xc, .int .i64 p.s.flo, .int .i64 p.s.fhi, .int .i64 p.s.plo, .int .i64 p.s.phi] 27).alloc #[.int .i64 c.wax, .int .i64 c.dia, .int .i64 c.dra, .int .i64 c.clo, .int .i64 c.chi] 34).alloc #[.int .i64 t.pull, .int .i64 t.flow, .int .i64 t.rise, .int .i64 t.spr, .int .i64 t.dra, .int .i64 t.cold] 36).alloc #[.int .i64 0, .int .i64 0, .int .i64 0] 40
  simp only [World.size_alloc] at hb0
  have HB : Hid (Bx w _ _) := Lib.hid hb0
  have HA := Lib.hid (askE_any (k := q) (c := c) (h.on HB.out.b))
  rw [hs] at HA
  have HT := Lib.hid (fun (W : World) (hb : Below w.heap.size w W) => isTruth_any t (h.on hb) ha.h0 ha.hk ha.hx ha.ko ha.xo ha.cd)
  rw [ht] at HT
  clear h hb0 ha hs ht
  go_enter Try.func17, Try.ntmps17
  go_wp2_with (first
    | (go_at_call 49; refine HA.out.mono ?_; rintro e w1 ⟨rfl, hb⟩; have HC := Lib.hid (HB.out.on hb); clear hb; have sb : Blk _ (w.heap.size) 27 #[.slice p.ka p.s.ks.length p.kc, .slice p.xa p.s.xs.length p.xc, .int .i64 p.s.flo, .int .i64 p.s.fhi, .int .i64 p.s.plo, .int .i64 p.s.phi] := HC.out.get (by simp); have s0 := sb.cell 0; have s1 := sb.cell 1; have s2 := sb.cell 2; have s3 := sb.cell 3; have s4 := sb.cell 4; have s5 := sb.cell 5; have sl := sb.lt; clear sb; have cb : Blk _ (w.heap.size + 1) 34 #[.int .i64 c.wax, .int .i64 c.dia, .int .i64 c.dra, .int .i64 c.clo, .int .i64 c.chi] := HC.out.get (by simp); have c0 := cb.cell 0; have c1 := cb.cell 1; have c2 := cb.cell 2; have c3 := cb.cell 3; have c4 := cb.cell 4; have cl := cb.lt; clear cb; have tb : Blk _ (w.heap.size + 1 + 1) 36 #[.int .i64 t.pull, .int .i64 t.flow, .int .i64 t.rise, .int .i64 t.spr, .int .i64 t.dra, .int .i64 t.cold] := HC.out.get (by simp); have t0 := tb.cell 0; have t1 := tb.cell 1; have t2 := tb.cell 2; have t3 := tb.cell 3; have t4 := tb.cell 4; have t5 := tb.cell 5; have tl := tb.lt; clear tb)
    | (go_at_call 50; refine (HT.out _ (HC.out.b.alloc HC.out.b.size _)).mono ?_; rintro e w2 ⟨rfl, hb⟩; have HD := Lib.hid ((HC.out.alloc #[.slice p.ka p.s.ks.length p.kc, .slice p.xa p.s.xs.length p.xc, .int .i64 p.s.flo, .int .i64 p.s.fhi, .int .i64 p.s.plo, .int .i64 p.s.phi, .int .i64 c.wax, .int .i64 c.dia, .int .i64 c.dra, .int .i64 c.clo, .int .i64 c.chi] 93).on hb); clear hb s0 s1 s2 s3 s4 s5 sl c0 c1 c2 c3 c4 cl t0 t1 t2 t3 t4 t5 tl; have rb : Blk _ (w.heap.size + 1 + 1 + 1) 40 #[.int .i64 0, .int .i64 0, .int .i64 0] := HD.out.get (by simp); have r0 := rb.cell 0; have r1 := rb.cell 1; have r2 := rb.cell 2; have rl := rb.lt; have rf0 := rb.frozen 0; have rf1 := rb.frozen 1; have rf2 := rb.frozen 2; clear rb)
    | fail)
  refine bodyPost_ret (v := .tuple #[.agg #[.int .i64 0, .int .i64 0, .int .i64 0], .int .i64 7]) ?_ rfl ⟨rfl, ?_⟩
  · simp [results, Try.results17, go_sem, *]
  · repeat (first | (with_reducible exact HD.out.b) | with_reducible refine Below.setCell ?_ (by simp; try omega) _)
set_option maxRecDepth 100000 in
set_option maxHeartbeats 2000000 in
theorem at_yes {w : World} {p : Sp} {c : Cd} {q : Int} {k : Wk} {x : Wx} {t : Tu} (h : ShIn w p) (ha : Ask p.s q c k x) (hs : askE p.s q c = 0) (ht : TuOk k x c t) :
    Calls Try.prog 17 #[.agg #[.slice p.ka p.s.ks.length p.kc, .slice p.xa p.s.xs.length p.xc, .int .i64 p.s.flo, .int .i64 p.s.fhi, .int .i64 p.s.plo, .int .i64 p.s.phi], .int .i64 q, .agg #[.int .i64 c.wax, .int .i64 c.dia, .int .i64 c.dra, .int .i64 c.clo, .int .i64 c.chi], .agg #[.int .i64 t.pull, .int .i64 t.flow, .int .i64 t.rise, .int .i64 t.spr, .int .i64 t.dra, .int .i64 t.cold]] w fun e w' => e = .returned (.tuple #[.agg #[.int .i64 (burn x t).rate, .int .i64 (burn x t).flame, .int .i64 (burn x t).pool], .int .i64 0]) ∧ Below w.heap.size w w' := by
  have hb0 := ((((Bx.nil w).alloc #[.slice p.ka p.s.ks.length p.kc, .slice p.xa p.s.xs.length p.xc, .int .i64 p.s.flo, .int .i64 p.s.fhi, .int .i64 p.s.plo, .int .i64 p.s.phi] 27).alloc #[.int .i64 c.wax, .int .i64 c.dia, .int .i64 c.dra, .int .i64 c.clo, .int .i64 c.chi] 34).alloc #[.int .i64 t.pull, .int .i64 t.flow, .int .i64 t.rise, .int .i64 t.spr, .int .i64 t.dra, .int .i64 t.cold] 36).alloc #[.int .i64 0, .int .i64 0, .int .i64 0] 40
  simp only [World.size_alloc] at hb0
  have HB : Hid (Bx w _ _) := Lib.hid hb0
  have HA := Lib.hid (askE_any (k := q) (c := c) (h.on HB.out.b))
  rw [hs] at HA
  have HT := Lib.hid (fun (W : World) (hb : Below w.heap.size w W) => isTruth_any t (h.on hb) ha.h0 ha.hk ha.hx ha.ko ha.xo ha.cd)
  rw [tuB_iff.2 ht] at HT
  have HU := Lib.hid (fun (W : World) (hb : Below w.heap.size w W) => burn_any (h.on hb) ha.cd.wax.1 ha.hx ha.xo (ht.in_ ha.ko ha.xo ha.cd))
  clear h hb0 ha hs ht
  generalize burn x t = b at *
  go_enter Try.func17, Try.ntmps17
  go_wp2_with (first
    | (go_at_call 49; refine HA.out.mono ?_; rintro e w1 ⟨rfl, hb⟩; have HC := Lib.hid (HB.out.on hb); clear hb; have sb : Blk _ (w.heap.size) 27 #[.slice p.ka p.s.ks.length p.kc, .slice p.xa p.s.xs.length p.xc, .int .i64 p.s.flo, .int .i64 p.s.fhi, .int .i64 p.s.plo, .int .i64 p.s.phi] := HC.out.get (by simp); have s0 := sb.cell 0; have s1 := sb.cell 1; have s2 := sb.cell 2; have s3 := sb.cell 3; have s4 := sb.cell 4; have s5 := sb.cell 5; have sl := sb.lt; clear sb; have cb : Blk _ (w.heap.size + 1) 34 #[.int .i64 c.wax, .int .i64 c.dia, .int .i64 c.dra, .int .i64 c.clo, .int .i64 c.chi] := HC.out.get (by simp); have c0 := cb.cell 0; have c1 := cb.cell 1; have c2 := cb.cell 2; have c3 := cb.cell 3; have c4 := cb.cell 4; have cl := cb.lt; clear cb; have tb : Blk _ (w.heap.size + 1 + 1) 36 #[.int .i64 t.pull, .int .i64 t.flow, .int .i64 t.rise, .int .i64 t.spr, .int .i64 t.dra, .int .i64 t.cold] := HC.out.get (by simp); have t0 := tb.cell 0; have t1 := tb.cell 1; have t2 := tb.cell 2; have t3 := tb.cell 3; have t4 := tb.cell 4; have t5 := tb.cell 5; have tl := tb.lt; clear tb)
    | (go_at_call 50; refine (HT.out _ (HC.out.b.alloc HC.out.b.size _)).mono ?_; rintro e w2 ⟨rfl, hb⟩; have HD := Lib.hid ((HC.out.alloc #[.slice p.ka p.s.ks.length p.kc, .slice p.xa p.s.xs.length p.xc, .int .i64 p.s.flo, .int .i64 p.s.fhi, .int .i64 p.s.plo, .int .i64 p.s.phi, .int .i64 c.wax, .int .i64 c.dia, .int .i64 c.dra, .int .i64 c.clo, .int .i64 c.chi] 93).on hb); clear hb s0 s1 s2 s3 s4 s5 sl c0 c1 c2 c3 c4 cl t0 t1 t2 t3 t4 t5 tl; have vb : Blk _ (w1.heap.size) 93 #[.slice p.ka p.s.ks.length p.kc, .slice p.xa p.s.xs.length p.xc, .int .i64 p.s.flo, .int .i64 p.s.fhi, .int .i64 p.s.plo, .int .i64 p.s.phi, .int .i64 c.wax, .int .i64 c.dia, .int .i64 c.dra, .int .i64 c.clo, .int .i64 c.chi] := HD.out.get (by simp); have v0 := vb.cell 0; have v1 := vb.cell 1; have v2 := vb.cell 2; have v3 := vb.cell 3; have v4 := vb.cell 4; have v5 := vb.cell 5; have v6 := vb.cell 6; have v7 := vb.cell 7; have v8 := vb.cell 8; have v9 := vb.cell 9; have v10 := vb.cell 10; have vl := vb.lt; clear vb; have tb : Blk _ (w.heap.size + 1 + 1) 36 #[.int .i64 t.pull, .int .i64 t.flow, .int .i64 t.rise, .int .i64 t.spr, .int .i64 t.dra, .int .i64 t.cold] := HD.out.get (by simp); have t0 := tb.cell 0; have t1 := tb.cell 1; have t2 := tb.cell 2; have t3 := tb.cell 3; have t4 := tb.cell 4; have t5 := tb.cell 5; have tl := tb.lt; clear tb)
    | (go_at_call 51; refine (HU.out _ HD.out.b).mono ?_; rintro e w3 ⟨rfl, hb⟩; have HE := Lib.hid (HD.out.on hb); clear hb v0 v1 v2 v3 v4 v5 v6 v7 v8 v9 v10 vl t0 t1 t2 t3 t4 t5 tl; have rb : Blk _ (w.heap.size + 1 + 1 + 1) 40 #[.int .i64 0, .int .i64 0, .int .i64 0] := HE.out.get (by simp); have r0 := rb.cell 0; have r1 := rb.cell 1; have r2 := rb.cell 2; have rl := rb.lt; have rf0 := rb.frozen 0; have rf1 := rb.frozen 1; have rf2 := rb.frozen 2; clear rb)
    | fail)
  refine bodyPost_ret (v := .tuple #[.agg #[.int .i64 b.rate, .int .i64 b.flame, .int .i64 b.pool], .int .i64 0]) ?_ rfl ⟨rfl, ?_⟩
  · simp [results, Try.results17, go_sem, *]
  · repeat (first | (with_reducible exact HE.out.b) | with_reducible refine Below.setCell ?_ (by simp; try omega) _)
end Go.Proofs.Ytkjfommdeljefaa
