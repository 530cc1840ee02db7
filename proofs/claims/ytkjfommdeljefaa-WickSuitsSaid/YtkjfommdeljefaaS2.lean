/- WickSizes: the law. -/
import Derived.Test.YtkjfommdeljefaaS1
namespace Go.Proofs.Ytkjfommdeljefaa
open Go.RowKit Go.Shelf Go.Maps
attribute [local go_sem] Oper.semAt_some

set_option maxRecDepth 100000 in
set_option maxHeartbeats 2000000 in
theorem lsizes_err {w : World} {p : Sp} {c : Cd} {y0 y1 : Int} (h : ShIn w p) (he : askCE p.s c ≠ 0) :
    Calls Try.prog 10 #[.agg #[.slice p.ka p.s.ks.length p.kc, .slice p.xa p.s.xs.length p.xc, .int .i64 p.s.flo, .int .i64 p.s.fhi, .int .i64 p.s.plo, .int .i64 p.s.phi], .agg #[.int .i64 c.wax, .int .i64 c.dia, .int .i64 c.dra, .int .i64 c.clo, .int .i64 c.chi], .agg #[.int .u16 y0, .int .u16 y1]] w fun e w' => e = .returned (.bool true) ∧ Below w.heap.size w w' := by
  have hb0 := (((Bx.nil w).alloc #[.slice p.ka p.s.ks.length p.kc, .slice p.xa p.s.xs.length p.xc, .int .i64 p.s.flo, .int .i64 p.s.fhi, .int .i64 p.s.plo, .int .i64 p.s.phi] 27).alloc #[.int .i64 c.wax, .int .i64 c.dia, .int .i64 c.dra, .int .i64 c.clo, .int .i64 c.chi] 34).alloc #[.int .u16 y0, .int .u16 y1] 76
  simp only [World.size_alloc] at hb0
  have HB := Lib.hid hb0
  have HC := Lib.hid (fun (W : World) (hW : Below w.heap.size w W) => rcandle_any c (h.on hW))
  have hz : (askCE p.s c != 0) = true := by simpa using he
  clear h he hb0
  generalize askCE p.s c = z at *
  go_enter Try.func10, Try.ntmps10
  go_wp2_with (first
    | (go_at_call 36; (refine (HC.out _ HB.out.b).mono ?_); rintro e w1 ⟨rfl, hb⟩; have HD := Lib.hid (HB.out.on hb); clear hb)
    | (go_at_call 16; (refine (lawake_any _).mono ?_); rintro e w9 ⟨rfl, hb⟩; have HZ := Lib.hid (HD.out.b.trans (hb.mono HD.out.b.size)); clear hb)
    | fail)
  go_ret
  exact ⟨rfl, HZ.out⟩

set_option maxRecDepth 100000 in
set_option maxHeartbeats 4000000 in
theorem lsizes_t {w : World} {p : Sp} {c : Cd} {y0 y1 q d a b : Int} {L : List Int} (hks : p.s.ks.length ≤ 12) (hk0 : 1 ≤ p.s.ks.length) (hy0 : 0 ≤ y0 ∧ y0 ≤ 65535) (hy1 : 0 ≤ y1 ∧ y1 ≤ 65535) (hq : q = y0 % p.s.ks.length) (hd : d = 1 + y1 % 2000)
    (C0 : Hid (∀ W, Below w.heap.size w W → Calls Try.prog 36 #[.agg #[.slice p.ka p.s.ks.length p.kc, .slice p.xa p.s.xs.length p.xc, .int .i64 p.s.flo, .int .i64 p.s.fhi, .int .i64 p.s.plo, .int .i64 p.s.phi], .agg #[.int .i64 c.wax, .int .i64 c.dia, .int .i64 c.dra, .int .i64 c.clo, .int .i64 c.chi]] W fun e w' => e = .returned (.int .i64 0) ∧ Below W.heap.size W w'))
    (C1 : Hid (∀ W, Below w.heap.size w W → Calls Try.prog 30 #[.agg #[.slice p.ka p.s.ks.length p.kc, .slice p.xa p.s.xs.length p.xc, .int .i64 p.s.flo, .int .i64 p.s.fhi, .int .i64 p.s.plo, .int .i64 p.s.phi], .int .i64 q, .agg #[.int .i64 c.wax, .int .i64 c.dia, .int .i64 c.dra, .int .i64 c.clo, .int .i64 c.chi]] W fun e w' => e = .returned (.tuple #[.agg #[.int .i64 a, .int .i64 b], .int .i64 0]) ∧ Below W.heap.size W w'))
    (C2 : Hid (∀ W, Below w.heap.size w W → Calls Try.prog 23 #[.agg #[.slice p.ka p.s.ks.length p.kc, .slice p.xa p.s.xs.length p.xc, .int .i64 p.s.flo, .int .i64 p.s.fhi, .int .i64 p.s.plo, .int .i64 p.s.phi], .int .i64 q, .agg #[.int .i64 c.wax, .int .i64 d, .int .i64 c.dra, .int .i64 c.clo, .int .i64 c.chi]] W (ListOut W L))) (h1 : a ≤ d) (h2 : d ≤ b) (hL : (L.length : Int) = 0) :
    Calls Try.prog 10 #[.agg #[.slice p.ka p.s.ks.length p.kc, .slice p.xa p.s.xs.length p.xc, .int .i64 p.s.flo, .int .i64 p.s.fhi, .int .i64 p.s.plo, .int .i64 p.s.phi], .agg #[.int .i64 c.wax, .int .i64 c.dia, .int .i64 c.dra, .int .i64 c.clo, .int .i64 c.chi], .agg #[.int .u16 y0, .int .u16 y1]] w fun e w' => e = .returned (.bool true) ∧ Below w.heap.size w w' := by
  have hb0 := (((Bx.nil w).alloc #[.slice p.ka p.s.ks.length p.kc, .slice p.xa p.s.xs.length p.xc, .int .i64 p.s.flo, .int .i64 p.s.fhi, .int .i64 p.s.plo, .int .i64 p.s.phi] 27).alloc #[.int .i64 c.wax, .int .i64 c.dia, .int .i64 c.dra, .int .i64 c.clo, .int .i64 c.chi] 34).alloc #[.int .u16 y0, .int .u16 y1] 76
  simp only [World.size_alloc] at hb0
  have HB := Lib.hid hb0
  have t0 : y0.tmod (p.s.ks.length : Int) = q := by rw [Int.tmod_eq_emod_of_nonneg hy0.1, hq]
  have t1 : y1.tmod 2000 = d - 1 := by rw [Int.tmod_eq_emod_of_nonneg hy1.1, hd]; omega
  have hd2 : 1 ≤ d ∧ d ≤ 2000 := by omega
  have w0 : IntKind.i64.wrap y0 = y0 := IntWalk.i64_in _ (by omega)
  have w1' : IntKind.i64.wrap y1 = y1 := IntWalk.i64_in _ (by omega)
  have w2 : IntKind.i64.wrap q = q := IntWalk.i64_in _ (by rw [hq]; have := Int.emod_nonneg y0 (show (p.s.ks.length : Int) ≠ 0 by omega); have := Int.emod_lt_of_pos y0 (show (0 : Int) < p.s.ks.length by omega); omega)
  have w3 : IntKind.i64.wrap (d - 1) = d - 1 := IntWalk.i64_in _ (by omega)
  have w4 : IntKind.i64.wrap (1 + (d - 1)) = d := by rw [IntWalk.i64_in _ (by omega)]; omega
  have n0 : ¬ ((p.s.ks.length : Int) = 0) := by omega
  clear hb0 hq hd
  go_enter Try.func10, Try.ntmps10
  go_wp2_with (first
    | (go_at_call 36; (refine (C0.out _ HB.out.b).mono ?_); rintro e u1 ⟨rfl, hb⟩; have HD := Lib.hid (HB.out.on hb); clear hb; have sb : Blk _ w.heap.size 27 #[.slice p.ka p.s.ks.length p.kc, .slice p.xa p.s.xs.length p.xc, .int .i64 p.s.flo, .int .i64 p.s.fhi, .int .i64 p.s.plo, .int .i64 p.s.phi] := HD.out.get (by simp); have s0 := sb.cell 0; have s1 := sb.cell 1; have s2 := sb.cell 2; have s3 := sb.cell 3; have s4 := sb.cell 4; have s5 := sb.cell 5; have sl := sb.lt; have cb : Blk _ (w.heap.size + 1) 34 #[.int .i64 c.wax, .int .i64 c.dia, .int .i64 c.dra, .int .i64 c.clo, .int .i64 c.chi] := HD.out.get (by simp); have c0 := cb.cell 0; have c1 := cb.cell 1; have c2 := cb.cell 2; have c3 := cb.cell 3; have c4 := cb.cell 4; have cl := cb.lt; have cf := cb.frozen 1; have ab : Blk _ (w.heap.size + 1 + 1) 76 #[.int .u16 y0, .int .u16 y1] := HD.out.get (by simp); have a0 := ab.cell 0; have a1 := ab.cell 1; have al := ab.lt; clear sb cb ab)
    | (go_at_call 30; (refine (C1.out _ HD.out.b).mono ?_); rintro e u2 ⟨rfl, hb⟩; have HE := Lib.hid (HD.out.on hb); clear s0 s1 s2 s3 s4 s5 sl c0 c1 c2 c3 c4 cl cf a0 a1 al; have CB := Lib.hid ((show Blk _ (w.heap.size + 1) 34 #[.int .i64 c.wax, .int .i64 c.dia, .int .i64 c.dra, .int .i64 c.clo, .int .i64 c.chi] from HE.out.get (by simp)).set_ 1 (.int .i64 d)); clear hb; have sb : Blk _ w.heap.size 27 #[.slice p.ka p.s.ks.length p.kc, .slice p.xa p.s.xs.length p.xc, .int .i64 p.s.flo, .int .i64 p.s.fhi, .int .i64 p.s.plo, .int .i64 p.s.phi] := HE.out.get (by simp); have s0 := sb.cell 0; have s1 := sb.cell 1; have s2 := sb.cell 2; have s3 := sb.cell 3; have s4 := sb.cell 4; have s5 := sb.cell 5; have sl := sb.lt; have cb : Blk _ (w.heap.size + 1) 34 #[.int .i64 c.wax, .int .i64 c.dia, .int .i64 c.dra, .int .i64 c.clo, .int .i64 c.chi] := HE.out.get (by simp); have c0 := cb.cell 0; have c1 := cb.cell 1; have c2 := cb.cell 2; have c3 := cb.cell 3; have c4 := cb.cell 4; have cl := cb.lt; have cf := cb.frozen 1; have ab : Blk _ (w.heap.size + 1 + 1) 76 #[.int .u16 y0, .int .u16 y1] := HE.out.get (by simp); have a0 := ab.cell 0; have a1 := ab.cell 1; have al := ab.lt; clear sb cb ab)
    | (go_at_call 23; (refine (C2.out _ ((Below.setCell HE.out.b (by simp; try omega) _).alloc (by have := HE.out.b.size; simp; omega) _)).mono ?_); rintro e u3 ⟨v, rfl, hv, hb⟩; obtain ⟨A, n, rfl, hi⟩ := hv.in_; have HF := Lib.hid (((Below.setCell HE.out.b (by simp; try omega) _).alloc (by have := HE.out.b.size; simp; omega) _).trans (hb.mono (by have := HE.out.b.size; simp; omega))); have k1 : u3.cell? ⟨w.heap.size + 1, 1, none⟩ = some (.int .i64 d) := (by have := ((CB.out.alloc _).on hb).cell 1; simpa using this); have kl := ((CB.out.alloc _).on hb).lt; have bb : Blk u3 u2.heap.size 25 #[.int .i64 a, .int .i64 b] := (by have := (Blk.new (u2.setCell ⟨w.heap.size + 1, 1, none⟩ (.int .i64 d)) 25 #[.int .i64 a, .int .i64 b]).on hb; simpa using this); have b0 := bb.cell 0; have b1 := bb.cell 1; have bl := bb.lt; clear bb hb hi hv s0 s1 s2 s3 s4 s5 sl c0 c1 c2 c3 c4 cl cf a0 a1 al)
    | (go_at_call 16; (refine (lawake_any _).mono ?_); rintro e w9 ⟨rfl, hb⟩; have HZ := Lib.hid (HF.out.trans (hb.mono HF.out.size)); clear hb)
    | fail)
  go_ret
  exact ⟨rfl, HZ.out⟩

set_option maxRecDepth 100000 in
set_option maxHeartbeats 4000000 in
theorem lsizes_u {w : World} {p : Sp} {c : Cd} {y0 y1 q d a b : Int} {L : List Int} (hks : p.s.ks.length ≤ 12) (hk0 : 1 ≤ p.s.ks.length) (hy0 : 0 ≤ y0 ∧ y0 ≤ 65535) (hy1 : 0 ≤ y1 ∧ y1 ≤ 65535) (hq : q = y0 % p.s.ks.length) (hd : d = 1 + y1 % 2000)
    (C0 : Hid (∀ W, Below w.heap.size w W → Calls Try.prog 36 #[.agg #[.slice p.ka p.s.ks.length p.kc, .slice p.xa p.s.xs.length p.xc, .int .i64 p.s.flo, .int .i64 p.s.fhi, .int .i64 p.s.plo, .int .i64 p.s.phi], .agg #[.int .i64 c.wax, .int .i64 c.dia, .int .i64 c.dra, .int .i64 c.clo, .int .i64 c.chi]] W fun e w' => e = .returned (.int .i64 0) ∧ Below W.heap.size W w'))
    (C1 : Hid (∀ W, Below w.heap.size w W → Calls Try.prog 30 #[.agg #[.slice p.ka p.s.ks.length p.kc, .slice p.xa p.s.xs.length p.xc, .int .i64 p.s.flo, .int .i64 p.s.fhi, .int .i64 p.s.plo, .int .i64 p.s.phi], .int .i64 q, .agg #[.int .i64 c.wax, .int .i64 c.dia, .int .i64 c.dra, .int .i64 c.clo, .int .i64 c.chi]] W fun e w' => e = .returned (.tuple #[.agg #[.int .i64 a, .int .i64 b], .int .i64 0]) ∧ Below W.heap.size W w'))
    (C2 : Hid (∀ W, Below w.heap.size w W → Calls Try.prog 23 #[.agg #[.slice p.ka p.s.ks.length p.kc, .slice p.xa p.s.xs.length p.xc, .int .i64 p.s.flo, .int .i64 p.s.fhi, .int .i64 p.s.plo, .int .i64 p.s.phi], .int .i64 q, .agg #[.int .i64 c.wax, .int .i64 d, .int .i64 c.dra, .int .i64 c.clo, .int .i64 c.chi]] W (ListOut W L))) (h1 : decide (a ≤ d) = false) (hL : ((L.length : Int) == 0) = false) :
    Calls Try.prog 10 #[.agg #[.slice p.ka p.s.ks.length p.kc, .slice p.xa p.s.xs.length p.xc, .int .i64 p.s.flo, .int .i64 p.s.fhi, .int .i64 p.s.plo, .int .i64 p.s.phi], .agg #[.int .i64 c.wax, .int .i64 c.dia, .int .i64 c.dra, .int .i64 c.clo, .int .i64 c.chi], .agg #[.int .u16 y0, .int .u16 y1]] w fun e w' => e = .returned (.bool true) ∧ Below w.heap.size w w' := by
  have hb0 := (((Bx.nil w).alloc #[.slice p.ka p.s.ks.length p.kc, .slice p.xa p.s.xs.length p.xc, .int .i64 p.s.flo, .int .i64 p.s.fhi, .int .i64 p.s.plo, .int .i64 p.s.phi] 27).alloc #[.int .i64 c.wax, .int .i64 c.dia, .int .i64 c.dra, .int .i64 c.clo, .int .i64 c.chi] 34).alloc #[.int .u16 y0, .int .u16 y1] 76
  simp only [World.size_alloc] at hb0
  have HB := Lib.hid hb0
  have t0 : y0.tmod (p.s.ks.length : Int) = q := by rw [Int.tmod_eq_emod_of_nonneg hy0.1, hq]
  have t1 : y1.tmod 2000 = d - 1 := by rw [Int.tmod_eq_emod_of_nonneg hy1.1, hd]; omega
  have hd2 : 1 ≤ d ∧ d ≤ 2000 := by omega
  have w0 : IntKind.i64.wrap y0 = y0 := IntWalk.i64_in _ (by omega)
  have w1' : IntKind.i64.wrap y1 = y1 := IntWalk.i64_in _ (by omega)
  have w2 : IntKind.i64.wrap q = q := IntWalk.i64_in _ (by rw [hq]; have := Int.emod_nonneg y0 (show (p.s.ks.length : Int) ≠ 0 by omega); have := Int.emod_lt_of_pos y0 (show (0 : Int) < p.s.ks.length by omega); omega)
  have w3 : IntKind.i64.wrap (d - 1) = d - 1 := IntWalk.i64_in _ (by omega)
  have w4 : IntKind.i64.wrap (1 + (d - 1)) = d := by rw [IntWalk.i64_in _ (by omega)]; omega
  have n0 : ¬ ((p.s.ks.length : Int) = 0) := by omega
  clear hb0 hq hd
  go_enter Try.func10, Try.ntmps10
  go_wp2_with (first
    | (go_at_call 36; (refine (C0.out _ HB.out.b).mono ?_); rintro e u1 ⟨rfl, hb⟩; have HD := Lib.hid (HB.out.on hb); clear hb; have sb : Blk _ w.heap.size 27 #[.slice p.ka p.s.ks.length p.kc, .slice p.xa p.s.xs.length p.xc, .int .i64 p.s.flo, .int .i64 p.s.fhi, .int .i64 p.s.plo, .int .i64 p.s.phi] := HD.out.get (by simp); have s0 := sb.cell 0; have s1 := sb.cell 1; have s2 := sb.cell 2; have s3 := sb.cell 3; have s4 := sb.cell 4; have s5 := sb.cell 5; have sl := sb.lt; have cb : Blk _ (w.heap.size + 1) 34 #[.int .i64 c.wax, .int .i64 c.dia, .int .i64 c.dra, .int .i64 c.clo, .int .i64 c.chi] := HD.out.get (by simp); have c0 := cb.cell 0; have c1 := cb.cell 1; have c2 := cb.cell 2; have c3 := cb.cell 3; have c4 := cb.cell 4; have cl := cb.lt; have cf := cb.frozen 1; have ab : Blk _ (w.heap.size + 1 + 1) 76 #[.int .u16 y0, .int .u16 y1] := HD.out.get (by simp); have a0 := ab.cell 0; have a1 := ab.cell 1; have al := ab.lt; clear sb cb ab)
    | (go_at_call 30; (refine (C1.out _ HD.out.b).mono ?_); rintro e u2 ⟨rfl, hb⟩; have HE := Lib.hid (HD.out.on hb); clear s0 s1 s2 s3 s4 s5 sl c0 c1 c2 c3 c4 cl cf a0 a1 al; have CB := Lib.hid ((show Blk _ (w.heap.size + 1) 34 #[.int .i64 c.wax, .int .i64 c.dia, .int .i64 c.dra, .int .i64 c.clo, .int .i64 c.chi] from HE.out.get (by simp)).set_ 1 (.int .i64 d)); clear hb; have sb : Blk _ w.heap.size 27 #[.slice p.ka p.s.ks.length p.kc, .slice p.xa p.s.xs.length p.xc, .int .i64 p.s.flo, .int .i64 p.s.fhi, .int .i64 p.s.plo, .int .i64 p.s.phi] := HE.out.get (by simp); have s0 := sb.cell 0; have s1 := sb.cell 1; have s2 := sb.cell 2; have s3 := sb.cell 3; have s4 := sb.cell 4; have s5 := sb.cell 5; have sl := sb.lt; have cb : Blk _ (w.heap.size + 1) 34 #[.int .i64 c.wax, .int .i64 c.dia, .int .i64 c.dra, .int .i64 c.clo, .int .i64 c.chi] := HE.out.get (by simp); have c0 := cb.cell 0; have c1 := cb.cell 1; have c2 := cb.cell 2; have c3 := cb.cell 3; have c4 := cb.cell 4; have cl := cb.lt; have cf := cb.frozen 1; have ab : Blk _ (w.heap.size + 1 + 1) 76 #[.int .u16 y0, .int .u16 y1] := HE.out.get (by simp); have a0 := ab.cell 0; have a1 := ab.cell 1; have al := ab.lt; clear sb cb ab)
    | (go_at_call 23; (refine (C2.out _ ((Below.setCell HE.out.b (by simp; try omega) _).alloc (by have := HE.out.b.size; simp; omega) _)).mono ?_); rintro e u3 ⟨v, rfl, hv, hb⟩; obtain ⟨A, n, rfl, hi⟩ := hv.in_; have HF := Lib.hid (((Below.setCell HE.out.b (by simp; try omega) _).alloc (by have := HE.out.b.size; simp; omega) _).trans (hb.mono (by have := HE.out.b.size; simp; omega))); have k1 : u3.cell? ⟨w.heap.size + 1, 1, none⟩ = some (.int .i64 d) := (by have := ((CB.out.alloc _).on hb).cell 1; simpa using this); have kl := ((CB.out.alloc _).on hb).lt; have bb : Blk u3 u2.heap.size 25 #[.int .i64 a, .int .i64 b] := (by have := (Blk.new (u2.setCell ⟨w.heap.size + 1, 1, none⟩ (.int .i64 d)) 25 #[.int .i64 a, .int .i64 b]).on hb; simpa using this); have b0 := bb.cell 0; have b1 := bb.cell 1; have bl := bb.lt; clear bb hb hi hv s0 s1 s2 s3 s4 s5 sl c0 c1 c2 c3 c4 cl cf a0 a1 al)
    | (go_at_call 16; (refine (lawake_any _).mono ?_); rintro e w9 ⟨rfl, hb⟩; have HZ := Lib.hid (HF.out.trans (hb.mono HF.out.size)); clear hb)
    | fail)
  go_ret
  exact ⟨rfl, HZ.out⟩

set_option maxRecDepth 100000 in
set_option maxHeartbeats 4000000 in
theorem lsizes_v {w : World} {p : Sp} {c : Cd} {y0 y1 q d a b : Int} {L : List Int} (hks : p.s.ks.length ≤ 12) (hk0 : 1 ≤ p.s.ks.length) (hy0 : 0 ≤ y0 ∧ y0 ≤ 65535) (hy1 : 0 ≤ y1 ∧ y1 ≤ 65535) (hq : q = y0 % p.s.ks.length) (hd : d = 1 + y1 % 2000)
    (C0 : Hid (∀ W, Below w.heap.size w W → Calls Try.prog 36 #[.agg #[.slice p.ka p.s.ks.length p.kc, .slice p.xa p.s.xs.length p.xc, .int .i64 p.s.flo, .int .i64 p.s.fhi, .int .i64 p.s.plo, .int .i64 p.s.phi], .agg #[.int .i64 c.wax, .int .i64 c.dia, .int .i64 c.dra, .int .i64 c.clo, .int .i64 c.chi]] W fun e w' => e = .returned (.int .i64 0) ∧ Below W.heap.size W w'))
    (C1 : Hid (∀ W, Below w.heap.size w W → Calls Try.prog 30 #[.agg #[.slice p.ka p.s.ks.length p.kc, .slice p.xa p.s.xs.length p.xc, .int .i64 p.s.flo, .int .i64 p.s.fhi, .int .i64 p.s.plo, .int .i64 p.s.phi], .int .i64 q, .agg #[.int .i64 c.wax, .int .i64 c.dia, .int .i64 c.dra, .int .i64 c.clo, .int .i64 c.chi]] W fun e w' => e = .returned (.tuple #[.agg #[.int .i64 a, .int .i64 b], .int .i64 0]) ∧ Below W.heap.size W w'))
    (C2 : Hid (∀ W, Below w.heap.size w W → Calls Try.prog 23 #[.agg #[.slice p.ka p.s.ks.length p.kc, .slice p.xa p.s.xs.length p.xc, .int .i64 p.s.flo, .int .i64 p.s.fhi, .int .i64 p.s.plo, .int .i64 p.s.phi], .int .i64 q, .agg #[.int .i64 c.wax, .int .i64 d, .int .i64 c.dra, .int .i64 c.clo, .int .i64 c.chi]] W (ListOut W L))) (h1 : a ≤ d) (h2 : decide (d ≤ b) = false) (hL : ((L.length : Int) == 0) = false) :
    Calls Try.prog 10 #[.agg #[.slice p.ka p.s.ks.length p.kc, .slice p.xa p.s.xs.length p.xc, .int .i64 p.s.flo, .int .i64 p.s.fhi, .int .i64 p.s.plo, .int .i64 p.s.phi], .agg #[.int .i64 c.wax, .int .i64 c.dia, .int .i64 c.dra, .int .i64 c.clo, .int .i64 c.chi], .agg #[.int .u16 y0, .int .u16 y1]] w fun e w' => e = .returned (.bool true) ∧ Below w.heap.size w w' := by
  have hb0 := (((Bx.nil w).alloc #[.slice p.ka p.s.ks.length p.kc, .slice p.xa p.s.xs.length p.xc, .int .i64 p.s.flo, .int .i64 p.s.fhi, .int .i64 p.s.plo, .int .i64 p.s.phi] 27).alloc #[.int .i64 c.wax, .int .i64 c.dia, .int .i64 c.dra, .int .i64 c.clo, .int .i64 c.chi] 34).alloc #[.int .u16 y0, .int .u16 y1] 76
  simp only [World.size_alloc] at hb0
  have HB := Lib.hid hb0
  have t0 : y0.tmod (p.s.ks.length : Int) = q := by rw [Int.tmod_eq_emod_of_nonneg hy0.1, hq]
  have t1 : y1.tmod 2000 = d - 1 := by rw [Int.tmod_eq_emod_of_nonneg hy1.1, hd]; omega
  have hd2 : 1 ≤ d ∧ d ≤ 2000 := by omega
  have w0 : IntKind.i64.wrap y0 = y0 := IntWalk.i64_in _ (by omega)
  have w1' : IntKind.i64.wrap y1 = y1 := IntWalk.i64_in _ (by omega)
  have w2 : IntKind.i64.wrap q = q := IntWalk.i64_in _ (by rw [hq]; have := Int.emod_nonneg y0 (show (p.s.ks.length : Int) ≠ 0 by omega); have := Int.emod_lt_of_pos y0 (show (0 : Int) < p.s.ks.length by omega); omega)
  have w3 : IntKind.i64.wrap (d - 1) = d - 1 := IntWalk.i64_in _ (by omega)
  have w4 : IntKind.i64.wrap (1 + (d - 1)) = d := by rw [IntWalk.i64_in _ (by omega)]; omega
  have n0 : ¬ ((p.s.ks.length : Int) = 0) := by omega
  clear hb0 hq hd
  go_enter Try.func10, Try.ntmps10
  go_wp2_with (first
    | (go_at_call 36; (refine (C0.out _ HB.out.b).mono ?_); rintro e u1 ⟨rfl, hb⟩; have HD := Lib.hid (HB.out.on hb); clear hb; have sb : Blk _ w.heap.size 27 #[.slice p.ka p.s.ks.length p.kc, .slice p.xa p.s.xs.length p.xc, .int .i64 p.s.flo, .int .i64 p.s.fhi, .int .i64 p.s.plo, .int .i64 p.s.phi] := HD.out.get (by simp); have s0 := sb.cell 0; have s1 := sb.cell 1; have s2 := sb.cell 2; have s3 := sb.cell 3; have s4 := sb.cell 4; have s5 := sb.cell 5; have sl := sb.lt; have cb : Blk _ (w.heap.size + 1) 34 #[.int .i64 c.wax, .int .i64 c.dia, .int .i64 c.dra, .int .i64 c.clo, .int .i64 c.chi] := HD.out.get (by simp); have c0 := cb.cell 0; have c1 := cb.cell 1; have c2 := cb.cell 2; have c3 := cb.cell 3; have c4 := cb.cell 4; have cl := cb.lt; have cf := cb.frozen 1; have ab : Blk _ (w.heap.size + 1 + 1) 76 #[.int .u16 y0, .int .u16 y1] := HD.out.get (by simp); have a0 := ab.cell 0; have a1 := ab.cell 1; have al := ab.lt; clear sb cb ab)
    | (go_at_call 30; (refine (C1.out _ HD.out.b).mono ?_); rintro e u2 ⟨rfl, hb⟩; have HE := Lib.hid (HD.out.on hb); clear s0 s1 s2 s3 s4 s5 sl c0 c1 c2 c3 c4 cl cf a0 a1 al; have CB := Lib.hid ((show Blk _ (w.heap.size + 1) 34 #[.int .i64 c.wax, .int .i64 c.dia, .int .i64 c.dra, .int .i64 c.clo, .int .i64 c.chi] from HE.out.get (by simp)).set_ 1 (.int .i64 d)); clear hb; have sb : Blk _ w.heap.size 27 #[.slice p.ka p.s.ks.length p.kc, .slice p.xa p.s.xs.length p.xc, .int .i64 p.s.flo, .int .i64 p.s.fhi, .int .i64 p.s.plo, .int .i64 p.s.phi] := HE.out.get (by simp); have s0 := sb.cell 0; have s1 := sb.cell 1; have s2 := sb.cell 2; have s3 := sb.cell 3; have s4 := sb.cell 4; have s5 := sb.cell 5; have sl := sb.lt; have cb : Blk _ (w.heap.size + 1) 34 #[.int .i64 c.wax, .int .i64 c.dia, .int .i64 c.dra, .int .i64 c.clo, .int .i64 c.chi] := HE.out.get (by simp); have c0 := cb.cell 0; have c1 := cb.cell 1; have c2 := cb.cell 2; have c3 := cb.cell 3; have c4 := cb.cell 4; have cl := cb.lt; have cf := cb.frozen 1; have ab : Blk _ (w.heap.size + 1 + 1) 76 #[.int .u16 y0, .int .u16 y1] := HE.out.get (by simp); have a0 := ab.cell 0; have a1 := ab.cell 1; have al := ab.lt; clear sb cb ab)
    | (go_at_call 23; (refine (C2.out _ ((Below.setCell HE.out.b (by simp; try omega) _).alloc (by have := HE.out.b.size; simp; omega) _)).mono ?_); rintro e u3 ⟨v, rfl, hv, hb⟩; obtain ⟨A, n, rfl, hi⟩ := hv.in_; have HF := Lib.hid (((Below.setCell HE.out.b (by simp; try omega) _).alloc (by have := HE.out.b.size; simp; omega) _).trans (hb.mono (by have := HE.out.b.size; simp; omega))); have k1 : u3.cell? ⟨w.heap.size + 1, 1, none⟩ = some (.int .i64 d) := (by have := ((CB.out.alloc _).on hb).cell 1; simpa using this); have kl := ((CB.out.alloc _).on hb).lt; have bb : Blk u3 u2.heap.size 25 #[.int .i64 a, .int .i64 b] := (by have := (Blk.new (u2.setCell ⟨w.heap.size + 1, 1, none⟩ (.int .i64 d)) 25 #[.int .i64 a, .int .i64 b]).on hb; simpa using this); have b0 := bb.cell 0; have b1 := bb.cell 1; have bl := bb.lt; clear bb hb hi hv s0 s1 s2 s3 s4 s5 sl c0 c1 c2 c3 c4 cl cf a0 a1 al)
    | (go_at_call 16; (refine (lawake_any _).mono ?_); rintro e w9 ⟨rfl, hb⟩; have HZ := Lib.hid (HF.out.trans (hb.mono HF.out.size)); clear hb)
    | fail)
  go_ret
  exact ⟨rfl, HZ.out⟩

set_option maxRecDepth 100000 in
set_option maxHeartbeats 4000000 in
theorem lsizes_z {w : World} {p : Sp} {c : Cd} {y0 y1 q d a b : Int} {L : List Int} (hks : p.s.ks.length ≤ 12) (hk0 : 1 ≤ p.s.ks.length) (hy0 : 0 ≤ y0 ∧ y0 ≤ 65535) (hy1 : 0 ≤ y1 ∧ y1 ≤ 65535) (hq : q = y0 % p.s.ks.length) (hd : d = 1 + y1 % 2000)
    (C0 : Hid (∀ W, Below w.heap.size w W → Calls Try.prog 36 #[.agg #[.slice p.ka p.s.ks.length p.kc, .slice p.xa p.s.xs.length p.xc, .int .i64 p.s.flo, .int .i64 p.s.fhi, .int .i64 p.s.plo, .int .i64 p.s.phi], .agg #[.int .i64 c.wax, .int .i64 c.dia, .int .i64 c.dra, .int .i64 c.clo, .int .i64 c.chi]] W fun e w' => e = .returned (.int .i64 0) ∧ Below W.heap.size W w'))
    (C1 : Hid (∀ W, Below w.heap.size w W → Calls Try.prog 30 #[.agg #[.slice p.ka p.s.ks.length p.kc, .slice p.xa p.s.xs.length p.xc, .int .i64 p.s.flo, .int .i64 p.s.fhi, .int .i64 p.s.plo, .int .i64 p.s.phi], .int .i64 q, .agg #[.int .i64 c.wax, .int .i64 c.dia, .int .i64 c.dra, .int .i64 c.clo, .int .i64 c.chi]] W fun e w' => e = .returned (.tuple #[.agg #[.int .i64 a, .int .i64 b], .int .i64 9]) ∧ Below W.heap.size W w'))
    (C2 : Hid (∀ W, Below w.heap.size w W → Calls Try.prog 23 #[.agg #[.slice p.ka p.s.ks.length p.kc, .slice p.xa p.s.xs.length p.xc, .int .i64 p.s.flo, .int .i64 p.s.fhi, .int .i64 p.s.plo, .int .i64 p.s.phi], .int .i64 q, .agg #[.int .i64 c.wax, .int .i64 d, .int .i64 c.dra, .int .i64 c.clo, .int .i64 c.chi]] W (ListOut W L))) (hL : ((L.length : Int) == 0) = false) :
    Calls Try.prog 10 #[.agg #[.slice p.ka p.s.ks.length p.kc, .slice p.xa p.s.xs.length p.xc, .int .i64 p.s.flo, .int .i64 p.s.fhi, .int .i64 p.s.plo, .int .i64 p.s.phi], .agg #[.int .i64 c.wax, .int .i64 c.dia, .int .i64 c.dra, .int .i64 c.clo, .int .i64 c.chi], .agg #[.int .u16 y0, .int .u16 y1]] w fun e w' => e = .returned (.bool true) ∧ Below w.heap.size w w' := by
  have hb0 := (((Bx.nil w).alloc #[.slice p.ka p.s.ks.length p.kc, .slice p.xa p.s.xs.length p.xc, .int .i64 p.s.flo, .int .i64 p.s.fhi, .int .i64 p.s.plo, .int .i64 p.s.phi] 27).alloc #[.int .i64 c.wax, .int .i64 c.dia, .int .i64 c.dra, .int .i64 c.clo, .int .i64 c.chi] 34).alloc #[.int .u16 y0, .int .u16 y1] 76
  simp only [World.size_alloc] at hb0
  have HB := Lib.hid hb0
  have t0 : y0.tmod (p.s.ks.length : Int) = q := by rw [Int.tmod_eq_emod_of_nonneg hy0.1, hq]
  have t1 : y1.tmod 2000 = d - 1 := by rw [Int.tmod_eq_emod_of_nonneg hy1.1, hd]; omega
  have hd2 : 1 ≤ d ∧ d ≤ 2000 := by omega
  have w0 : IntKind.i64.wrap y0 = y0 := IntWalk.i64_in _ (by omega)
  have w1' : IntKind.i64.wrap y1 = y1 := IntWalk.i64_in _ (by omega)
  have w2 : IntKind.i64.wrap q = q := IntWalk.i64_in _ (by rw [hq]; have := Int.emod_nonneg y0 (show (p.s.ks.length : Int) ≠ 0 by omega); have := Int.emod_lt_of_pos y0 (show (0 : Int) < p.s.ks.length by omega); omega)
  have w3 : IntKind.i64.wrap (d - 1) = d - 1 := IntWalk.i64_in _ (by omega)
  have w4 : IntKind.i64.wrap (1 + (d - 1)) = d := by rw [IntWalk.i64_in _ (by omega)]; omega
  have n0 : ¬ ((p.s.ks.length : Int) = 0) := by omega
  clear hb0 hq hd
  go_enter Try.func10, Try.ntmps10
  go_wp2_with (first
    | (go_at_call 36; (refine (C0.out _ HB.out.b).mono ?_); rintro e u1 ⟨rfl, hb⟩; have HD := Lib.hid (HB.out.on hb); clear hb; have sb : Blk _ w.heap.size 27 #[.slice p.ka p.s.ks.length p.kc, .slice p.xa p.s.xs.length p.xc, .int .i64 p.s.flo, .int .i64 p.s.fhi, .int .i64 p.s.plo, .int .i64 p.s.phi] := HD.out.get (by simp); have s0 := sb.cell 0; have s1 := sb.cell 1; have s2 := sb.cell 2; have s3 := sb.cell 3; have s4 := sb.cell 4; have s5 := sb.cell 5; have sl := sb.lt; have cb : Blk _ (w.heap.size + 1) 34 #[.int .i64 c.wax, .int .i64 c.dia, .int .i64 c.dra, .int .i64 c.clo, .int .i64 c.chi] := HD.out.get (by simp); have c0 := cb.cell 0; have c1 := cb.cell 1; have c2 := cb.cell 2; have c3 := cb.cell 3; have c4 := cb.cell 4; have cl := cb.lt; have cf := cb.frozen 1; have ab : Blk _ (w.heap.size + 1 + 1) 76 #[.int .u16 y0, .int .u16 y1] := HD.out.get (by simp); have a0 := ab.cell 0; have a1 := ab.cell 1; have al := ab.lt; clear sb cb ab)
    | (go_at_call 30; (refine (C1.out _ HD.out.b).mono ?_); rintro e u2 ⟨rfl, hb⟩; have HE := Lib.hid (HD.out.on hb); clear s0 s1 s2 s3 s4 s5 sl c0 c1 c2 c3 c4 cl cf a0 a1 al; have CB := Lib.hid ((show Blk _ (w.heap.size + 1) 34 #[.int .i64 c.wax, .int .i64 c.dia, .int .i64 c.dra, .int .i64 c.clo, .int .i64 c.chi] from HE.out.get (by simp)).set_ 1 (.int .i64 d)); clear hb; have sb : Blk _ w.heap.size 27 #[.slice p.ka p.s.ks.length p.kc, .slice p.xa p.s.xs.length p.xc, .int .i64 p.s.flo, .int .i64 p.s.fhi, .int .i64 p.s.plo, .int .i64 p.s.phi] := HE.out.get (by simp); have s0 := sb.cell 0; have s1 := sb.cell 1; have s2 := sb.cell 2; have s3 := sb.cell 3; have s4 := sb.cell 4; have s5 := sb.cell 5; have sl := sb.lt; have cb : Blk _ (w.heap.size + 1) 34 #[.int .i64 c.wax, .int .i64 c.dia, .int .i64 c.dra, .int .i64 c.clo, .int .i64 c.chi] := HE.out.get (by simp); have c0 := cb.cell 0; have c1 := cb.cell 1; have c2 := cb.cell 2; have c3 := cb.cell 3; have c4 := cb.cell 4; have cl := cb.lt; have cf := cb.frozen 1; have ab : Blk _ (w.heap.size + 1 + 1) 76 #[.int .u16 y0, .int .u16 y1] := HE.out.get (by simp); have a0 := ab.cell 0; have a1 := ab.cell 1; have al := ab.lt; clear sb cb ab)
    | (go_at_call 23; (refine (C2.out _ ((Below.setCell HE.out.b (by simp; try omega) _).alloc (by have := HE.out.b.size; simp; omega) _)).mono ?_); rintro e u3 ⟨v, rfl, hv, hb⟩; obtain ⟨A, n, rfl, hi⟩ := hv.in_; have HF := Lib.hid (((Below.setCell HE.out.b (by simp; try omega) _).alloc (by have := HE.out.b.size; simp; omega) _).trans (hb.mono (by have := HE.out.b.size; simp; omega))); have k1 : u3.cell? ⟨w.heap.size + 1, 1, none⟩ = some (.int .i64 d) := (by have := ((CB.out.alloc _).on hb).cell 1; simpa using this); have kl := ((CB.out.alloc _).on hb).lt; have bb : Blk u3 u2.heap.size 25 #[.int .i64 a, .int .i64 b] := (by have := (Blk.new (u2.setCell ⟨w.heap.size + 1, 1, none⟩ (.int .i64 d)) 25 #[.int .i64 a, .int .i64 b]).on hb; simpa using this); have b0 := bb.cell 0; have b1 := bb.cell 1; have bl := bb.lt; clear bb hb hi hv s0 s1 s2 s3 s4 s5 sl c0 c1 c2 c3 c4 cl cf a0 a1 al)
    | (go_at_call 16; (refine (lawake_any _).mono ?_); rintro e w9 ⟨rfl, hb⟩; have HZ := Lib.hid (HF.out.trans (hb.mono HF.out.size)); clear hb)
    | fail)
  go_ret
  exact ⟨rfl, HZ.out⟩
end Go.Proofs.Ytkjfommdeljefaa
