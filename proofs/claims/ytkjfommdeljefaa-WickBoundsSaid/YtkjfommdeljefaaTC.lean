/- WickBounds: the law. -/
import Derived.Test.YtkjfommdeljefaaTB
import Derived.Test.YtkjfommdeljefaaT7
namespace Go.Proofs.Ytkjfommdeljefaa
open Go.RowKit Go.Shelf Go.Maps
attribute [local go_sem] Oper.semAt_some

set_option maxRecDepth 100000 in
set_option maxHeartbeats 2000000 in
theorem lbn_err {w : World} {p : Sp} {c : Cd} {yk y0 y1 y2 y3 y4 y5 n0 n1 n2 n3 : Int} (h : ShIn w p) (he : askCE p.s c ≠ 0) :
    Calls Try.prog 8 #[.agg #[.slice p.ka p.s.ks.length p.kc, .slice p.xa p.s.xs.length p.xc, .int .i64 p.s.flo, .int .i64 p.s.fhi, .int .i64 p.s.plo, .int .i64 p.s.phi], .agg #[.int .i64 c.wax, .int .i64 c.dia, .int .i64 c.dra, .int .i64 c.clo, .int .i64 c.chi], .agg #[.int .u8 yk, .int .u16 y0, .int .u16 y1, .int .u16 y2, .int .u16 y3, .int .u16 y4, .int .u16 y5, .int .u16 n0, .int .u16 n1, .int .u16 n2, .int .u16 n3]] w fun e w' => e = .returned (.bool true) ∧ Below w.heap.size w w' := by
  have hb0 := (((Bx.nil w).alloc #[.slice p.ka p.s.ks.length p.kc, .slice p.xa p.s.xs.length p.xc, .int .i64 p.s.flo, .int .i64 p.s.fhi, .int .i64 p.s.plo, .int .i64 p.s.phi] 27).alloc #[.int .i64 c.wax, .int .i64 c.dia, .int .i64 c.dra, .int .i64 c.clo, .int .i64 c.chi] 34).alloc #[.int .u8 yk, .int .u16 y0, .int .u16 y1, .int .u16 y2, .int .u16 y3, .int .u16 y4, .int .u16 y5, .int .u16 n0, .int .u16 n1, .int .u16 n2, .int .u16 n3] 65
  simp only [World.size_alloc] at hb0
  have HB := Lib.hid hb0
  have HC := Lib.hid (fun (W : World) (hW : Below w.heap.size w W) => rcandle_any c (h.on hW))
  have hz : (askCE p.s c != 0) = true := by simpa using he
  clear h he hb0
  generalize askCE p.s c = z at *
  go_enter Try.func8, Try.ntmps8
  go_wp2_with (first
    | (go_at_call 36; (with_reducible refine (HC.out _ HB.out.b).mono ?_); rintro e w1 ⟨rfl, hb⟩; have HD := Lib.hid (HB.out.on hb); clear hb)
    | (go_at_call 16; (refine (lawake_any _).mono ?_); rintro e w9 ⟨rfl, hb⟩; have HZ := Lib.hid (HD.out.b.trans (hb.mono HD.out.b.size)); clear hb)
    | fail)
  go_ret
  exact ⟨rfl, HZ.out⟩

set_option maxRecDepth 100000 in
set_option maxHeartbeats 4000000 in
theorem lbn_ok {w : World} {p : Sp} {c : Cd} {q yk y0 y1 y2 y3 y4 y5 n0 n1 n2 n3 : Int} {l su wr wp wm : List Int} {b pb mb : Bn} {t lo hi : Tu} {z : Bool} (hks : p.s.ks.length ≤ 12) (hk0 : 1 ≤ p.s.ks.length) (hyk : 0 ≤ yk ∧ yk ≤ 255) (hq : q = yk % p.s.ks.length) (hll : l.length ≤ 4) (hwl : wr.length ≤ 4)
    (C0 : Hid (∀ W, Below w.heap.size w W → Calls Try.prog 36 #[.agg #[.slice p.ka p.s.ks.length p.kc, .slice p.xa p.s.xs.length p.xc, .int .i64 p.s.flo, .int .i64 p.s.fhi, .int .i64 p.s.plo, .int .i64 p.s.phi], .agg #[.int .i64 c.wax, .int .i64 c.dia, .int .i64 c.dra, .int .i64 c.clo, .int .i64 c.chi]] W fun e w' => e = .returned (.int .i64 0) ∧ Below W.heap.size W w'))
    (C1 : Hid (∀ W, Below w.heap.size w W → Calls Try.prog 23 #[.agg #[.slice p.ka p.s.ks.length p.kc, .slice p.xa p.s.xs.length p.xc, .int .i64 p.s.flo, .int .i64 p.s.fhi, .int .i64 p.s.plo, .int .i64 p.s.phi], .int .i64 q, .agg #[.int .i64 c.wax, .int .i64 c.dia, .int .i64 c.dra, .int .i64 c.clo, .int .i64 c.chi]] W (ListOut W l)))
    (C2 : Hid (∀ W, Below w.heap.size w W → Calls Try.prog 26 #[.agg #[.slice p.ka p.s.ks.length p.kc, .slice p.xa p.s.xs.length p.xc, .int .i64 p.s.flo, .int .i64 p.s.fhi, .int .i64 p.s.plo, .int .i64 p.s.phi], .agg #[.int .i64 c.wax, .int .i64 c.dia, .int .i64 c.dra, .int .i64 c.clo, .int .i64 c.chi]] W (ListOut W su)))
    (C3 : Hid (∀ W, Below w.heap.size w W → Calls Try.prog 37 #[.agg #[.slice p.ka p.s.ks.length p.kc, .slice p.xa p.s.xs.length p.xc, .int .i64 p.s.flo, .int .i64 p.s.fhi, .int .i64 p.s.plo, .int .i64 p.s.phi], .int .i64 q, .agg #[.int .i64 c.wax, .int .i64 c.dia, .int .i64 c.dra, .int .i64 c.clo, .int .i64 c.chi], .agg #[.int .u16 y0, .int .u16 y1, .int .u16 y2, .int .u16 y3, .int .u16 y4, .int .u16 y5]] W fun e w' => e = .returned (.agg #[.int .i64 t.pull, .int .i64 t.flow, .int .i64 t.rise, .int .i64 t.spr, .int .i64 t.dra, .int .i64 t.cold]) ∧ Below W.heap.size W w'))
    (C4 : Hid (∀ W, Below w.heap.size w W → Calls Try.prog 17 #[.agg #[.slice p.ka p.s.ks.length p.kc, .slice p.xa p.s.xs.length p.xc, .int .i64 p.s.flo, .int .i64 p.s.fhi, .int .i64 p.s.plo, .int .i64 p.s.phi], .int .i64 q, .agg #[.int .i64 c.wax, .int .i64 c.dia, .int .i64 c.dra, .int .i64 c.clo, .int .i64 c.chi], .agg #[.int .i64 t.pull, .int .i64 t.flow, .int .i64 t.rise, .int .i64 t.spr, .int .i64 t.dra, .int .i64 t.cold]] W fun e w' => e = .returned (.tuple #[.agg #[.int .i64 b.rate, .int .i64 b.flame, .int .i64 b.pool], .int .i64 0]) ∧ Below W.heap.size W w'))
    (C5 : Hid (∀ W, Below w.heap.size w W → Calls Try.prog 40 #[.agg #[.slice p.ka p.s.ks.length p.kc, .slice p.xa p.s.xs.length p.xc, .int .i64 p.s.flo, .int .i64 p.s.fhi, .int .i64 p.s.plo, .int .i64 p.s.phi], .agg #[.int .i64 c.wax, .int .i64 c.dia, .int .i64 c.dra, .int .i64 c.clo, .int .i64 c.chi], .agg #[.int .i64 b.rate, .int .i64 b.flame, .int .i64 b.pool]] W fun e w' => ∃ A1 c1, e = .returned (.slice A1 wr.length c1) ∧ IntsIn w' A1 wr ∧ Below W.heap.size W w'))
    (C6 : Hid (∀ W, Below w.heap.size w W → Calls Try.prog 38 #[.agg #[.slice p.ka p.s.ks.length p.kc, .slice p.xa p.s.xs.length p.xc, .int .i64 p.s.flo, .int .i64 p.s.fhi, .int .i64 p.s.plo, .int .i64 p.s.phi], .int .i64 q, .agg #[.int .i64 c.wax, .int .i64 c.dia, .int .i64 c.dra, .int .i64 c.clo, .int .i64 c.chi]] W fun e w' => e = .returned (.tuple #[.agg #[.int .i64 lo.pull, .int .i64 lo.flow, .int .i64 lo.rise, .int .i64 lo.spr, .int .i64 lo.dra, .int .i64 lo.cold], .agg #[.int .i64 hi.pull, .int .i64 hi.flow, .int .i64 hi.rise, .int .i64 hi.spr, .int .i64 hi.dra, .int .i64 hi.cold]]) ∧ Below W.heap.size W w'))
    (C7 : Hid (∀ W, Below w.heap.size w W → Calls Try.prog 17 #[.agg #[.slice p.ka p.s.ks.length p.kc, .slice p.xa p.s.xs.length p.xc, .int .i64 p.s.flo, .int .i64 p.s.fhi, .int .i64 p.s.plo, .int .i64 p.s.phi], .int .i64 q, .agg #[.int .i64 c.wax, .int .i64 c.dia, .int .i64 c.dra, .int .i64 c.clo, .int .i64 c.chi], .agg #[.int .i64 lo.pull, .int .i64 lo.flow, .int .i64 lo.rise, .int .i64 lo.spr, .int .i64 lo.dra, .int .i64 lo.cold]] W fun e w' => e = .returned (.tuple #[.agg #[.int .i64 pb.rate, .int .i64 pb.flame, .int .i64 pb.pool], .int .i64 0]) ∧ Below W.heap.size W w'))
    (C8 : Hid (∀ W, Below w.heap.size w W → Calls Try.prog 17 #[.agg #[.slice p.ka p.s.ks.length p.kc, .slice p.xa p.s.xs.length p.xc, .int .i64 p.s.flo, .int .i64 p.s.fhi, .int .i64 p.s.plo, .int .i64 p.s.phi], .int .i64 q, .agg #[.int .i64 c.wax, .int .i64 c.dia, .int .i64 c.dra, .int .i64 c.clo, .int .i64 c.chi], .agg #[.int .i64 hi.pull, .int .i64 hi.flow, .int .i64 hi.rise, .int .i64 hi.spr, .int .i64 hi.dra, .int .i64 hi.cold]] W fun e w' => e = .returned (.tuple #[.agg #[.int .i64 mb.rate, .int .i64 mb.flame, .int .i64 mb.pool], .int .i64 0]) ∧ Below W.heap.size W w'))
    (C9 : Hid (∀ W, Below w.heap.size w W → Calls Try.prog 40 #[.agg #[.slice p.ka p.s.ks.length p.kc, .slice p.xa p.s.xs.length p.xc, .int .i64 p.s.flo, .int .i64 p.s.fhi, .int .i64 p.s.plo, .int .i64 p.s.phi], .agg #[.int .i64 c.wax, .int .i64 c.dia, .int .i64 c.dra, .int .i64 c.clo, .int .i64 c.chi], .agg #[.int .i64 pb.rate, .int .i64 pb.flame, .int .i64 pb.pool]] W fun e w' => ∃ A1 c1, e = .returned (.slice A1 wp.length c1) ∧ IntsIn w' A1 wp ∧ Below W.heap.size W w'))
    (C10 : Hid (∀ W, Below w.heap.size w W → Calls Try.prog 40 #[.agg #[.slice p.ka p.s.ks.length p.kc, .slice p.xa p.s.xs.length p.xc, .int .i64 p.s.flo, .int .i64 p.s.fhi, .int .i64 p.s.plo, .int .i64 p.s.phi], .agg #[.int .i64 c.wax, .int .i64 c.dia, .int .i64 c.dra, .int .i64 c.clo, .int .i64 c.chi], .agg #[.int .i64 mb.rate, .int .i64 mb.flame, .int .i64 mb.pool]] W fun e w' => ∃ A1 c1, e = .returned (.slice A1 wm.length c1) ∧ IntsIn w' A1 wm ∧ Below W.heap.size W w'))
    (hz1 : decide (q ∈ su) = z) (hz2 : ((l.length : Int) == 0) = z)
    (FW : Hid (∀ (i : Nat) (x : Int), wr[i]? = some x → x ∈ l))
    (FL : Hid (∀ (i : Nat) (x : Int), l[i]? = some x → x ∈ wp ∨ x ∈ wm))
    (FS : Hid (∀ (i : Nat) (x y : Int), l[i]? = some x → l[i + 1]? = some y → x < y)) :
    Calls Try.prog 8 #[.agg #[.slice p.ka p.s.ks.length p.kc, .slice p.xa p.s.xs.length p.xc, .int .i64 p.s.flo, .int .i64 p.s.fhi, .int .i64 p.s.plo, .int .i64 p.s.phi], .agg #[.int .i64 c.wax, .int .i64 c.dia, .int .i64 c.dra, .int .i64 c.clo, .int .i64 c.chi], .agg #[.int .u8 yk, .int .u16 y0, .int .u16 y1, .int .u16 y2, .int .u16 y3, .int .u16 y4, .int .u16 y5, .int .u16 n0, .int .u16 n1, .int .u16 n2, .int .u16 n3]] w fun e w' => e = .returned (.bool true) ∧ Below w.heap.size w w' := by
  have hb0 := (((Bx.nil w).alloc #[.slice p.ka p.s.ks.length p.kc, .slice p.xa p.s.xs.length p.xc, .int .i64 p.s.flo, .int .i64 p.s.fhi, .int .i64 p.s.plo, .int .i64 p.s.phi] 27).alloc #[.int .i64 c.wax, .int .i64 c.dia, .int .i64 c.dra, .int .i64 c.clo, .int .i64 c.chi] 34).alloc #[.int .u8 yk, .int .u16 y0, .int .u16 y1, .int .u16 y2, .int .u16 y3, .int .u16 y4, .int .u16 y5, .int .u16 n0, .int .u16 n1, .int .u16 n2, .int .u16 n3] 65
  simp only [World.size_alloc] at hb0
  have HB := Lib.hid hb0
  have t0 : yk.tmod (p.s.ks.length : Int) = q := by rw [Int.tmod_eq_emod_of_nonneg hyk.1, hq]
  have w0 : IntKind.i64.wrap yk = yk := IntWalk.i64_in _ (by omega)
  have w2 : IntKind.i64.wrap q = q := IntWalk.i64_in _ (by rw [hq]; have := Int.emod_nonneg yk (show (p.s.ks.length : Int) ≠ 0 by omega); have := Int.emod_lt_of_pos yk (show (0 : Int) < p.s.ks.length by omega); omega)
  have n0' : ¬ ((p.s.ks.length : Int) = 0) := by omega
  have E1 : ∀ W, (binOp .neq 4 (.bool z) (.bool z)).run Try.prog W = .ok (.bool false) W := fun W => by cases z <;> kernel_rfl
  clear hb0 hq
  go_enter Try.func8, Try.ntmps8
  go_wp2_with (first
    | (go_at_call 36; (with_reducible refine (C0.out _ HB.out.b).mono ?_); rintro e w1 ⟨rfl, hb⟩; have HD := Lib.hid (HB.out.on hb); clear hb; have sb : Blk _ (w.heap.size) 27 #[.slice p.ka p.s.ks.length p.kc, .slice p.xa p.s.xs.length p.xc, .int .i64 p.s.flo, .int .i64 p.s.fhi, .int .i64 p.s.plo, .int .i64 p.s.phi] := HD.out.get (by simp); have s0 := sb.cell 0; have s1 := sb.cell 1; have s2 := sb.cell 2; have s3 := sb.cell 3; have s4 := sb.cell 4; have s5 := sb.cell 5; have sl := sb.lt; clear sb; have cb : Blk _ (w.heap.size + 1) 34 #[.int .i64 c.wax, .int .i64 c.dia, .int .i64 c.dra, .int .i64 c.clo, .int .i64 c.chi] := HD.out.get (by simp); have c0 := cb.cell 0; have c1 := cb.cell 1; have c2 := cb.cell 2; have c3 := cb.cell 3; have c4 := cb.cell 4; have cl := cb.lt; clear cb; have xb : Blk _ (w.heap.size + 1 + 1) 65 #[.int .u8 yk, .int .u16 y0, .int .u16 y1, .int .u16 y2, .int .u16 y3, .int .u16 y4, .int .u16 y5, .int .u16 n0, .int .u16 n1, .int .u16 n2, .int .u16 n3] := HD.out.get (by simp); have x0 := xb.cell 0; have x1 := xb.cell 1; have x2 := xb.cell 2; have x3 := xb.cell 3; have x4 := xb.cell 4; have x5 := xb.cell 5; have x6 := xb.cell 6; have x7 := xb.cell 7; have x8 := xb.cell 8; have x9 := xb.cell 9; have x10 := xb.cell 10; have xl := xb.lt; clear xb)
    | (go_at_call 23; (with_reducible refine (C1.out _ HD.out.b).mono ?_); rintro e w2 ⟨v, rfl, hv, hb⟩; obtain ⟨Al, lcap, rfl, hi1⟩ := hv.in_; have HE := Lib.hid (HD.out.on hb); have HL2 := Lib.hid hi1; clear hb hv hi1; clear s0 s1 s2 s3 s4 s5 sl; clear c0 c1 c2 c3 c4 cl; clear x0 x1 x2 x3 x4 x5 x6 x7 x8 x9 x10 xl; have sb : Blk _ (w.heap.size) 27 #[.slice p.ka p.s.ks.length p.kc, .slice p.xa p.s.xs.length p.xc, .int .i64 p.s.flo, .int .i64 p.s.fhi, .int .i64 p.s.plo, .int .i64 p.s.phi] := HE.out.get (by simp); have s0 := sb.cell 0; have s1 := sb.cell 1; have s2 := sb.cell 2; have s3 := sb.cell 3; have s4 := sb.cell 4; have s5 := sb.cell 5; have sl := sb.lt; clear sb; have cb : Blk _ (w.heap.size + 1) 34 #[.int .i64 c.wax, .int .i64 c.dia, .int .i64 c.dra, .int .i64 c.clo, .int .i64 c.chi] := HE.out.get (by simp); have c0 := cb.cell 0; have c1 := cb.cell 1; have c2 := cb.cell 2; have c3 := cb.cell 3; have c4 := cb.cell 4; have cl := cb.lt; clear cb)
    | (go_at_call 26; (with_reducible refine (C2.out _ HE.out.b).mono ?_); rintro e w3 ⟨v, rfl, hv, hb⟩; obtain ⟨As, cs, rfl, hi1⟩ := hv.in_; have HF := Lib.hid (HE.out.on hb); have HL3 := Lib.hid (HL2.out.on hb); have HS3 := Lib.hid hi1; clear hb hv hi1; clear s0 s1 s2 s3 s4 s5 sl; clear c0 c1 c2 c3 c4 cl)
    | fail)
  refine wp_of_eq (lb6_region (S := SB w3 w3.heap.size) (N := w3.heap.size) (P := w.heap.size) (C := w.heap.size + 1) (X := w.heap.size + 1 + 1) (qk := q) (p := p) (c := c) (t := t) (b := b) (yk := yk) (y0 := y0) (y1 := y1) (y2 := y2) (y3 := y3) (y4 := y4) (y5 := y5) (n0 := n0) (n1 := n1) (n2 := n2) (n3 := n3) (fun W h => (HF.out.get (by simp)).on h.b) (fun W h => (HF.out.get (by simp)).on h.b) (fun W h => (HF.out.get (by simp)).on h.b) (Lib.hid fun W h => C3.out W (HF.out.b.trans (h.b.mono HF.out.b.size))) (Lib.hid fun W h => C4.out W (HF.out.b.trans (h.b.mono HF.out.b.size)))
    (fun _ _ h hb => h.on hb) (fun W W' G h hg hG => h.put hg hG) (fun W h => h.n) (Lib.hid ⟨Below.refl _ _, Nat.le_refl _⟩) (Lib.hid fun u G0 W hS hG hB => ?_)) (by kernel_rfl)
  have HS := Lib.hid ((HF.out.on hS.b).add hB (by have := HF.out.b.size; omega))
  have HL4 := Lib.hid (HL3.out.on hS.b)
  have HS4 := Lib.hid (HS3.out.on hS.b)
  clear hS hB hG
  have sb : Blk _ (w.heap.size) 27 #[.slice p.ka p.s.ks.length p.kc, .slice p.xa p.s.xs.length p.xc, .int .i64 p.s.flo, .int .i64 p.s.fhi, .int .i64 p.s.plo, .int .i64 p.s.phi] := HS.out.get (by simp); have s0 := sb.cell 0; have s1 := sb.cell 1; have s2 := sb.cell 2; have s3 := sb.cell 3; have s4 := sb.cell 4; have s5 := sb.cell 5; have sl := sb.lt; clear sb; have cb : Blk _ (w.heap.size + 1) 34 #[.int .i64 c.wax, .int .i64 c.dia, .int .i64 c.dra, .int .i64 c.clo, .int .i64 c.chi] := HS.out.get (by simp); have c0 := cb.cell 0; have c1 := cb.cell 1; have c2 := cb.cell 2; have c3 := cb.cell 3; have c4 := cb.cell 4; have cl := cb.lt; clear cb; have fb : Blk _ (G0) 40 #[.int .i64 b.rate, .int .i64 b.flame, .int .i64 b.pool] := HS.out.get (by simp); have f0 := fb.cell 0; have f1 := fb.cell 1; have f2 := fb.cell 2; have fl := fb.lt; clear fb
  go_wp2_with (first
    | (go_at_call 39; (with_reducible refine (rhas_any HS4.out _).mono ?_); rintro e wz ⟨rfl, rfl⟩)
    | (go_at_call 40; (with_reducible refine (C5.out _ HS.out.b).mono ?_); rintro e w5 ⟨Aw, cw, rfl, hi1, hb⟩; have HU := Lib.hid (HS.out.on hb); have HL5 := Lib.hid (HL4.out.on hb); have HW5 := Lib.hid hi1; clear hb hi1 s0 s1 s2 s3 s4 s5 sl c0 c1 c2 c3 c4 cl f0 f1 f2 fl)
    | fail)
  go_loop [15] (fun i => ∃ k : Nat, k ≤ wr.length ∧ i = .int .i64 (k : Int)) (fun i => wr.length - (intOf i).toNat)
  case atStart => exact ⟨0, by omega, rfl⟩
  case round =>
    obtain ⟨k, hk, rfl⟩ := hrel
    by_cases hlt : k < wr.length
    · obtain ⟨x, hx⟩ : ∃ x, wr[k]? = some x := ⟨wr[k], List.getElem?_eq_getElem hlt⟩
      obtain ⟨b0, o0, rfl, _, hc⟩ := ints_at HW5.out.at_ hx
      have hd : decide (x ∈ l) = true := decide_eq_true (FW.out k x hx)
      clear hx
      go_wp2_with (first
        | (go_at_call 39; (with_reducible refine (rhas_any HL5.out _).mono ?_); rintro e wz ⟨rfl, rfl⟩)
        | fail)
      go_round
      case rel => exact ⟨k + 1, by omega, by go_num⟩
      case measure => simp [intOf]; omega
    · have sb : Blk _ (w.heap.size) 27 #[.slice p.ka p.s.ks.length p.kc, .slice p.xa p.s.xs.length p.xc, .int .i64 p.s.flo, .int .i64 p.s.fhi, .int .i64 p.s.plo, .int .i64 p.s.phi] := HU.out.get (by simp); have s0 := sb.cell 0; have s1 := sb.cell 1; have s2 := sb.cell 2; have s3 := sb.cell 3; have s4 := sb.cell 4; have s5 := sb.cell 5; have sl := sb.lt; clear sb; have cb : Blk _ (w.heap.size + 1) 34 #[.int .i64 c.wax, .int .i64 c.dia, .int .i64 c.dra, .int .i64 c.clo, .int .i64 c.chi] := HU.out.get (by simp); have c0 := cb.cell 0; have c1 := cb.cell 1; have c2 := cb.cell 2; have c3 := cb.cell 3; have c4 := cb.cell 4; have cl := cb.lt; clear cb
      go_wp2_with (first
        | (go_at_call 38; (with_reducible refine (C6.out _ HU.out.b).mono ?_); rintro e w6 ⟨rfl, hb⟩; have HV0 := Lib.hid (HU.out.on hb); have HQ0 := Lib.hid (((Bx.nil w5).on hb).alloc #[.int .i64 lo.pull, .int .i64 lo.flow, .int .i64 lo.rise, .int .i64 lo.spr, .int .i64 lo.dra, .int .i64 lo.cold] 36 |>.alloc #[.int .i64 hi.pull, .int .i64 hi.flow, .int .i64 hi.rise, .int .i64 hi.spr, .int .i64 hi.dra, .int .i64 hi.cold] 36); clear hb s0 s1 s2 s3 s4 s5 sl c0 c1 c2 c3 c4 cl; have sb : Blk _ (w.heap.size) 27 #[.slice p.ka p.s.ks.length p.kc, .slice p.xa p.s.xs.length p.xc, .int .i64 p.s.flo, .int .i64 p.s.fhi, .int .i64 p.s.plo, .int .i64 p.s.phi] := HV0.out.get (by simp); have s0 := sb.cell 0; have s1 := sb.cell 1; have s2 := sb.cell 2; have s3 := sb.cell 3; have s4 := sb.cell 4; have s5 := sb.cell 5; have sl := sb.lt; clear sb; have cb : Blk _ (w.heap.size + 1) 34 #[.int .i64 c.wax, .int .i64 c.dia, .int .i64 c.dra, .int .i64 c.clo, .int .i64 c.chi] := HV0.out.get (by simp); have c0 := cb.cell 0; have c1 := cb.cell 1; have c2 := cb.cell 2; have c3 := cb.cell 3; have c4 := cb.cell 4; have cl := cb.lt; clear cb; have hv0 := (HV0.out.alloc #[.int .i64 lo.pull, .int .i64 lo.flow, .int .i64 lo.rise, .int .i64 lo.spr, .int .i64 lo.dra, .int .i64 lo.cold] 36).alloc #[.int .i64 hi.pull, .int .i64 hi.flow, .int .i64 hi.rise, .int .i64 hi.spr, .int .i64 hi.dra, .int .i64 hi.cold] 36; simp only [World.size_alloc] at hv0; have HV := Lib.hid hv0; clear hv0)
        | (go_at_call 17; (with_reducible refine (C7.out _ HV.out.b).mono ?_); rintro e w7 ⟨rfl, hb⟩; have HX := Lib.hid (HV.out.on hb); have HQ1 := Lib.hid ((HQ0.out.on hb).alloc #[.int .i64 pb.rate, .int .i64 pb.flame, .int .i64 pb.pool] 40); clear hb s0 s1 s2 s3 s4 s5 sl c0 c1 c2 c3 c4 cl; have sb : Blk _ (w.heap.size) 27 #[.slice p.ka p.s.ks.length p.kc, .slice p.xa p.s.xs.length p.xc, .int .i64 p.s.flo, .int .i64 p.s.fhi, .int .i64 p.s.plo, .int .i64 p.s.phi] := HX.out.get (by simp); have s0 := sb.cell 0; have s1 := sb.cell 1; have s2 := sb.cell 2; have s3 := sb.cell 3; have s4 := sb.cell 4; have s5 := sb.cell 5; have sl := sb.lt; clear sb; have cb : Blk _ (w.heap.size + 1) 34 #[.int .i64 c.wax, .int .i64 c.dia, .int .i64 c.dra, .int .i64 c.clo, .int .i64 c.chi] := HX.out.get (by simp); have c0 := cb.cell 0; have c1 := cb.cell 1; have c2 := cb.cell 2; have c3 := cb.cell 3; have c4 := cb.cell 4; have cl := cb.lt; clear cb; have gb : Blk _ (w6.heap.size + 1) 36 #[.int .i64 hi.pull, .int .i64 hi.flow, .int .i64 hi.rise, .int .i64 hi.spr, .int .i64 hi.dra, .int .i64 hi.cold] := HX.out.get (by simp); have g0 := gb.cell 0; have g1 := gb.cell 1; have g2 := gb.cell 2; have g3 := gb.cell 3; have g4 := gb.cell 4; have g5 := gb.cell 5; have gl := gb.lt; clear gb; have HY := Lib.hid (HX.out.alloc #[.int .i64 pb.rate, .int .i64 pb.flame, .int .i64 pb.pool] 40))
        | (go_at_call 17; (with_reducible refine (C8.out _ HY.out.b).mono ?_); rintro e w8 ⟨rfl, hb⟩; have HA := Lib.hid (HY.out.on hb); have HQ2 := Lib.hid ((HQ1.out.on hb).alloc #[.int .i64 mb.rate, .int .i64 mb.flame, .int .i64 mb.pool] 40); clear hb s0 s1 s2 s3 s4 s5 sl c0 c1 c2 c3 c4 cl g0 g1 g2 g3 g4 g5 gl)
        | fail)
      have HM := Lib.hid (HA.out.alloc #[.int .i64 mb.rate, .int .i64 mb.flame, .int .i64 mb.pool] 40)
      have HL8 := Lib.hid (HL5.out.on HQ2.out.b)
      clear HQ0 HQ1 HQ2
      go_loopw [20] (fun i W => ∃ k : Nat, k ≤ l.length ∧ i = .int .i64 (k : Int) ∧ Hid (Below (World.alloc w8 (.cells #[.int .i64 mb.rate, .int .i64 mb.flame, .int .i64 mb.pool] 40)).heap.size (World.alloc w8 (.cells #[.int .i64 mb.rate, .int .i64 mb.flame, .int .i64 mb.pool] 40)) W)) (fun i _ => l.length - (intOf i).toNat)
      case atStart => exact ⟨0, by omega, rfl, Below.refl _ _⟩
      case round =>
        obtain ⟨n, hn, rfl, HWW⟩ := hrel
        by_cases hlt2 : n < l.length
        · obtain ⟨x, hx⟩ : ∃ x, l[n]? = some x := ⟨l[n], List.getElem?_eq_getElem hlt2⟩
          obtain ⟨bl, ol, hAl, hbb, hc⟩ := ints_at HL8.out.at_ hx
          have hin := FL.out n x hx
          have HXX := Lib.hid hx
          have HXC := Lib.hid (And.intro hbb hc)
          subst hAl
          clear hx hc hbb
          by_cases hxa : decide (x ∈ wp) = true
          · match n, hn, hlt2, HXX, HXC with
            | 0, _, hlt2, HXX, HXC =>
              go_wp2_with fail
              refine wp_of_eq (lbft_region (S := fun W => Below (World.alloc w8 (.cells #[.int .i64 mb.rate, .int .i64 mb.flame, .int .i64 mb.pool] 40)).heap.size (World.alloc w8 (.cells #[.int .i64 mb.rate, .int .i64 mb.flame, .int .i64 mb.pool] 40)) W) (fun W W' h hb => h.trans (hb.mono h.size)) (P := w.heap.size) (C := w.heap.size + 1) (B1 := w7.heap.size) (B2 := w8.heap.size) (b := bl) (o := ol) (m := l.length) (mc := lcap) (kk := 0) (jj := 0) (x := x) (y := 0) (p := p) (c := c) (b1 := pb) (b2 := mb) (wp := wp) (wm := wm) (fun W h => (HM.out.get (by simp)).on h) (fun W h => (HM.out.get (by simp)).on h) (fun W h => (HM.out.get (by simp)).on h) (Lib.hid fun W h => C9.out W (HM.out.b.trans (h.mono HM.out.b.size))) hxa (by omega) (fun W h => (h.cell (p := ⟨bl, _, none⟩) HXC.out.1).trans HXC.out.2) HWW (Lib.hid fun u W h => ?_)) (by kernel_rfl)
              have HG := Lib.hid h
              clear h
              go_wp2_with fail
              go_roundw
              case rel => exact ⟨1, by omega, by go_num, HG⟩
              case measure => simp [intOf]; omega
            | jn + 1, _, hlt2, HXX, HXC =>
              obtain ⟨yv, hyv⟩ : ∃ y, l[jn]? = some y := ⟨l[jn]'(by omega), List.getElem?_eq_getElem (by omega)⟩
              have hyc := ints_at HL8.out.at_ hyv
              obtain ⟨b2, o2, hA2, hb2, hc2⟩ := hyc
              cases hA2
              have HXY := Lib.hid (FS.out jn yv x hyv HXX.out)
              have HYC := Lib.hid (And.intro hb2 hc2)
              clear hyv hb2 hc2
              go_wp2_with fail
              refine wp_of_eq (lbnt_region (S := fun W => Below (World.alloc w8 (.cells #[.int .i64 mb.rate, .int .i64 mb.flame, .int .i64 mb.pool] 40)).heap.size (World.alloc w8 (.cells #[.int .i64 mb.rate, .int .i64 mb.flame, .int .i64 mb.pool] 40)) W) (fun W W' h hb => h.trans (hb.mono h.size)) (P := w.heap.size) (C := w.heap.size + 1) (B1 := w7.heap.size) (B2 := w8.heap.size) (b := bl) (o := ol) (m := l.length) (mc := lcap) (kk := jn + 1) (jj := jn) (x := x) (y := yv) (p := p) (c := c) (b1 := pb) (b2 := mb) (wp := wp) (wm := wm) (fun W h => (HM.out.get (by simp)).on h) (fun W h => (HM.out.get (by simp)).on h) (fun W h => (HM.out.get (by simp)).on h) (Lib.hid fun W h => C9.out W (HM.out.b.trans (h.mono HM.out.b.size))) hxa (by omega) (fun W h => (h.cell (p := ⟨bl, _, none⟩) HXC.out.1).trans HXC.out.2) (by omega) (by omega) (by rw [show (((jn + 1 : Nat) : Int) - 1) = (jn : Int) by omega]; exact IntWalk.i64_in _ (by omega)) (fun W h => (h.cell (p := ⟨bl, _, none⟩) HYC.out.1).trans HYC.out.2) (decide_eq_false (by have := HXY.out; omega)) HWW (Lib.hid fun u W h => ?_)) (by kernel_rfl)
              have HG := Lib.hid h
              clear h
              go_wp2_with fail
              go_roundw
              case rel => exact ⟨jn + 1 + 1, by omega, by go_num, HG⟩
              case measure => simp [intOf]; omega
          · have hxa : decide (x ∈ wp) = false := by simpa using hxa
            have hxb : decide (x ∈ wm) = true := decide_eq_true (hin.resolve_left (of_decide_eq_false hxa))
            clear hin
            match n, hn, hlt2, HXX, HXC with
            | 0, _, hlt2, HXX, HXC =>
              go_wp2_with fail
              refine wp_of_eq (lbff_region (S := fun W => Below (World.alloc w8 (.cells #[.int .i64 mb.rate, .int .i64 mb.flame, .int .i64 mb.pool] 40)).heap.size (World.alloc w8 (.cells #[.int .i64 mb.rate, .int .i64 mb.flame, .int .i64 mb.pool] 40)) W) (fun W W' h hb => h.trans (hb.mono h.size)) (P := w.heap.size) (C := w.heap.size + 1) (B1 := w7.heap.size) (B2 := w8.heap.size) (b := bl) (o := ol) (m := l.length) (mc := lcap) (kk := 0) (jj := 0) (x := x) (y := 0) (p := p) (c := c) (b1 := pb) (b2 := mb) (wp := wp) (wm := wm) (fun W h => (HM.out.get (by simp)).on h) (fun W h => (HM.out.get (by simp)).on h) (fun W h => (HM.out.get (by simp)).on h) (Lib.hid fun W h => C9.out W (HM.out.b.trans (h.mono HM.out.b.size))) hxa (by omega) (fun W h => (h.cell (p := ⟨bl, _, none⟩) HXC.out.1).trans HXC.out.2) (fun W h => (HM.out.get (by simp)).on h) (Lib.hid fun W h => C10.out W (HM.out.b.trans (h.mono HM.out.b.size))) hxb HWW (Lib.hid fun u W h => ?_)) (by kernel_rfl)
              have HG := Lib.hid h
              clear h
              go_wp2_with fail
              go_roundw
              case rel => exact ⟨1, by omega, by go_num, HG⟩
              case measure => simp [intOf]; omega
            | jn + 1, _, hlt2, HXX, HXC =>
              obtain ⟨yv, hyv⟩ : ∃ y, l[jn]? = some y := ⟨l[jn]'(by omega), List.getElem?_eq_getElem (by omega)⟩
              have hyc := ints_at HL8.out.at_ hyv
              obtain ⟨b2, o2, hA2, hb2, hc2⟩ := hyc
              cases hA2
              have HXY := Lib.hid (FS.out jn yv x hyv HXX.out)
              have HYC := Lib.hid (And.intro hb2 hc2)
              clear hyv hb2 hc2
              go_wp2_with fail
              refine wp_of_eq (lbnf_region (S := fun W => Below (World.alloc w8 (.cells #[.int .i64 mb.rate, .int .i64 mb.flame, .int .i64 mb.pool] 40)).heap.size (World.alloc w8 (.cells #[.int .i64 mb.rate, .int .i64 mb.flame, .int .i64 mb.pool] 40)) W) (fun W W' h hb => h.trans (hb.mono h.size)) (P := w.heap.size) (C := w.heap.size + 1) (B1 := w7.heap.size) (B2 := w8.heap.size) (b := bl) (o := ol) (m := l.length) (mc := lcap) (kk := jn + 1) (jj := jn) (x := x) (y := yv) (p := p) (c := c) (b1 := pb) (b2 := mb) (wp := wp) (wm := wm) (fun W h => (HM.out.get (by simp)).on h) (fun W h => (HM.out.get (by simp)).on h) (fun W h => (HM.out.get (by simp)).on h) (Lib.hid fun W h => C9.out W (HM.out.b.trans (h.mono HM.out.b.size))) hxa (by omega) (fun W h => (h.cell (p := ⟨bl, _, none⟩) HXC.out.1).trans HXC.out.2) (fun W h => (HM.out.get (by simp)).on h) (Lib.hid fun W h => C10.out W (HM.out.b.trans (h.mono HM.out.b.size))) hxb (by omega) (by omega) (by rw [show (((jn + 1 : Nat) : Int) - 1) = (jn : Int) by omega]; exact IntWalk.i64_in _ (by omega)) (fun W h => (h.cell (p := ⟨bl, _, none⟩) HYC.out.1).trans HYC.out.2) (decide_eq_false (by have := HXY.out; omega)) HWW (Lib.hid fun u W h => ?_)) (by kernel_rfl)
              have HG := Lib.hid h
              clear h
              go_wp2_with fail
              go_roundw
              case rel => exact ⟨jn + 1 + 1, by omega, by go_num, HG⟩
              case measure => simp [intOf]; omega
        · have HWV := Lib.hid (HM.out.b.trans (HWW.out.mono HM.out.b.size))
          go_wp2_with (first
            | (go_at_call 16; (refine (lawake_any _).mono ?_); rintro e w9 ⟨rfl, hb⟩; have HZ := Lib.hid (HWV.out.trans (hb.mono HWV.out.size)); clear hb)
            | fail)
          go_ret
          exact ⟨rfl, HZ.out⟩


theorem lbn_any {w : World} {p : Sp} (c : Cd) {yk y0 y1 y2 y3 y4 y5 n0 n1 n2 n3 : Int} (h : ShIn w p) (hyk : 0 ≤ yk ∧ yk ≤ 255) (hy : (0 ≤ y0 ∧ y0 ≤ 65535) ∧ (0 ≤ y1 ∧ y1 ≤ 65535) ∧ (0 ≤ y2 ∧ y2 ≤ 65535) ∧ (0 ≤ y3 ∧ y3 ≤ 65535) ∧ (0 ≤ y4 ∧ y4 ≤ 65535) ∧ (0 ≤ y5 ∧ y5 ≤ 65535)) :
    Calls Try.prog 8 #[.agg #[.slice p.ka p.s.ks.length p.kc, .slice p.xa p.s.xs.length p.xc, .int .i64 p.s.flo, .int .i64 p.s.fhi, .int .i64 p.s.plo, .int .i64 p.s.phi], .agg #[.int .i64 c.wax, .int .i64 c.dia, .int .i64 c.dra, .int .i64 c.clo, .int .i64 c.chi], .agg #[.int .u8 yk, .int .u16 y0, .int .u16 y1, .int .u16 y2, .int .u16 y3, .int .u16 y4, .int .u16 y5, .int .u16 n0, .int .u16 n1, .int .u16 n2, .int .u16 n3]] w fun e w' => e = .returned (.bool true) ∧ Below w.heap.size w w' := by
  by_cases he : askCE p.s c = 0
  · obtain ⟨k, x, ha, hq, hs⟩ := askK_of he yk
    have hc : AskC p.s c x := ⟨ha.sh, ha.hx, ha.cd⟩
    have C0 := Lib.hid (fun (W : World) (hW : Below w.heap.size w W) => rcandle_any c (h.on hW))
    rw [he] at C0
    have lo := weak_ok ha.ko ha.xo ha.cd
    have hi := strong_ok ha.ko ha.xo ha.cd
    have tt := tuV_ok ha.ko ha.xo ha.cd y0 y1 y2 y3 y4 y5
    have WR : ∀ {t : Tu} (_ : TuOk k x c t) (W : World), Below w.heap.size w W → Calls Try.prog 40 #[.agg #[.slice p.ka p.s.ks.length p.kc, .slice p.xa p.s.xs.length p.xc, .int .i64 p.s.flo, .int .i64 p.s.fhi, .int .i64 p.s.plo, .int .i64 p.s.phi], .agg #[.int .i64 c.wax, .int .i64 c.dia, .int .i64 c.dra, .int .i64 c.clo, .int .i64 c.chi], .agg #[.int .i64 (burn x t).rate, .int .i64 (burn x t).flame, .int .i64 (burn x t).pool]] W fun e w' => ∃ A1 c1, e = .returned (.slice A1 (wrongL p.s (burn x t) c.dia).length c1) ∧ IntsIn w' A1 (wrongL p.s (burn x t) c.dia) ∧ Below W.heap.size W w' := fun {t} ht W _ => by
      refine (rwrong_any ha.sh.fl ha.sh.po ha.cd.dia (burn_in (ht.in_ ha.ko ha.xo ha.cd) ha.xo)).mono ?_
      rintro e w' ⟨v, rfl, hv, hb⟩
      obtain ⟨A, g, rfl, hi⟩ := hv.in_
      exact ⟨A, g, rfl, hi, hb⟩
    have LL : ∀ f : Int → Bool, (([1, 2, 3, 4] : List Int).filter f).length ≤ 4 := fun f => List.length_filter_le f _
    refine lbn_ok ha.sh.nk.2 ha.sh.nk.1 hyk rfl (LL _) (LL _) C0 (Lib.hid fun W hW => faults_ok (h.on hW) ha hs) (Lib.hid fun W hW => suits_ok (h.on hW) hc he) (Lib.hid fun W hW => ltruth_any (h.on hW) ha hy) (Lib.hid fun W hW => at_yes (h.on hW) ha hs tt) (Lib.hid fun W hW => WR tt W hW) (Lib.hid fun W hW => rends_any (h.on hW) ha.h0 ha.hk ha.cd.wax.1 ha.hx ha.cd.dra) (Lib.hid fun W hW => at_yes (h.on hW) ha hs lo) (Lib.hid fun W hW => at_yes (h.on hW) ha hs hi) (Lib.hid fun W hW => WR lo W hW) (Lib.hid fun W hW => WR hi W hW) (has_suit ha) rfl
      (Lib.hid fun i y hy => faults_sub ha.ko ha.xo ha.cd tt (List.mem_of_getElem? hy)) (Lib.hid fun i y hy => faults_mem.1 (List.mem_of_getElem? hy)) (Lib.hid fun i y z h1 h2 => faults_sorted p.s k x c h1 h2)
  · exact lbn_err h he
end Go.Proofs.Ytkjfommdeljefaa
