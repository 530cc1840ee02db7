/- ref03.Wrong: contract. -/
import Derived.Test.YtkjfommdeljefaaQ5
import Derived.Test.YtkjfommdeljefaaGc
namespace Go.Proofs.Ytkjfommdeljefaa
open Go.RowKit Go.Shelf Go.Maps
attribute [local go_sem] Oper.semAt_some


/-- What is wrong with a candle that burns so. -/
def wrongL (s : Sh) (b : Bn) (d : Int) : List Int := ([1, 2, 3, 4] : List Int).filter fun n => isF s n b d
theorem Bx.low {w W W' : World} {l : List (Nat × TypeId × Array Value)} {B : Nat} (h : Bx w l W) (hb : Below B W W') (hw : w.heap.size ≤ B) (hB : ∀ q ∈ l, q.1 < B) : Bx w l W' :=
  ⟨h.b.trans (hb.mono hw), fun q hq => ⟨(h.at_ q hq).1, (hb.block q.1 (hB q hq)).trans (h.at_ q hq).2⟩⟩
theorem Blk.newat {W : World} {g : Nat} {T : TypeId} {cs : Array Value} (h : g = W.heap.size) : Blk (W.alloc (.cells cs T)) g T cs := by subst h; exact Blk.new _ _ _
theorem isF_1 (s : Sh) (b : Bn) (d : Int) : isF s 1 b d = decide (s.fhi * 1000000 < b.flame) := rfl
theorem isF_2 (s : Sh) (b : Bn) (d : Int) : isF s 2 b d = decide (b.flame < s.flo * 1000000) := rfl
theorem isF_3 (s : Sh) (b : Bn) (d : Int) : isF s 3 b d = decide (1000 * b.pool < s.plo * d * 1000000) := by
  show decide (b.pool < s.plo * d * 1000) = _
  apply decide_eq_decide.2; generalize s.plo * d = u; omega
theorem isF_4 (s : Sh) (b : Bn) (d : Int) : isF s 4 b d = decide (s.phi * d * 1000000 < 1000 * b.pool) := by
  show decide (s.phi * d * 1000 < b.pool) = _
  apply decide_eq_decide.2; generalize s.phi * d = u; omega
theorem wrong_of {s : Sh} {b : Bn} {d : Int} {f1 f2 f3 f4 : Bool} (h1 : decide (s.fhi * 1000000 < b.flame) = f1) (h2 : decide (b.flame < s.flo * 1000000) = f2) (h3 : decide (1000 * b.pool < s.plo * d * 1000000) = f3) (h4 : decide (s.phi * d * 1000000 < 1000 * b.pool) = f4) :
    wrongL s b d = (if f1 then [1] else []) ++ (if f2 then [2] else []) ++ (if f3 then [3] else []) ++ (if f4 then [4] else []) := by
  unfold wrongL
  simp only [List.filter_cons, List.filter_nil, isF_1, isF_2, isF_3, isF_4, h1, h2, h3, h4]
  cases f1 <;> cases f2 <;> cases f3 <;> cases f4 <;> rfl

set_option maxRecDepth 100000 in
set_option maxHeartbeats 2000000 in
theorem rwrong_ffff {w : World} {p : Sp} {c : Cd} {b : Bn} {u1 u2 : Int} (m1 : IntKind.i64.wrap (p.s.fhi * 1000000) = p.s.fhi * 1000000) (m2 : IntKind.i64.wrap (p.s.flo * 1000000) = p.s.flo * 1000000) (m3 : IntKind.i64.wrap (1000 * b.pool) = 1000 * b.pool) (m4 : IntKind.i64.wrap (p.s.plo * c.dia) = u1) (m5 : IntKind.i64.wrap (u1 * 1000000) = u1 * 1000000) (m6 : IntKind.i64.wrap (p.s.phi * c.dia) = u2) (m7 : IntKind.i64.wrap (u2 * 1000000) = u2 * 1000000)
    (f1 : decide (p.s.fhi * 1000000 < b.flame) = false) (f2 : decide (b.flame < p.s.flo * 1000000) = false) (f3 : decide (1000 * b.pool < u1 * 1000000) = false) (f4 : decide (u2 * 1000000 < 1000 * b.pool) = false) :
    Calls Try.prog 40 #[.agg #[.slice p.ka p.s.ks.length p.kc, .slice p.xa p.s.xs.length p.xc, .int .i64 p.s.flo, .int .i64 p.s.fhi, .int .i64 p.s.plo, .int .i64 p.s.phi], .agg #[.int .i64 c.wax, .int .i64 c.dia, .int .i64 c.dra, .int .i64 c.clo, .int .i64 c.chi], .agg #[.int .i64 b.rate, .int .i64 b.flame, .int .i64 b.pool]] w fun e w' => ∃ v, e = .returned v ∧ IntsOut w.heap.size w' v [] ∧ Below w.heap.size w w' := by
  have hb0 := (((Bx.nil w).alloc #[.slice p.ka p.s.ks.length p.kc, .slice p.xa p.s.xs.length p.xc, .int .i64 p.s.flo, .int .i64 p.s.fhi, .int .i64 p.s.plo, .int .i64 p.s.phi] 27).alloc #[.int .i64 c.wax, .int .i64 c.dia, .int .i64 c.dra, .int .i64 c.clo, .int .i64 c.chi] 34).alloc #[.int .i64 b.rate, .int .i64 b.flame, .int .i64 b.pool] 40
  simp only [World.size_alloc] at hb0
  have HB := Lib.hid hb0
  clear hb0
  go_enter Try.func40, Try.ntmps40
  go_wp2_with fail
  go_ret
  exact ⟨_, rfl, IntsOut.nil _ _, HB.out.b⟩

set_option maxRecDepth 100000 in
set_option maxHeartbeats 2000000 in
theorem rwrong_fftf {w : World} {p : Sp} {c : Cd} {b : Bn} {u1 u2 : Int} (m1 : IntKind.i64.wrap (p.s.fhi * 1000000) = p.s.fhi * 1000000) (m2 : IntKind.i64.wrap (p.s.flo * 1000000) = p.s.flo * 1000000) (m3 : IntKind.i64.wrap (1000 * b.pool) = 1000 * b.pool) (m4 : IntKind.i64.wrap (p.s.plo * c.dia) = u1) (m5 : IntKind.i64.wrap (u1 * 1000000) = u1 * 1000000) (m6 : IntKind.i64.wrap (p.s.phi * c.dia) = u2) (m7 : IntKind.i64.wrap (u2 * 1000000) = u2 * 1000000)
    (f1 : decide (p.s.fhi * 1000000 < b.flame) = false) (f2 : decide (b.flame < p.s.flo * 1000000) = false) (f3 : decide (1000 * b.pool < u1 * 1000000) = true) (f4 : decide (u2 * 1000000 < 1000 * b.pool) = false) :
    Calls Try.prog 40 #[.agg #[.slice p.ka p.s.ks.length p.kc, .slice p.xa p.s.xs.length p.xc, .int .i64 p.s.flo, .int .i64 p.s.fhi, .int .i64 p.s.plo, .int .i64 p.s.phi], .agg #[.int .i64 c.wax, .int .i64 c.dia, .int .i64 c.dra, .int .i64 c.clo, .int .i64 c.chi], .agg #[.int .i64 b.rate, .int .i64 b.flame, .int .i64 b.pool]] w fun e w' => ∃ v, e = .returned v ∧ IntsOut w.heap.size w' v [3] ∧ Below w.heap.size w w' := by
  have hb0 := (((Bx.nil w).alloc #[.slice p.ka p.s.ks.length p.kc, .slice p.xa p.s.xs.length p.xc, .int .i64 p.s.flo, .int .i64 p.s.fhi, .int .i64 p.s.plo, .int .i64 p.s.phi] 27).alloc #[.int .i64 c.wax, .int .i64 c.dia, .int .i64 c.dra, .int .i64 c.clo, .int .i64 c.chi] 34).alloc #[.int .i64 b.rate, .int .i64 b.flame, .int .i64 b.pool] 40
  simp only [World.size_alloc] at hb0
  have HB := Lib.hid hb0
  clear hb0
  go_enter Try.func40, Try.ntmps40
  go_wp2_with (first
    | (at_builtin; (refine app_list rfl _ _ rfl (B := w.heap.size + 3) (l := []) rfl (IntsOut.nil _ _) 3 rfl (Blk.newat (by simp)) (by simp) (by first | (simp; done) | (simp; omega)) ?_); intro g0 cap0 v0 r1 r2 r3 r4; have HO0 := Lib.hid r1; have HD0 := Lib.hid ((HB.out.on ((Below.refl _ _).alloc (Nat.le_refl _) (.cells #[.int .i64 3] 3))).low r2 (by omega) (fun q hq => by simp only [List.mem_cons, List.not_mem_nil, or_false] at hq; rcases hq with rfl | rfl | rfl <;> (simp only; omega))); clear r1 r2 r3 r4; have sb : Blk _ w.heap.size 27 #[.slice p.ka p.s.ks.length p.kc, .slice p.xa p.s.xs.length p.xc, .int .i64 p.s.flo, .int .i64 p.s.fhi, .int .i64 p.s.plo, .int .i64 p.s.phi] := HD0.out.get (by simp); have s0 := sb.cell 0; have s1 := sb.cell 1; have s2 := sb.cell 2; have s3 := sb.cell 3; have s4 := sb.cell 4; have s5 := sb.cell 5; have sl := sb.lt; have cb : Blk _ (w.heap.size + 1) 34 #[.int .i64 c.wax, .int .i64 c.dia, .int .i64 c.dra, .int .i64 c.clo, .int .i64 c.chi] := HD0.out.get (by simp); have c0 := cb.cell 0; have c1 := cb.cell 1; have c2 := cb.cell 2; have c3 := cb.cell 3; have c4 := cb.cell 4; have cl := cb.lt; have bb : Blk _ (w.heap.size + 1 + 1) 40 #[.int .i64 b.rate, .int .i64 b.flame, .int .i64 b.pool] := HD0.out.get (by simp); have b0 := bb.cell 0; have b1 := bb.cell 1; have b2 := bb.cell 2; have bl := bb.lt; clear sb cb bb)
    | fail)
  go_ret
  exact ⟨_, rfl, own_base HO0.out (by omega), HD0.out.b⟩

set_option maxRecDepth 100000 in
set_option maxHeartbeats 2000000 in
theorem rwrong_ffft {w : World} {p : Sp} {c : Cd} {b : Bn} {u1 u2 : Int} (m1 : IntKind.i64.wrap (p.s.fhi * 1000000) = p.s.fhi * 1000000) (m2 : IntKind.i64.wrap (p.s.flo * 1000000) = p.s.flo * 1000000) (m3 : IntKind.i64.wrap (1000 * b.pool) = 1000 * b.pool) (m4 : IntKind.i64.wrap (p.s.plo * c.dia) = u1) (m5 : IntKind.i64.wrap (u1 * 1000000) = u1 * 1000000) (m6 : IntKind.i64.wrap (p.s.phi * c.dia) = u2) (m7 : IntKind.i64.wrap (u2 * 1000000) = u2 * 1000000)
    (f1 : decide (p.s.fhi * 1000000 < b.flame) = false) (f2 : decide (b.flame < p.s.flo * 1000000) = false) (f3 : decide (1000 * b.pool < u1 * 1000000) = false) (f4 : decide (u2 * 1000000 < 1000 * b.pool) = true) :
    Calls Try.prog 40 #[.agg #[.slice p.ka p.s.ks.length p.kc, .slice p.xa p.s.xs.length p.xc, .int .i64 p.s.flo, .int .i64 p.s.fhi, .int .i64 p.s.plo, .int .i64 p.s.phi], .agg #[.int .i64 c.wax, .int .i64 c.dia, .int .i64 c.dra, .int .i64 c.clo, .int .i64 c.chi], .agg #[.int .i64 b.rate, .int .i64 b.flame, .int .i64 b.pool]] w fun e w' => ∃ v, e = .returned v ∧ IntsOut w.heap.size w' v [4] ∧ Below w.heap.size w w' := by
  have hb0 := (((Bx.nil w).alloc #[.slice p.ka p.s.ks.length p.kc, .slice p.xa p.s.xs.length p.xc, .int .i64 p.s.flo, .int .i64 p.s.fhi, .int .i64 p.s.plo, .int .i64 p.s.phi] 27).alloc #[.int .i64 c.wax, .int .i64 c.dia, .int .i64 c.dra, .int .i64 c.clo, .int .i64 c.chi] 34).alloc #[.int .i64 b.rate, .int .i64 b.flame, .int .i64 b.pool] 40
  simp only [World.size_alloc] at hb0
  have HB := Lib.hid hb0
  clear hb0
  go_enter Try.func40, Try.ntmps40
  go_wp2_with (first
    | (at_builtin; (refine app_list rfl _ _ rfl (B := w.heap.size + 3) (l := []) rfl (IntsOut.nil _ _) 4 rfl (Blk.newat (by simp)) (by simp) (by first | (simp; done) | (simp; omega)) ?_); intro g0 cap0 v0 r1 r2 r3 r4; have HO0 := Lib.hid r1; have HD0 := Lib.hid ((HB.out.on ((Below.refl _ _).alloc (Nat.le_refl _) (.cells #[.int .i64 4] 3))).low r2 (by omega) (fun q hq => by simp only [List.mem_cons, List.not_mem_nil, or_false] at hq; rcases hq with rfl | rfl | rfl <;> (simp only; omega))); clear r1 r2 r3 r4; have sb : Blk _ w.heap.size 27 #[.slice p.ka p.s.ks.length p.kc, .slice p.xa p.s.xs.length p.xc, .int .i64 p.s.flo, .int .i64 p.s.fhi, .int .i64 p.s.plo, .int .i64 p.s.phi] := HD0.out.get (by simp); have s0 := sb.cell 0; have s1 := sb.cell 1; have s2 := sb.cell 2; have s3 := sb.cell 3; have s4 := sb.cell 4; have s5 := sb.cell 5; have sl := sb.lt; have cb : Blk _ (w.heap.size + 1) 34 #[.int .i64 c.wax, .int .i64 c.dia, .int .i64 c.dra, .int .i64 c.clo, .int .i64 c.chi] := HD0.out.get (by simp); have c0 := cb.cell 0; have c1 := cb.cell 1; have c2 := cb.cell 2; have c3 := cb.cell 3; have c4 := cb.cell 4; have cl := cb.lt; have bb : Blk _ (w.heap.size + 1 + 1) 40 #[.int .i64 b.rate, .int .i64 b.flame, .int .i64 b.pool] := HD0.out.get (by simp); have b0 := bb.cell 0; have b1 := bb.cell 1; have b2 := bb.cell 2; have bl := bb.lt; clear sb cb bb)
    | fail)
  go_ret
  exact ⟨_, rfl, own_base HO0.out (by omega), HD0.out.b⟩

set_option maxRecDepth 100000 in
set_option maxHeartbeats 2000000 in
theorem rwrong_tfff {w : World} {p : Sp} {c : Cd} {b : Bn} {u1 u2 : Int} (m1 : IntKind.i64.wrap (p.s.fhi * 1000000) = p.s.fhi * 1000000) (m2 : IntKind.i64.wrap (p.s.flo * 1000000) = p.s.flo * 1000000) (m3 : IntKind.i64.wrap (1000 * b.pool) = 1000 * b.pool) (m4 : IntKind.i64.wrap (p.s.plo * c.dia) = u1) (m5 : IntKind.i64.wrap (u1 * 1000000) = u1 * 1000000) (m6 : IntKind.i64.wrap (p.s.phi * c.dia) = u2) (m7 : IntKind.i64.wrap (u2 * 1000000) = u2 * 1000000)
    (f1 : decide (p.s.fhi * 1000000 < b.flame) = true) (f2 : decide (b.flame < p.s.flo * 1000000) = false) (f3 : decide (1000 * b.pool < u1 * 1000000) = false) (f4 : decide (u2 * 1000000 < 1000 * b.pool) = false) :
    Calls Try.prog 40 #[.agg #[.slice p.ka p.s.ks.length p.kc, .slice p.xa p.s.xs.length p.xc, .int .i64 p.s.flo, .int .i64 p.s.fhi, .int .i64 p.s.plo, .int .i64 p.s.phi], .agg #[.int .i64 c.wax, .int .i64 c.dia, .int .i64 c.dra, .int .i64 c.clo, .int .i64 c.chi], .agg #[.int .i64 b.rate, .int .i64 b.flame, .int .i64 b.pool]] w fun e w' => ∃ v, e = .returned v ∧ IntsOut w.heap.size w' v [1] ∧ Below w.heap.size w w' := by
  have hb0 := (((Bx.nil w).alloc #[.slice p.ka p.s.ks.length p.kc, .slice p.xa p.s.xs.length p.xc, .int .i64 p.s.flo, .int .i64 p.s.fhi, .int .i64 p.s.plo, .int .i64 p.s.phi] 27).alloc #[.int .i64 c.wax, .int .i64 c.dia, .int .i64 c.dra, .int .i64 c.clo, .int .i64 c.chi] 34).alloc #[.int .i64 b.rate, .int .i64 b.flame, .int .i64 b.pool] 40
  simp only [World.size_alloc] at hb0
  have HB := Lib.hid hb0
  clear hb0
  go_enter Try.func40, Try.ntmps40
  go_wp2_with (first
    | (at_builtin; (refine app_list rfl _ _ rfl (B := w.heap.size + 3) (l := []) rfl (IntsOut.nil _ _) 1 rfl (Blk.newat (by simp)) (by simp) (by first | (simp; done) | (simp; omega)) ?_); intro g0 cap0 v0 r1 r2 r3 r4; have HO0 := Lib.hid r1; have HD0 := Lib.hid ((HB.out.on ((Below.refl _ _).alloc (Nat.le_refl _) (.cells #[.int .i64 1] 3))).low r2 (by omega) (fun q hq => by simp only [List.mem_cons, List.not_mem_nil, or_false] at hq; rcases hq with rfl | rfl | rfl <;> (simp only; omega))); clear r1 r2 r3 r4; have sb : Blk _ w.heap.size 27 #[.slice p.ka p.s.ks.length p.kc, .slice p.xa p.s.xs.length p.xc, .int .i64 p.s.flo, .int .i64 p.s.fhi, .int .i64 p.s.plo, .int .i64 p.s.phi] := HD0.out.get (by simp); have s0 := sb.cell 0; have s1 := sb.cell 1; have s2 := sb.cell 2; have s3 := sb.cell 3; have s4 := sb.cell 4; have s5 := sb.cell 5; have sl := sb.lt; have cb : Blk _ (w.heap.size + 1) 34 #[.int .i64 c.wax, .int .i64 c.dia, .int .i64 c.dra, .int .i64 c.clo, .int .i64 c.chi] := HD0.out.get (by simp); have c0 := cb.cell 0; have c1 := cb.cell 1; have c2 := cb.cell 2; have c3 := cb.cell 3; have c4 := cb.cell 4; have cl := cb.lt; have bb : Blk _ (w.heap.size + 1 + 1) 40 #[.int .i64 b.rate, .int .i64 b.flame, .int .i64 b.pool] := HD0.out.get (by simp); have b0 := bb.cell 0; have b1 := bb.cell 1; have b2 := bb.cell 2; have bl := bb.lt; clear sb cb bb)
    | fail)
  go_ret
  exact ⟨_, rfl, own_base HO0.out (by omega), HD0.out.b⟩

set_option maxRecDepth 100000 in
set_option maxHeartbeats 2000000 in
theorem rwrong_tftf {w : World} {p : Sp} {c : Cd} {b : Bn} {u1 u2 : Int} (m1 : IntKind.i64.wrap (p.s.fhi * 1000000) = p.s.fhi * 1000000) (m2 : IntKind.i64.wrap (p.s.flo * 1000000) = p.s.flo * 1000000) (m3 : IntKind.i64.wrap (1000 * b.pool) = 1000 * b.pool) (m4 : IntKind.i64.wrap (p.s.plo * c.dia) = u1) (m5 : IntKind.i64.wrap (u1 * 1000000) = u1 * 1000000) (m6 : IntKind.i64.wrap (p.s.phi * c.dia) = u2) (m7 : IntKind.i64.wrap (u2 * 1000000) = u2 * 1000000)
    (f1 : decide (p.s.fhi * 1000000 < b.flame) = true) (f2 : decide (b.flame < p.s.flo * 1000000) = false) (f3 : decide (1000 * b.pool < u1 * 1000000) = true) (f4 : decide (u2 * 1000000 < 1000 * b.pool) = false) :
    Calls Try.prog 40 #[.agg #[.slice p.ka p.s.ks.length p.kc, .slice p.xa p.s.xs.length p.xc, .int .i64 p.s.flo, .int .i64 p.s.fhi, .int .i64 p.s.plo, .int .i64 p.s.phi], .agg #[.int .i64 c.wax, .int .i64 c.dia, .int .i64 c.dra, .int .i64 c.clo, .int .i64 c.chi], .agg #[.int .i64 b.rate, .int .i64 b.flame, .int .i64 b.pool]] w fun e w' => ∃ v, e = .returned v ∧ IntsOut w.heap.size w' v [1, 3] ∧ Below w.heap.size w w' := by
  have hb0 := (((Bx.nil w).alloc #[.slice p.ka p.s.ks.length p.kc, .slice p.xa p.s.xs.length p.xc, .int .i64 p.s.flo, .int .i64 p.s.fhi, .int .i64 p.s.plo, .int .i64 p.s.phi] 27).alloc #[.int .i64 c.wax, .int .i64 c.dia, .int .i64 c.dra, .int .i64 c.clo, .int .i64 c.chi] 34).alloc #[.int .i64 b.rate, .int .i64 b.flame, .int .i64 b.pool] 40
  simp only [World.size_alloc] at hb0
  have HB := Lib.hid hb0
  clear hb0
  go_enter Try.func40, Try.ntmps40
  go_wp2_with (first
    | (at_builtin; (refine app_list rfl _ _ rfl (B := w.heap.size + 3) (l := [1]) rfl (own_below HO0.out ((Below.refl _ _).alloc (Nat.le_refl _) _)) 3 rfl (Blk.newat (by simp)) (by simp) (by have hs := (show Blk _ (w.heap.size + 1 + 1) 40 #[.int .i64 b.rate, .int .i64 b.flame, .int .i64 b.pool] from HD0.out.get (by simp)).lt; simp only [World.size_alloc]; omega) ?_); intro g1 cap1 v1 r1 r2 r3 r4; have HO1 := Lib.hid r1; have HD1 := Lib.hid ((HD0.out.on ((Below.refl _ _).alloc (Nat.le_refl _) (.cells #[.int .i64 3] 3))).low r2 (by omega) (fun q hq => by simp only [List.mem_cons, List.not_mem_nil, or_false] at hq; rcases hq with rfl | rfl | rfl <;> (simp only; omega))); clear r1 r2 r3 r4; clear s0 s1 s2 s3 s4 s5 sl c0 c1 c2 c3 c4 cl b0 b1 b2 bl; have sb : Blk _ w.heap.size 27 #[.slice p.ka p.s.ks.length p.kc, .slice p.xa p.s.xs.length p.xc, .int .i64 p.s.flo, .int .i64 p.s.fhi, .int .i64 p.s.plo, .int .i64 p.s.phi] := HD1.out.get (by simp); have s0 := sb.cell 0; have s1 := sb.cell 1; have s2 := sb.cell 2; have s3 := sb.cell 3; have s4 := sb.cell 4; have s5 := sb.cell 5; have sl := sb.lt; have cb : Blk _ (w.heap.size + 1) 34 #[.int .i64 c.wax, .int .i64 c.dia, .int .i64 c.dra, .int .i64 c.clo, .int .i64 c.chi] := HD1.out.get (by simp); have c0 := cb.cell 0; have c1 := cb.cell 1; have c2 := cb.cell 2; have c3 := cb.cell 3; have c4 := cb.cell 4; have cl := cb.lt; have bb : Blk _ (w.heap.size + 1 + 1) 40 #[.int .i64 b.rate, .int .i64 b.flame, .int .i64 b.pool] := HD1.out.get (by simp); have b0 := bb.cell 0; have b1 := bb.cell 1; have b2 := bb.cell 2; have bl := bb.lt; clear sb cb bb)
    | (at_builtin; (refine app_list rfl _ _ rfl (B := w.heap.size + 3) (l := []) rfl (IntsOut.nil _ _) 1 rfl (Blk.newat (by simp)) (by simp) (by first | (simp; done) | (simp; omega)) ?_); intro g0 cap0 v0 r1 r2 r3 r4; have HO0 := Lib.hid r1; have HD0 := Lib.hid ((HB.out.on ((Below.refl _ _).alloc (Nat.le_refl _) (.cells #[.int .i64 1] 3))).low r2 (by omega) (fun q hq => by simp only [List.mem_cons, List.not_mem_nil, or_false] at hq; rcases hq with rfl | rfl | rfl <;> (simp only; omega))); clear r1 r2 r3 r4; have sb : Blk _ w.heap.size 27 #[.slice p.ka p.s.ks.length p.kc, .slice p.xa p.s.xs.length p.xc, .int .i64 p.s.flo, .int .i64 p.s.fhi, .int .i64 p.s.plo, .int .i64 p.s.phi] := HD0.out.get (by simp); have s0 := sb.cell 0; have s1 := sb.cell 1; have s2 := sb.cell 2; have s3 := sb.cell 3; have s4 := sb.cell 4; have s5 := sb.cell 5; have sl := sb.lt; have cb : Blk _ (w.heap.size + 1) 34 #[.int .i64 c.wax, .int .i64 c.dia, .int .i64 c.dra, .int .i64 c.clo, .int .i64 c.chi] := HD0.out.get (by simp); have c0 := cb.cell 0; have c1 := cb.cell 1; have c2 := cb.cell 2; have c3 := cb.cell 3; have c4 := cb.cell 4; have cl := cb.lt; have bb : Blk _ (w.heap.size + 1 + 1) 40 #[.int .i64 b.rate, .int .i64 b.flame, .int .i64 b.pool] := HD0.out.get (by simp); have b0 := bb.cell 0; have b1 := bb.cell 1; have b2 := bb.cell 2; have bl := bb.lt; clear sb cb bb)
    | fail)
  go_ret
  exact ⟨_, rfl, own_base HO1.out (by omega), HD1.out.b⟩

set_option maxRecDepth 100000 in
set_option maxHeartbeats 2000000 in
theorem rwrong_tfft {w : World} {p : Sp} {c : Cd} {b : Bn} {u1 u2 : Int} (m1 : IntKind.i64.wrap (p.s.fhi * 1000000) = p.s.fhi * 1000000) (m2 : IntKind.i64.wrap (p.s.flo * 1000000) = p.s.flo * 1000000) (m3 : IntKind.i64.wrap (1000 * b.pool) = 1000 * b.pool) (m4 : IntKind.i64.wrap (p.s.plo * c.dia) = u1) (m5 : IntKind.i64.wrap (u1 * 1000000) = u1 * 1000000) (m6 : IntKind.i64.wrap (p.s.phi * c.dia) = u2) (m7 : IntKind.i64.wrap (u2 * 1000000) = u2 * 1000000)
    (f1 : decide (p.s.fhi * 1000000 < b.flame) = true) (f2 : decide (b.flame < p.s.flo * 1000000) = false) (f3 : decide (1000 * b.pool < u1 * 1000000) = false) (f4 : decide (u2 * 1000000 < 1000 * b.pool) = true) :
    Calls Try.prog 40 #[.agg #[.slice p.ka p.s.ks.length p.kc, .slice p.xa p.s.xs.length p.xc, .int .i64 p.s.flo, .int .i64 p.s.fhi, .int .i64 p.s.plo, .int .i64 p.s.phi], .agg #[.int .i64 c.wax, .int .i64 c.dia, .int .i64 c.dra, .int .i64 c.clo, .int .i64 c.chi], .agg #[.int .i64 b.rate, .int .i64 b.flame, .int .i64 b.pool]] w fun e w' => ∃ v, e = .returned v ∧ IntsOut w.heap.size w' v [1, 4] ∧ Below w.heap.size w w' := by
  have hb0 := (((Bx.nil w).alloc #[.slice p.ka p.s.ks.length p.kc, .slice p.xa p.s.xs.length p.xc, .int .i64 p.s.flo, .int .i64 p.s.fhi, .int .i64 p.s.plo, .int .i64 p.s.phi] 27).alloc #[.int .i64 c.wax, .int .i64 c.dia, .int .i64 c.dra, .int .i64 c.clo, .int .i64 c.chi] 34).alloc #[.int .i64 b.rate, .int .i64 b.flame, .int .i64 b.pool] 40
  simp only [World.size_alloc] at hb0
  have HB := Lib.hid hb0
  clear hb0
  go_enter Try.func40, Try.ntmps40
  go_wp2_with (first
    | (at_builtin; (refine app_list rfl _ _ rfl (B := w.heap.size + 3) (l := [1]) rfl (own_below HO0.out ((Below.refl _ _).alloc (Nat.le_refl _) _)) 4 rfl (Blk.newat (by simp)) (by simp) (by have hs := (show Blk _ (w.heap.size + 1 + 1) 40 #[.int .i64 b.rate, .int .i64 b.flame, .int .i64 b.pool] from HD0.out.get (by simp)).lt; simp only [World.size_alloc]; omega) ?_); intro g1 cap1 v1 r1 r2 r3 r4; have HO1 := Lib.hid r1; have HD1 := Lib.hid ((HD0.out.on ((Below.refl _ _).alloc (Nat.le_refl _) (.cells #[.int .i64 4] 3))).low r2 (by omega) (fun q hq => by simp only [List.mem_cons, List.not_mem_nil, or_false] at hq; rcases hq with rfl | rfl | rfl <;> (simp only; omega))); clear r1 r2 r3 r4; clear s0 s1 s2 s3 s4 s5 sl c0 c1 c2 c3 c4 cl b0 b1 b2 bl; have sb : Blk _ w.heap.size 27 #[.slice p.ka p.s.ks.length p.kc, .slice p.xa p.s.xs.length p.xc, .int .i64 p.s.flo, .int .i64 p.s.fhi, .int .i64 p.s.plo, .int .i64 p.s.phi] := HD1.out.get (by simp); have s0 := sb.cell 0; have s1 := sb.cell 1; have s2 := sb.cell 2; have s3 := sb.cell 3; have s4 := sb.cell 4; have s5 := sb.cell 5; have sl := sb.lt; have cb : Blk _ (w.heap.size + 1) 34 #[.int .i64 c.wax, .int .i64 c.dia, .int .i64 c.dra, .int .i64 c.clo, .int .i64 c.chi] := HD1.out.get (by simp); have c0 := cb.cell 0; have c1 := cb.cell 1; have c2 := cb.cell 2; have c3 := cb.cell 3; have c4 := cb.cell 4; have cl := cb.lt; have bb : Blk _ (w.heap.size + 1 + 1) 40 #[.int .i64 b.rate, .int .i64 b.flame, .int .i64 b.pool] := HD1.out.get (by simp); have b0 := bb.cell 0; have b1 := bb.cell 1; have b2 := bb.cell 2; have bl := bb.lt; clear sb cb bb)
    | (at_builtin; (refine app_list rfl _ _ rfl (B := w.heap.size + 3) (l := []) rfl (IntsOut.nil _ _) 1 rfl (Blk.newat (by simp)) (by simp) (by first | (simp; done) | (simp; omega)) ?_); intro g0 cap0 v0 r1 r2 r3 r4; have HO0 := Lib.hid r1; have HD0 := Lib.hid ((HB.out.on ((Below.refl _ _).alloc (Nat.le_refl _) (.cells #[.int .i64 1] 3))).low r2 (by omega) (fun q hq => by simp only [List.mem_cons, List.not_mem_nil, or_false] at hq; rcases hq with rfl | rfl | rfl <;> (simp only; omega))); clear r1 r2 r3 r4; have sb : Blk _ w.heap.size 27 #[.slice p.ka p.s.ks.length p.kc, .slice p.xa p.s.xs.length p.xc, .int .i64 p.s.flo, .int .i64 p.s.fhi, .int .i64 p.s.plo, .int .i64 p.s.phi] := HD0.out.get (by simp); have s0 := sb.cell 0; have s1 := sb.cell 1; have s2 := sb.cell 2; have s3 := sb.cell 3; have s4 := sb.cell 4; have s5 := sb.cell 5; have sl := sb.lt; have cb : Blk _ (w.heap.size + 1) 34 #[.int .i64 c.wax, .int .i64 c.dia, .int .i64 c.dra, .int .i64 c.clo, .int .i64 c.chi] := HD0.out.get (by simp); have c0 := cb.cell 0; have c1 := cb.cell 1; have c2 := cb.cell 2; have c3 := cb.cell 3; have c4 := cb.cell 4; have cl := cb.lt; have bb : Blk _ (w.heap.size + 1 + 1) 40 #[.int .i64 b.rate, .int .i64 b.flame, .int .i64 b.pool] := HD0.out.get (by simp); have b0 := bb.cell 0; have b1 := bb.cell 1; have b2 := bb.cell 2; have bl := bb.lt; clear sb cb bb)
    | fail)
  go_ret
  exact ⟨_, rfl, own_base HO1.out (by omega), HD1.out.b⟩

set_option maxRecDepth 100000 in
set_option maxHeartbeats 2000000 in
theorem rwrong_ftff {w : World} {p : Sp} {c : Cd} {b : Bn} {u1 u2 : Int} (m1 : IntKind.i64.wrap (p.s.fhi * 1000000) = p.s.fhi * 1000000) (m2 : IntKind.i64.wrap (p.s.flo * 1000000) = p.s.flo * 1000000) (m3 : IntKind.i64.wrap (1000 * b.pool) = 1000 * b.pool) (m4 : IntKind.i64.wrap (p.s.plo * c.dia) = u1) (m5 : IntKind.i64.wrap (u1 * 1000000) = u1 * 1000000) (m6 : IntKind.i64.wrap (p.s.phi * c.dia) = u2) (m7 : IntKind.i64.wrap (u2 * 1000000) = u2 * 1000000)
    (f1 : decide (p.s.fhi * 1000000 < b.flame) = false) (f2 : decide (b.flame < p.s.flo * 1000000) = true) (f3 : decide (1000 * b.pool < u1 * 1000000) = false) (f4 : decide (u2 * 1000000 < 1000 * b.pool) = false) :
    Calls Try.prog 40 #[.agg #[.slice p.ka p.s.ks.length p.kc, .slice p.xa p.s.xs.length p.xc, .int .i64 p.s.flo, .int .i64 p.s.fhi, .int .i64 p.s.plo, .int .i64 p.s.phi], .agg #[.int .i64 c.wax, .int .i64 c.dia, .int .i64 c.dra, .int .i64 c.clo, .int .i64 c.chi], .agg #[.int .i64 b.rate, .int .i64 b.flame, .int .i64 b.pool]] w fun e w' => ∃ v, e = .returned v ∧ IntsOut w.heap.size w' v [2] ∧ Below w.heap.size w w' := by
  have hb0 := (((Bx.nil w).alloc #[.slice p.ka p.s.ks.length p.kc, .slice p.xa p.s.xs.length p.xc, .int .i64 p.s.flo, .int .i64 p.s.fhi, .int .i64 p.s.plo, .int .i64 p.s.phi] 27).alloc #[.int .i64 c.wax, .int .i64 c.dia, .int .i64 c.dra, .int .i64 c.clo, .int .i64 c.chi] 34).alloc #[.int .i64 b.rate, .int .i64 b.flame, .int .i64 b.pool] 40
  simp only [World.size_alloc] at hb0
  have HB := Lib.hid hb0
  clear hb0
  go_enter Try.func40, Try.ntmps40
  go_wp2_with (first
    | (at_builtin; (refine app_list rfl _ _ rfl (B := w.heap.size + 3) (l := []) rfl (IntsOut.nil _ _) 2 rfl (Blk.newat (by simp)) (by simp) (by first | (simp; done) | (simp; omega)) ?_); intro g0 cap0 v0 r1 r2 r3 r4; have HO0 := Lib.hid r1; have HD0 := Lib.hid ((HB.out.on ((Below.refl _ _).alloc (Nat.le_refl _) (.cells #[.int .i64 2] 3))).low r2 (by omega) (fun q hq => by simp only [List.mem_cons, List.not_mem_nil, or_false] at hq; rcases hq with rfl | rfl | rfl <;> (simp only; omega))); clear r1 r2 r3 r4; have sb : Blk _ w.heap.size 27 #[.slice p.ka p.s.ks.length p.kc, .slice p.xa p.s.xs.length p.xc, .int .i64 p.s.flo, .int .i64 p.s.fhi, .int .i64 p.s.plo, .int .i64 p.s.phi] := HD0.out.get (by simp); have s0 := sb.cell 0; have s1 := sb.cell 1; have s2 := sb.cell 2; have s3 := sb.cell 3; have s4 := sb.cell 4; have s5 := sb.cell 5; have sl := sb.lt; have cb : Blk _ (w.heap.size + 1) 34 #[.int .i64 c.wax, .int .i64 c.dia, .int .i64 c.dra, .int .i64 c.clo, .int .i64 c.chi] := HD0.out.get (by simp); have c0 := cb.cell 0; have c1 := cb.cell 1; have c2 := cb.cell 2; have c3 := cb.cell 3; have c4 := cb.cell 4; have cl := cb.lt; have bb : Blk _ (w.heap.size + 1 + 1) 40 #[.int .i64 b.rate, .int .i64 b.flame, .int .i64 b.pool] := HD0.out.get (by simp); have b0 := bb.cell 0; have b1 := bb.cell 1; have b2 := bb.cell 2; have bl := bb.lt; clear sb cb bb)
    | fail)
  go_ret
  exact ⟨_, rfl, own_base HO0.out (by omega), HD0.out.b⟩

set_option maxRecDepth 100000 in
set_option maxHeartbeats 2000000 in
theorem rwrong_fttf {w : World} {p : Sp} {c : Cd} {b : Bn} {u1 u2 : Int} (m1 : IntKind.i64.wrap (p.s.fhi * 1000000) = p.s.fhi * 1000000) (m2 : IntKind.i64.wrap (p.s.flo * 1000000) = p.s.flo * 1000000) (m3 : IntKind.i64.wrap (1000 * b.pool) = 1000 * b.pool) (m4 : IntKind.i64.wrap (p.s.plo * c.dia) = u1) (m5 : IntKind.i64.wrap (u1 * 1000000) = u1 * 1000000) (m6 : IntKind.i64.wrap (p.s.phi * c.dia) = u2) (m7 : IntKind.i64.wrap (u2 * 1000000) = u2 * 1000000)
    (f1 : decide (p.s.fhi * 1000000 < b.flame) = false) (f2 : decide (b.flame < p.s.flo * 1000000) = true) (f3 : decide (1000 * b.pool < u1 * 1000000) = true) (f4 : decide (u2 * 1000000 < 1000 * b.pool) = false) :
    Calls Try.prog 40 #[.agg #[.slice p.ka p.s.ks.length p.kc, .slice p.xa p.s.xs.length p.xc, .int .i64 p.s.flo, .int .i64 p.s.fhi, .int .i64 p.s.plo, .int .i64 p.s.phi], .agg #[.int .i64 c.wax, .int .i64 c.dia, .int .i64 c.dra, .int .i64 c.clo, .int .i64 c.chi], .agg #[.int .i64 b.rate, .int .i64 b.flame, .int .i64 b.pool]] w fun e w' => ∃ v, e = .returned v ∧ IntsOut w.heap.size w' v [2, 3] ∧ Below w.heap.size w w' := by
  have hb0 := (((Bx.nil w).alloc #[.slice p.ka p.s.ks.length p.kc, .slice p.xa p.s.xs.length p.xc, .int .i64 p.s.flo, .int .i64 p.s.fhi, .int .i64 p.s.plo, .int .i64 p.s.phi] 27).alloc #[.int .i64 c.wax, .int .i64 c.dia, .int .i64 c.dra, .int .i64 c.clo, .int .i64 c.chi] 34).alloc #[.int .i64 b.rate, .int .i64 b.flame, .int .i64 b.pool] 40
  simp only [World.size_alloc] at hb0
  have HB := Lib.hid hb0
  clear hb0
  go_enter Try.func40, Try.ntmps40
  go_wp2_with (first
    | (at_builtin; (refine app_list rfl _ _ rfl (B := w.heap.size + 3) (l := [2]) rfl (own_below HO0.out ((Below.refl _ _).alloc (Nat.le_refl _) _)) 3 rfl (Blk.newat (by simp)) (by simp) (by have hs := (show Blk _ (w.heap.size + 1 + 1) 40 #[.int .i64 b.rate, .int .i64 b.flame, .int .i64 b.pool] from HD0.out.get (by simp)).lt; simp only [World.size_alloc]; omega) ?_); intro g1 cap1 v1 r1 r2 r3 r4; have HO1 := Lib.hid r1; have HD1 := Lib.hid ((HD0.out.on ((Below.refl _ _).alloc (Nat.le_refl _) (.cells #[.int .i64 3] 3))).low r2 (by omega) (fun q hq => by simp only [List.mem_cons, List.not_mem_nil, or_false] at hq; rcases hq with rfl | rfl | rfl <;> (simp only; omega))); clear r1 r2 r3 r4; clear s0 s1 s2 s3 s4 s5 sl c0 c1 c2 c3 c4 cl b0 b1 b2 bl; have sb : Blk _ w.heap.size 27 #[.slice p.ka p.s.ks.length p.kc, .slice p.xa p.s.xs.length p.xc, .int .i64 p.s.flo, .int .i64 p.s.fhi, .int .i64 p.s.plo, .int .i64 p.s.phi] := HD1.out.get (by simp); have s0 := sb.cell 0; have s1 := sb.cell 1; have s2 := sb.cell 2; have s3 := sb.cell 3; have s4 := sb.cell 4; have s5 := sb.cell 5; have sl := sb.lt; have cb : Blk _ (w.heap.size + 1) 34 #[.int .i64 c.wax, .int .i64 c.dia, .int .i64 c.dra, .int .i64 c.clo, .int .i64 c.chi] := HD1.out.get (by simp); have c0 := cb.cell 0; have c1 := cb.cell 1; have c2 := cb.cell 2; have c3 := cb.cell 3; have c4 := cb.cell 4; have cl := cb.lt; have bb : Blk _ (w.heap.size + 1 + 1) 40 #[.int .i64 b.rate, .int .i64 b.flame, .int .i64 b.pool] := HD1.out.get (by simp); have b0 := bb.cell 0; have b1 := bb.cell 1; have b2 := bb.cell 2; have bl := bb.lt; clear sb cb bb)
    | (at_builtin; (refine app_list rfl _ _ rfl (B := w.heap.size + 3) (l := []) rfl (IntsOut.nil _ _) 2 rfl (Blk.newat (by simp)) (by simp) (by first | (simp; done) | (simp; omega)) ?_); intro g0 cap0 v0 r1 r2 r3 r4; have HO0 := Lib.hid r1; have HD0 := Lib.hid ((HB.out.on ((Below.refl _ _).alloc (Nat.le_refl _) (.cells #[.int .i64 2] 3))).low r2 (by omega) (fun q hq => by simp only [List.mem_cons, List.not_mem_nil, or_false] at hq; rcases hq with rfl | rfl | rfl <;> (simp only; omega))); clear r1 r2 r3 r4; have sb : Blk _ w.heap.size 27 #[.slice p.ka p.s.ks.length p.kc, .slice p.xa p.s.xs.length p.xc, .int .i64 p.s.flo, .int .i64 p.s.fhi, .int .i64 p.s.plo, .int .i64 p.s.phi] := HD0.out.get (by simp); have s0 := sb.cell 0; have s1 := sb.cell 1; have s2 := sb.cell 2; have s3 := sb.cell 3; have s4 := sb.cell 4; have s5 := sb.cell 5; have sl := sb.lt; have cb : Blk _ (w.heap.size + 1) 34 #[.int .i64 c.wax, .int .i64 c.dia, .int .i64 c.dra, .int .i64 c.clo, .int .i64 c.chi] := HD0.out.get (by simp); have c0 := cb.cell 0; have c1 := cb.cell 1; have c2 := cb.cell 2; have c3 := cb.cell 3; have c4 := cb.cell 4; have cl := cb.lt; have bb : Blk _ (w.heap.size + 1 + 1) 40 #[.int .i64 b.rate, .int .i64 b.flame, .int .i64 b.pool] := HD0.out.get (by simp); have b0 := bb.cell 0; have b1 := bb.cell 1; have b2 := bb.cell 2; have bl := bb.lt; clear sb cb bb)
    | fail)
  go_ret
  exact ⟨_, rfl, own_base HO1.out (by omega), HD1.out.b⟩

set_option maxRecDepth 100000 in
set_option maxHeartbeats 2000000 in
theorem rwrong_ftft {w : World} {p : Sp} {c : Cd} {b : Bn} {u1 u2 : Int} (m1 : IntKind.i64.wrap (p.s.fhi * 1000000) = p.s.fhi * 1000000) (m2 : IntKind.i64.wrap (p.s.flo * 1000000) = p.s.flo * 1000000) (m3 : IntKind.i64.wrap (1000 * b.pool) = 1000 * b.pool) (m4 : IntKind.i64.wrap (p.s.plo * c.dia) = u1) (m5 : IntKind.i64.wrap (u1 * 1000000) = u1 * 1000000) (m6 : IntKind.i64.wrap (p.s.phi * c.dia) = u2) (m7 : IntKind.i64.wrap (u2 * 1000000) = u2 * 1000000)
    (f1 : decide (p.s.fhi * 1000000 < b.flame) = false) (f2 : decide (b.flame < p.s.flo * 1000000) = true) (f3 : decide (1000 * b.pool < u1 * 1000000) = false) (f4 : decide (u2 * 1000000 < 1000 * b.pool) = true) :
    Calls Try.prog 40 #[.agg #[.slice p.ka p.s.ks.length p.kc, .slice p.xa p.s.xs.length p.xc, .int .i64 p.s.flo, .int .i64 p.s.fhi, .int .i64 p.s.plo, .int .i64 p.s.phi], .agg #[.int .i64 c.wax, .int .i64 c.dia, .int .i64 c.dra, .int .i64 c.clo, .int .i64 c.chi], .agg #[.int .i64 b.rate, .int .i64 b.flame, .int .i64 b.pool]] w fun e w' => ∃ v, e = .returned v ∧ IntsOut w.heap.size w' v [2, 4] ∧ Below w.heap.size w w' := by
  have hb0 := (((Bx.nil w).alloc #[.slice p.ka p.s.ks.length p.kc, .slice p.xa p.s.xs.length p.xc, .int .i64 p.s.flo, .int .i64 p.s.fhi, .int .i64 p.s.plo, .int .i64 p.s.phi] 27).alloc #[.int .i64 c.wax, .int .i64 c.dia, .int .i64 c.dra, .int .i64 c.clo, .int .i64 c.chi] 34).alloc #[.int .i64 b.rate, .int .i64 b.flame, .int .i64 b.pool] 40
  simp only [World.size_alloc] at hb0
  have HB := Lib.hid hb0
  clear hb0
  go_enter Try.func40, Try.ntmps40
  go_wp2_with (first
    | (at_builtin; (refine app_list rfl _ _ rfl (B := w.heap.size + 3) (l := [2]) rfl (own_below HO0.out ((Below.refl _ _).alloc (Nat.le_refl _) _)) 4 rfl (Blk.newat (by simp)) (by simp) (by have hs := (show Blk _ (w.heap.size + 1 + 1) 40 #[.int .i64 b.rate, .int .i64 b.flame, .int .i64 b.pool] from HD0.out.get (by simp)).lt; simp only [World.size_alloc]; omega) ?_); intro g1 cap1 v1 r1 r2 r3 r4; have HO1 := Lib.hid r1; have HD1 := Lib.hid ((HD0.out.on ((Below.refl _ _).alloc (Nat.le_refl _) (.cells #[.int .i64 4] 3))).low r2 (by omega) (fun q hq => by simp only [List.mem_cons, List.not_mem_nil, or_false] at hq; rcases hq with rfl | rfl | rfl <;> (simp only; omega))); clear r1 r2 r3 r4; clear s0 s1 s2 s3 s4 s5 sl c0 c1 c2 c3 c4 cl b0 b1 b2 bl; have sb : Blk _ w.heap.size 27 #[.slice p.ka p.s.ks.length p.kc, .slice p.xa p.s.xs.length p.xc, .int .i64 p.s.flo, .int .i64 p.s.fhi, .int .i64 p.s.plo, .int .i64 p.s.phi] := HD1.out.get (by simp); have s0 := sb.cell 0; have s1 := sb.cell 1; have s2 := sb.cell 2; have s3 := sb.cell 3; have s4 := sb.cell 4; have s5 := sb.cell 5; have sl := sb.lt; have cb : Blk _ (w.heap.size + 1) 34 #[.int .i64 c.wax, .int .i64 c.dia, .int .i64 c.dra, .int .i64 c.clo, .int .i64 c.chi] := HD1.out.get (by simp); have c0 := cb.cell 0; have c1 := cb.cell 1; have c2 := cb.cell 2; have c3 := cb.cell 3; have c4 := cb.cell 4; have cl := cb.lt; have bb : Blk _ (w.heap.size + 1 + 1) 40 #[.int .i64 b.rate, .int .i64 b.flame, .int .i64 b.pool] := HD1.out.get (by simp); have b0 := bb.cell 0; have b1 := bb.cell 1; have b2 := bb.cell 2; have bl := bb.lt; clear sb cb bb)
    | (at_builtin; (refine app_list rfl _ _ rfl (B := w.heap.size + 3) (l := []) rfl (IntsOut.nil _ _) 2 rfl (Blk.newat (by simp)) (by simp) (by first | (simp; done) | (simp; omega)) ?_); intro g0 cap0 v0 r1 r2 r3 r4; have HO0 := Lib.hid r1; have HD0 := Lib.hid ((HB.out.on ((Below.refl _ _).alloc (Nat.le_refl _) (.cells #[.int .i64 2] 3))).low r2 (by omega) (fun q hq => by simp only [List.mem_cons, List.not_mem_nil, or_false] at hq; rcases hq with rfl | rfl | rfl <;> (simp only; omega))); clear r1 r2 r3 r4; have sb : Blk _ w.heap.size 27 #[.slice p.ka p.s.ks.length p.kc, .slice p.xa p.s.xs.length p.xc, .int .i64 p.s.flo, .int .i64 p.s.fhi, .int .i64 p.s.plo, .int .i64 p.s.phi] := HD0.out.get (by simp); have s0 := sb.cell 0; have s1 := sb.cell 1; have s2 := sb.cell 2; have s3 := sb.cell 3; have s4 := sb.cell 4; have s5 := sb.cell 5; have sl := sb.lt; have cb : Blk _ (w.heap.size + 1) 34 #[.int .i64 c.wax, .int .i64 c.dia, .int .i64 c.dra, .int .i64 c.clo, .int .i64 c.chi] := HD0.out.get (by simp); have c0 := cb.cell 0; have c1 := cb.cell 1; have c2 := cb.cell 2; have c3 := cb.cell 3; have c4 := cb.cell 4; have cl := cb.lt; have bb : Blk _ (w.heap.size + 1 + 1) 40 #[.int .i64 b.rate, .int .i64 b.flame, .int .i64 b.pool] := HD0.out.get (by simp); have b0 := bb.cell 0; have b1 := bb.cell 1; have b2 := bb.cell 2; have bl := bb.lt; clear sb cb bb)
    | fail)
  go_ret
  exact ⟨_, rfl, own_base HO1.out (by omega), HD1.out.b⟩


theorem rwrong_any {w : World} {p : Sp} {c : Cd} {b : Bn} (hf : 0 ≤ p.s.flo ∧ p.s.flo ≤ p.s.fhi ∧ p.s.fhi ≤ 2000) (hp : 0 ≤ p.s.plo ∧ p.s.plo ≤ p.s.phi ∧ p.s.phi ≤ 2000) (hd : 1 ≤ c.dia ∧ c.dia ≤ 2000) (hb : BnIn b) :
    Calls Try.prog 40 #[.agg #[.slice p.ka p.s.ks.length p.kc, .slice p.xa p.s.xs.length p.xc, .int .i64 p.s.flo, .int .i64 p.s.fhi, .int .i64 p.s.plo, .int .i64 p.s.phi], .agg #[.int .i64 c.wax, .int .i64 c.dia, .int .i64 c.dra, .int .i64 c.clo, .int .i64 c.chi], .agg #[.int .i64 b.rate, .int .i64 b.flame, .int .i64 b.pool]] w fun e w' => ∃ v, e = .returned v ∧ IntsOut w.heap.size w' v (wrongL p.s b c.dia) ∧ Below w.heap.size w w' := by
  have q1 := mul_in (a := p.s.plo) (d := c.dia) ⟨hp.1, by omega⟩ hd
  have q2 := mul_in (a := p.s.phi) (d := c.dia) ⟨by omega, hp.2.2⟩ hd
  have q3 : p.s.plo * c.dia ≤ p.s.phi * c.dia := Int.mul_le_mul_of_nonneg_right hp.2.1 (by omega)
  have pb := hb.pool; have fb := hb.flame
  have m1 : IntKind.i64.wrap (p.s.fhi * 1000000) = p.s.fhi * 1000000 := IntWalk.i64_in _ (by omega)
  have m2 : IntKind.i64.wrap (p.s.flo * 1000000) = p.s.flo * 1000000 := IntWalk.i64_in _ (by omega)
  have m3 : IntKind.i64.wrap (1000 * b.pool) = 1000 * b.pool := IntWalk.i64_in _ (by omega)
  have hW := @wrong_of p.s b c.dia
  obtain ⟨u1, hu1⟩ : ∃ u, p.s.plo * c.dia = u := ⟨_, rfl⟩
  obtain ⟨u2, hu2⟩ : ∃ u, p.s.phi * c.dia = u := ⟨_, rfl⟩
  rw [hu1] at q1 q3
  rw [hu2] at q2 q3
  simp only [hu1, hu2] at hW
  have m4 : IntKind.i64.wrap (p.s.plo * c.dia) = u1 := by rw [hu1]; exact IntWalk.i64_in _ (by omega)
  have m6 : IntKind.i64.wrap (p.s.phi * c.dia) = u2 := by rw [hu2]; exact IntWalk.i64_in _ (by omega)
  have m5 : IntKind.i64.wrap (u1 * 1000000) = u1 * 1000000 := IntWalk.i64_in _ (by omega)
  have m7 : IntKind.i64.wrap (u2 * 1000000) = u2 * 1000000 := IntWalk.i64_in _ (by omega)
  cases f1 : decide (p.s.fhi * 1000000 < b.flame) <;> cases f2 : decide (b.flame < p.s.flo * 1000000) <;> cases f3 : decide (1000 * b.pool < u1 * 1000000) <;> cases f4 : decide (u2 * 1000000 < 1000 * b.pool)
  · rw [hW f1 f2 f3 f4]; exact rwrong_ffff m1 m2 m3 m4 m5 m6 m7 f1 f2 f3 f4
  · rw [hW f1 f2 f3 f4]; exact rwrong_ffft m1 m2 m3 m4 m5 m6 m7 f1 f2 f3 f4
  · rw [hW f1 f2 f3 f4]; exact rwrong_fftf m1 m2 m3 m4 m5 m6 m7 f1 f2 f3 f4
  · exfalso; have g1 := of_decide_eq_false f1; have g2 := of_decide_eq_false f2; have g3 := of_decide_eq_true f3; have g4 := of_decide_eq_true f4; omega
  · rw [hW f1 f2 f3 f4]; exact rwrong_ftff m1 m2 m3 m4 m5 m6 m7 f1 f2 f3 f4
  · rw [hW f1 f2 f3 f4]; exact rwrong_ftft m1 m2 m3 m4 m5 m6 m7 f1 f2 f3 f4
  · rw [hW f1 f2 f3 f4]; exact rwrong_fttf m1 m2 m3 m4 m5 m6 m7 f1 f2 f3 f4
  · exfalso; have g1 := of_decide_eq_false f1; have g2 := of_decide_eq_true f2; have g3 := of_decide_eq_true f3; have g4 := of_decide_eq_true f4; omega
  · rw [hW f1 f2 f3 f4]; exact rwrong_tfff m1 m2 m3 m4 m5 m6 m7 f1 f2 f3 f4
  · rw [hW f1 f2 f3 f4]; exact rwrong_tfft m1 m2 m3 m4 m5 m6 m7 f1 f2 f3 f4
  · rw [hW f1 f2 f3 f4]; exact rwrong_tftf m1 m2 m3 m4 m5 m6 m7 f1 f2 f3 f4
  · exfalso; have g1 := of_decide_eq_true f1; have g2 := of_decide_eq_false f2; have g3 := of_decide_eq_true f3; have g4 := of_decide_eq_true f4; omega
  · exfalso; have g1 := of_decide_eq_true f1; have g2 := of_decide_eq_true f2; have g3 := of_decide_eq_false f3; have g4 := of_decide_eq_false f4; omega
  · exfalso; have g1 := of_decide_eq_true f1; have g2 := of_decide_eq_true f2; have g3 := of_decide_eq_false f3; have g4 := of_decide_eq_true f4; omega
  · exfalso; have g1 := of_decide_eq_true f1; have g2 := of_decide_eq_true f2; have g3 := of_decide_eq_true f3; have g4 := of_decide_eq_false f4; omega
  · exfalso; have g1 := of_decide_eq_true f1; have g2 := of_decide_eq_true f2; have g3 := of_decide_eq_true f3; have g4 := of_decide_eq_true f4; omega
end Go.Proofs.Ytkjfommdeljefaa
