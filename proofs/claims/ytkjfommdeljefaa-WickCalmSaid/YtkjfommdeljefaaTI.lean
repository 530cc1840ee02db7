/- WickCalm: the law. -/
import Derived.Test.YtkjfommdeljefaaTH
import Derived.Lib.MinMax
namespace Go.Proofs.Ytkjfommdeljefaa
open Go.RowKit Go.Shelf Go.Maps
attribute [local go_sem] Oper.semAt_some

set_option maxRecDepth 100000 in
set_option maxHeartbeats 2000000 in
theorem lca_err {w : World} {p : Sp} {c : Cd} {yk y0 y1 y2 y3 y4 y5 n0 n1 n2 n3 : Int} (h : ShIn w p) (he : askCE p.s c ≠ 0) :
    Calls Try.prog 11 #[.agg #[.slice p.ka p.s.ks.length p.kc, .slice p.xa p.s.xs.length p.xc, .int .i64 p.s.flo, .int .i64 p.s.fhi, .int .i64 p.s.plo, .int .i64 p.s.phi], .agg #[.int .i64 c.wax, .int .i64 c.dia, .int .i64 c.dra, .int .i64 c.clo, .int .i64 c.chi], .agg #[.int .u8 yk, .int .u16 y0, .int .u16 y1, .int .u16 y2, .int .u16 y3, .int .u16 y4, .int .u16 y5, .int .u16 n0, .int .u16 n1, .int .u16 n2, .int .u16 n3]] w fun e w' => e = .returned (.bool true) ∧ Below w.heap.size w w' := by
  have hb0 := (((Bx.nil w).alloc #[.slice p.ka p.s.ks.length p.kc, .slice p.xa p.s.xs.length p.xc, .int .i64 p.s.flo, .int .i64 p.s.fhi, .int .i64 p.s.plo, .int .i64 p.s.phi] 27).alloc #[.int .i64 c.wax, .int .i64 c.dia, .int .i64 c.dra, .int .i64 c.clo, .int .i64 c.chi] 34).alloc #[.int .u8 yk, .int .u16 y0, .int .u16 y1, .int .u16 y2, .int .u16 y3, .int .u16 y4, .int .u16 y5, .int .u16 n0, .int .u16 n1, .int .u16 n2, .int .u16 n3] 65
  simp only [World.size_alloc] at hb0
  have HB := Lib.hid hb0
  have HC := Lib.hid (fun (W : World) (hW : Below w.heap.size w W) => rcandle_any c (h.on hW))
  have hz : (askCE p.s c != 0) = true := by simpa using he
  clear h he hb0
  generalize askCE p.s c = z at *
  go_enter Try.func11, Try.ntmps11
  go_wp2_with (first
    | (go_at_call 36; (with_reducible refine (HC.out _ HB.out.b).mono ?_); rintro e w1 ⟨rfl, hb⟩; have HD := Lib.hid (HB.out.on hb); clear hb)
    | (go_at_call 16; (refine (lawake_any _).mono ?_); rintro e w9 ⟨rfl, hb⟩; have HZ := Lib.hid (HD.out.b.trans (hb.mono HD.out.b.size)); clear hb)
    | fail)
  go_ret
  exact ⟨rfl, HZ.out⟩

set_option maxRecDepth 100000 in
set_option maxHeartbeats 4000000 in
theorem lca_ok {w : World} {p : Sp} {c : Cd} {q yk y0 y1 y2 y3 y4 y5 n0 n1 n2 n3 a1 a2 b1 b2 : Int} {la lb ld mo : List Int} (hks : p.s.ks.length ≤ 12) (hk0 : 1 ≤ p.s.ks.length) (hyk : 0 ≤ yk ∧ yk ≤ 255) (hq : q = yk % p.s.ks.length)
    (hn : (0 ≤ n0 ∧ n0 ≤ 65535) ∧ (0 ≤ n1 ∧ n1 ≤ 65535) ∧ (0 ≤ n2 ∧ n2 ≤ 65535) ∧ (0 ≤ n3 ∧ n3 ≤ 65535)) (hcd : (0 ≤ c.dra ∧ c.dra ≤ 90) ∧ (0 ≤ c.clo ∧ c.clo ≤ c.chi ∧ c.chi ≤ 300)) (hfl : 0 ≤ p.s.flo ∧ p.s.flo ≤ p.s.fhi ∧ p.s.fhi ≤ 2000) (hpo : 0 ≤ p.s.plo ∧ p.s.plo ≤ p.s.phi ∧ p.s.phi ≤ 2000)
    (hlb : lb.length ≤ 4) (hld : ld.length ≤ 4) (HMO : Hid (mo = lb ++ ld)) (hmo : mo.length ≤ 8)
    (C0 : Hid (∀ W, Below w.heap.size w W → Calls Try.prog 36 #[.agg #[.slice p.ka p.s.ks.length p.kc, .slice p.xa p.s.xs.length p.xc, .int .i64 p.s.flo, .int .i64 p.s.fhi, .int .i64 p.s.plo, .int .i64 p.s.phi], .agg #[.int .i64 c.wax, .int .i64 c.dia, .int .i64 c.dra, .int .i64 c.clo, .int .i64 c.chi]] W fun e w' => e = .returned (.int .i64 0) ∧ Below W.heap.size W w'))
    (C1 : Hid (∀ W, Below w.heap.size w W → Calls Try.prog 23 #[.agg #[.slice p.ka p.s.ks.length p.kc, .slice p.xa p.s.xs.length p.xc, .int .i64 p.s.flo, .int .i64 p.s.fhi, .int .i64 p.s.plo, .int .i64 p.s.phi], .int .i64 q, .agg #[.int .i64 c.wax, .int .i64 c.dia, .int .i64 c.dra, .int .i64 c.clo, .int .i64 c.chi]] W (ListOut W la)))
    (C2 : Hid (∀ W, Below w.heap.size w W → Calls Try.prog 23 #[.agg #[.slice p.ka p.s.ks.length p.kc, .slice p.xa p.s.xs.length p.xc, .int .i64 p.s.flo, .int .i64 p.s.fhi, .int .i64 p.s.plo, .int .i64 p.s.phi], .int .i64 q, .agg #[.int .i64 c.wax, .int .i64 c.dia, .int .i64 (amV 0 c.dra n0), .int .i64 (amV c.clo c.chi n1), .int .i64 (amV (amV c.clo c.chi n1) c.chi n2)]] W (ListOut W lb)))
    (C3 : Hid (∀ W, Below w.heap.size w W → Calls Try.prog 23 #[.agg #[.slice p.ka p.s.ks.length p.kc, .slice p.xa p.s.xs.length p.xc, .int .i64 (max 0 (p.s.flo - n0)), .int .i64 (min 2000 (p.s.fhi + n1)), .int .i64 (max 0 (p.s.plo - n2)), .int .i64 (min 2000 (p.s.phi + n3))], .int .i64 q, .agg #[.int .i64 c.wax, .int .i64 c.dia, .int .i64 c.dra, .int .i64 c.clo, .int .i64 c.chi]] W (ListOut W ld)))
    (C4 : Hid (∀ W, Below w.heap.size w W → Calls Try.prog 21 #[.agg #[.slice p.ka p.s.ks.length p.kc, .slice p.xa p.s.xs.length p.xc, .int .i64 p.s.flo, .int .i64 p.s.fhi, .int .i64 p.s.plo, .int .i64 p.s.phi], .int .i64 q, .agg #[.int .i64 c.wax, .int .i64 c.dia, .int .i64 c.dra, .int .i64 c.clo, .int .i64 c.chi], .int .i64 1000] W fun e w' => e = .returned (.tuple #[.agg #[.int .i64 a1, .int .i64 a2], .int .i64 0]) ∧ Below W.heap.size W w'))
    (C5 : Hid (∀ W, Below w.heap.size w W → Calls Try.prog 21 #[.agg #[.slice p.ka p.s.ks.length p.kc, .slice p.xa p.s.xs.length p.xc, .int .i64 p.s.flo, .int .i64 p.s.fhi, .int .i64 p.s.plo, .int .i64 p.s.phi], .int .i64 q, .agg #[.int .i64 c.wax, .int .i64 c.dia, .int .i64 (amV 0 c.dra n0), .int .i64 (amV c.clo c.chi n1), .int .i64 (amV (amV c.clo c.chi n1) c.chi n2)], .int .i64 1000] W fun e w' => e = .returned (.tuple #[.agg #[.int .i64 b1, .int .i64 b2], .int .i64 0]) ∧ Below W.heap.size W w'))
    (f1 : decide (b1 < a1) = false) (f2 : decide (a2 < b2) = false) (FW : Hid (∀ (i : Nat) (x : Int), mo[i]? = some x → x ∈ la)) :
    Calls Try.prog 11 #[.agg #[.slice p.ka p.s.ks.length p.kc, .slice p.xa p.s.xs.length p.xc, .int .i64 p.s.flo, .int .i64 p.s.fhi, .int .i64 p.s.plo, .int .i64 p.s.phi], .agg #[.int .i64 c.wax, .int .i64 c.dia, .int .i64 c.dra, .int .i64 c.clo, .int .i64 c.chi], .agg #[.int .u8 yk, .int .u16 y0, .int .u16 y1, .int .u16 y2, .int .u16 y3, .int .u16 y4, .int .u16 y5, .int .u16 n0, .int .u16 n1, .int .u16 n2, .int .u16 n3]] w fun e w' => e = .returned (.bool true) ∧ Below w.heap.size w w' := by
  have hb0 := (((Bx.nil w).alloc #[.slice p.ka p.s.ks.length p.kc, .slice p.xa p.s.xs.length p.xc, .int .i64 p.s.flo, .int .i64 p.s.fhi, .int .i64 p.s.plo, .int .i64 p.s.phi] 27).alloc #[.int .i64 c.wax, .int .i64 c.dia, .int .i64 c.dra, .int .i64 c.clo, .int .i64 c.chi] 34).alloc #[.int .u8 yk, .int .u16 y0, .int .u16 y1, .int .u16 y2, .int .u16 y3, .int .u16 y4, .int .u16 y5, .int .u16 n0, .int .u16 n1, .int .u16 n2, .int .u16 n3] 65
  simp only [World.size_alloc] at hb0
  have HB := Lib.hid hb0
  have t0 : yk.tmod (p.s.ks.length : Int) = q := by rw [Int.tmod_eq_emod_of_nonneg hyk.1, hq]
  have w0 : IntKind.i64.wrap yk = yk := IntWalk.i64_in _ (by omega)
  have w2 : IntKind.i64.wrap q = q := IntWalk.i64_in _ (by rw [hq]; have := Int.emod_nonneg yk (show (p.s.ks.length : Int) ≠ 0 by omega); have := Int.emod_lt_of_pos yk (show (0 : Int) < p.s.ks.length by omega); omega)
  have n0' : ¬ ((p.s.ks.length : Int) = 0) := by omega
  have HKF := Lib.hid (And.intro w0 (And.intro t0 (And.intro w2 (show ¬ (p.s.ks = []) from fun e => by rw [e] at hk0; exact absurd hk0 (by decide)))))
  have HNN := Lib.hid hn
  have HCD := Lib.hid hcd
  have hlo := amV_rng (lo := c.clo) (hi := c.chi) (z := n1) hcd.2.2.1
  have HLO := Lib.hid hlo
  have g0 : IntKind.i64.wrap n0 = n0 := IntWalk.i64_in _ (by omega)
  have g1 : IntKind.i64.wrap n1 = n1 := IntWalk.i64_in _ (by omega)
  have g2 : IntKind.i64.wrap n2 = n2 := IntWalk.i64_in _ (by omega)
  have g3 : IntKind.i64.wrap n3 = n3 := IntWalk.i64_in _ (by omega)
  have k0 : IntKind.i64.wrap (p.s.flo - n0) = p.s.flo - n0 := IntWalk.i64_in _ (by omega)
  have k1 : IntKind.i64.wrap (p.s.fhi + n1) = p.s.fhi + n1 := IntWalk.i64_in _ (by omega)
  have k2 : IntKind.i64.wrap (p.s.plo - n2) = p.s.plo - n2 := IntWalk.i64_in _ (by omega)
  have k3 : IntKind.i64.wrap (p.s.phi + n3) = p.s.phi + n3 := IntWalk.i64_in _ (by omega)
  clear hb0 hq hn hcd hlo hfl hpo t0 w0 w2 n0'
  go_enter Try.func11, Try.ntmps11
  go_wp2_with (first
    | (go_at_call 36; (with_reducible refine (C0.out _ HB.out.b).mono ?_); rintro e w1 ⟨rfl, hb⟩; have HD := Lib.hid (HB.out.on hb); clear hb)
    | fail)
  refine wp_of_eq (lc3_region (S := SB w1 w1.heap.size) (N := w1.heap.size) (P := w.heap.size) (X := w.heap.size + 1 + 1) (qk := q) (p := p) (yk := yk) (y0 := y0) (y1 := y1) (y2 := y2) (y3 := y3) (y4 := y4) (y5 := y5) (n0 := n0) (n1 := n1) (n2 := n2) (n3 := n3) HKF.out.1 HKF.out.2.1 HKF.out.2.2.1 HKF.out.2.2.2 (fun W h => (HD.out.get (by simp)).on h.b) (fun W h => (HD.out.get (by simp)).on h.b)
    (fun _ _ h hb => h.on hb) (fun W W' G h hg hG => h.put hg hG) (fun W h => h.n) (Lib.hid ⟨Below.refl _ _, Nat.le_refl _⟩) (Lib.hid fun u G0 W hS hG hB => ?_)) (by kernel_rfl)
  have HN : Hid (w.heap.size + 3 ≤ G0 ∧ G0 < W.heap.size) := ⟨by have hz : Blk w1 (w.heap.size + 1 + 1) 65 #[.int .u8 yk, .int .u16 y0, .int .u16 y1, .int .u16 y2, .int .u16 y3, .int .u16 y4, .int .u16 y5, .int .u16 n0, .int .u16 n1, .int .u16 n2, .int .u16 n3] := HD.out.get (by simp); have := hz.lt; omega, hB.lt⟩
  have HE := Lib.hid ((HD.out.on hS.b).add hB (by have := HN.out; omega))
  clear hS hB hG
  have cb : Blk _ (w.heap.size + 1) 34 #[.int .i64 c.wax, .int .i64 c.dia, .int .i64 c.dra, .int .i64 c.clo, .int .i64 c.chi] := HE.out.get (by simp); have c0 := cb.cell 0; have c1 := cb.cell 1; have c2 := cb.cell 2; have c3 := cb.cell 3; have c4 := cb.cell 4; have cl := cb.lt; clear cb
  go_wp2_with fail
  clear c0 c1 c2 c3 c4 cl
  have HE1 := Lib.hid (HE.out.on ((Below.refl _ _).alloc (Nat.le_refl _) (.cells #[.int .i64 c.wax, .int .i64 c.dia, .int .i64 c.dra, .int .i64 c.clo, .int .i64 c.chi] 34)))
  have HM1 := Lib.hid (Blk.new W 34 #[.int .i64 c.wax, .int .i64 c.dia, .int .i64 c.dra, .int .i64 c.clo, .int .i64 c.chi])
  refine wp_of_eq (lc5_region (S := (fun V => Bx w [(G0, 63, #[.int .u16 n0, .int .u16 n1, .int .u16 n2, .int .u16 n3]), (w.heap.size + 1 + 1, 65, #[.int .u8 yk, .int .u16 y0, .int .u16 y1, .int .u16 y2, .int .u16 y3, .int .u16 y4, .int .u16 y5, .int .u16 n0, .int .u16 n1, .int .u16 n2, .int .u16 n3]), (w.heap.size + 1, 34, #[.int .i64 c.wax, .int .i64 c.dia, .int .i64 c.dra, .int .i64 c.clo, .int .i64 c.chi]), (w.heap.size, 27, #[.slice p.ka p.s.ks.length p.kc, .slice p.xa p.s.xs.length p.xc, .int .i64 p.s.flo, .int .i64 p.s.fhi, .int .i64 p.s.plo, .int .i64 p.s.phi])] V ∧ SB w (W.heap.size + 1) V)) (N := W.heap.size + 1) (MB := W.heap.size) (C := w.heap.size + 1) (NB := G0) (c := c) (lo := 0) (dr := 0) (n0 := n0) (n1 := n1) (n2 := n2) (n3 := n3) ⟨HCD.out.1.1, by have := HCD.out; omega⟩ HNN.out.1 (IntWalk.i64_in _ (by have := HNN.out; omega)) (fun W h => h.1.get (by simp)) (fun W h => h.1.get (by simp))
    (fun _ _ h hb => ⟨h.1.on hb, h.2.on hb⟩) (fun W1 W2 G h hg hG => by have := HN.out; exact ⟨h.1.put hg (by omega) (fun q hq => by simp only [List.mem_cons, List.not_mem_nil, or_false] at hq; rcases hq with rfl | rfl | rfl | rfl <;> (simp only; omega)), h.2.put hg (by omega)⟩) (fun W h => h.2.n) (Lib.hid ⟨HE1.out, HE1.out.b, by simp⟩) HM1.out (by omega) (Lib.hid fun u V5 hS hM => ?_)) (by kernel_rfl)
  have HS5 := Lib.hid hS; have HM5 := Lib.hid hM; clear hS hM HE1 HM1
  have HS5b := Lib.hid HS5.out.1
  have cb : Blk _ (w.heap.size + 1) 34 #[.int .i64 c.wax, .int .i64 c.dia, .int .i64 c.dra, .int .i64 c.clo, .int .i64 c.chi] := HS5b.out.get (by simp); have c0 := cb.cell 0; have c1 := cb.cell 1; have c2 := cb.cell 2; have c3 := cb.cell 3; have c4 := cb.cell 4; have cl := cb.lt; clear cb; have mb : Blk _ (G0) 63 #[.int .u16 n0, .int .u16 n1, .int .u16 n2, .int .u16 n3] := HS5b.out.get (by simp); have m0 := mb.cell 0; have m1 := mb.cell 1; have m2 := mb.cell 2; have m3 := mb.cell 3; have ml := mb.lt; clear mb
  go_wp2_with (first
    | (go_at_call 41; (refine (lamong_any (lo := c.clo) (hi := c.chi) (z := n1) (by have := HCD.out; omega) HCD.out.2.2.1 (by have := HCD.out; omega) HNN.out.2.1 _).mono ?_); rintro e w6 ⟨rfl, hb⟩; have HS6 := Lib.hid (And.intro (HS5.out.1.on hb) (HS5.out.2.on hb)); have HM6 := Lib.hid (HM5.out.on hb); clear hb c0 c1 c2 c3 c4 cl m0 m1 m2 m3 ml)
    | fail)
  refine wp_of_eq (lc7_region (S := (fun V => Bx w [(G0, 63, #[.int .u16 n0, .int .u16 n1, .int .u16 n2, .int .u16 n3]), (w.heap.size + 1 + 1, 65, #[.int .u8 yk, .int .u16 y0, .int .u16 y1, .int .u16 y2, .int .u16 y3, .int .u16 y4, .int .u16 y5, .int .u16 n0, .int .u16 n1, .int .u16 n2, .int .u16 n3]), (w.heap.size + 1, 34, #[.int .i64 c.wax, .int .i64 c.dia, .int .i64 c.dra, .int .i64 c.clo, .int .i64 c.chi]), (w.heap.size, 27, #[.slice p.ka p.s.ks.length p.kc, .slice p.xa p.s.xs.length p.xc, .int .i64 p.s.flo, .int .i64 p.s.fhi, .int .i64 p.s.plo, .int .i64 p.s.phi])] V ∧ SB w (W.heap.size + 1) V)) (N := W.heap.size + 1) (MB := W.heap.size) (C := w.heap.size + 1) (NB := G0) (c := c) (lo := amV c.clo c.chi n1) (dr := amV 0 c.dra n0) (n0 := n0) (n1 := n1) (n2 := n2) (n3 := n3) ⟨by have := HLO.out; have := HCD.out; omega, HLO.out.2, by have := HCD.out; omega⟩ HNN.out.2.2.1 (IntWalk.i64_in _ (by have := HNN.out; omega)) (fun W h => h.1.get (by simp)) (fun W h => h.1.get (by simp))
    (fun _ _ h hb => ⟨h.1.on hb, h.2.on hb⟩) (fun W1 W2 G h hg hG => by have := HN.out; exact ⟨h.1.put hg (by omega) (fun q hq => by simp only [List.mem_cons, List.not_mem_nil, or_false] at hq; rcases hq with rfl | rfl | rfl | rfl <;> (simp only; omega)), h.2.put hg (by omega)⟩) (fun W h => h.2.n) HS6 HM6.out (by omega) (Lib.hid fun u V hS hM => ?_)) (by kernel_rfl)
  have HNV := Lib.hid hS.2.n
  have HG := Lib.hid (hS.1.add hM (by have := HN.out; omega))
  clear hS hM HS5 HM5 HS5b HS6 HM6 HE
  have HG0 := Lib.hid (HG.out.alloc #[.slice p.ka p.s.ks.length p.kc, .slice p.xa p.s.xs.length p.xc, .int .i64 p.s.flo, .int .i64 p.s.fhi, .int .i64 p.s.plo, .int .i64 p.s.phi] 27)
  have sb : Blk _ (w.heap.size) 27 #[.slice p.ka p.s.ks.length p.kc, .slice p.xa p.s.xs.length p.xc, .int .i64 p.s.flo, .int .i64 p.s.fhi, .int .i64 p.s.plo, .int .i64 p.s.phi] := HG.out.get (by simp); have s0 := sb.cell 0; have s1 := sb.cell 1; have s2 := sb.cell 2; have s3 := sb.cell 3; have s4 := sb.cell 4; have s5 := sb.cell 5; have sl := sb.lt; clear sb; have mb : Blk _ (G0) 63 #[.int .u16 n0, .int .u16 n1, .int .u16 n2, .int .u16 n3] := HG.out.get (by simp); have m0 := mb.cell 0; have m1 := mb.cell 1; have m2 := mb.cell 2; have m3 := mb.cell 3; have ml := mb.lt; clear mb
  go_upto_region 10 with (first
    | (go_at_call 35; (with_reducible refine (lspan_any _ _ _).mono ?_); rintro e w9 ⟨rfl, hb⟩; have HH := Lib.hid (HG0.out.on hb); clear hb s0 s1 s2 s3 s4 s5 sl m0 m1 m2 m3 ml; have db : Blk _ (V.heap.size) 27 #[.slice p.ka p.s.ks.length p.kc, .slice p.xa p.s.xs.length p.xc, .int .i64 p.s.flo, .int .i64 p.s.fhi, .int .i64 p.s.plo, .int .i64 p.s.phi] := HH.out.get (by simp); have d0 := db.cell 0; have d1 := db.cell 1; have d2 := db.cell 2; have d3 := db.cell 3; have d4 := db.cell 4; have d5 := db.cell 5; have dl := db.lt; have df2 := db.frozen 2; have df3 := db.frozen 3; clear db)
    | fail)
  have hj := HH.out.lay2 2 3 (.int .i64 (max 0 (p.s.flo - n0))) (.int .i64 (min 2000 (p.s.fhi + n1))) (by have := HN.out; have := HNV.out; intro q hq; simp only [List.mem_cons, List.not_mem_nil, or_false] at hq; rcases hq with rfl | rfl | rfl | rfl | rfl <;> (simp only; omega))
  simp only [List.setIfInBounds_toArray, List.set_cons_zero, List.set_cons_succ] at hj
  generalize World.setCell (World.setCell _ _ _) _ _ = W9 at hj ⊢
  have HJ := Lib.hid hj
  clear hj d0 d1 d2 d3 d4 d5 dl df2 df3
  have sb : Blk _ (w.heap.size) 27 #[.slice p.ka p.s.ks.length p.kc, .slice p.xa p.s.xs.length p.xc, .int .i64 p.s.flo, .int .i64 p.s.fhi, .int .i64 p.s.plo, .int .i64 p.s.phi] := HJ.out.get (by simp); have s0 := sb.cell 0; have s1 := sb.cell 1; have s2 := sb.cell 2; have s3 := sb.cell 3; have s4 := sb.cell 4; have s5 := sb.cell 5; have sl := sb.lt; clear sb; have mb : Blk _ (G0) 63 #[.int .u16 n0, .int .u16 n1, .int .u16 n2, .int .u16 n3] := HJ.out.get (by simp); have m0 := mb.cell 0; have m1 := mb.cell 1; have m2 := mb.cell 2; have m3 := mb.cell 3; have ml := mb.lt; clear mb
  go_upto_region 11 with (first
    | (go_at_call 35; (with_reducible refine (lspan_any _ _ _).mono ?_); rintro e w10 ⟨rfl, hb⟩; have HK := Lib.hid (HJ.out.on hb); clear hb s0 s1 s2 s3 s4 s5 sl m0 m1 m2 m3 ml; have db : Blk _ (V.heap.size) 27 #[.slice p.ka p.s.ks.length p.kc, .slice p.xa p.s.xs.length p.xc, .int .i64 (max 0 (p.s.flo - n0)), .int .i64 (min 2000 (p.s.fhi + n1)), .int .i64 p.s.plo, .int .i64 p.s.phi] := HK.out.get (by simp); have d0 := db.cell 0; have d1 := db.cell 1; have d2 := db.cell 2; have d3 := db.cell 3; have d4 := db.cell 4; have d5 := db.cell 5; have dl := db.lt; have df4 := db.frozen 4; have df5 := db.frozen 5; clear db)
    | fail)
  have hj := HK.out.lay2 4 5 (.int .i64 (max 0 (p.s.plo - n2))) (.int .i64 (min 2000 (p.s.phi + n3))) (by have := HN.out; have := HNV.out; intro q hq; simp only [List.mem_cons, List.not_mem_nil, or_false] at hq; rcases hq with rfl | rfl | rfl | rfl | rfl <;> (simp only; omega))
  simp only [List.setIfInBounds_toArray, List.set_cons_zero, List.set_cons_succ] at hj
  generalize World.setCell (World.setCell _ _ _) _ _ = W10 at hj ⊢
  have HL := Lib.hid hj
  clear hj d0 d1 d2 d3 d4 d5 dl df4 df5
  have sb : Blk _ (w.heap.size) 27 #[.slice p.ka p.s.ks.length p.kc, .slice p.xa p.s.xs.length p.xc, .int .i64 p.s.flo, .int .i64 p.s.fhi, .int .i64 p.s.plo, .int .i64 p.s.phi] := HL.out.get (by simp); have s0 := sb.cell 0; have s1 := sb.cell 1; have s2 := sb.cell 2; have s3 := sb.cell 3; have s4 := sb.cell 4; have s5 := sb.cell 5; have sl := sb.lt; clear sb; have cb : Blk _ (w.heap.size + 1) 34 #[.int .i64 c.wax, .int .i64 c.dia, .int .i64 c.dra, .int .i64 c.clo, .int .i64 c.chi] := HL.out.get (by simp); have c0 := cb.cell 0; have c1 := cb.cell 1; have c2 := cb.cell 2; have c3 := cb.cell 3; have c4 := cb.cell 4; have cl := cb.lt; clear cb
  go_wp2_with (first
    | (go_at_call 23; (with_reducible refine (C1.out _ HL.out.b).mono ?_); rintro e u1 ⟨v, rfl, hv, hb⟩; obtain ⟨Aa, ca, rfl, hi1⟩ := hv.in_; have HP1 := Lib.hid (HL.out.on hb); have HLa1 := Lib.hid hi1; clear hb hv hi1 s0 s1 s2 s3 s4 s5 sl c0 c1 c2 c3 c4 cl; have sb : Blk _ (w.heap.size) 27 #[.slice p.ka p.s.ks.length p.kc, .slice p.xa p.s.xs.length p.xc, .int .i64 p.s.flo, .int .i64 p.s.fhi, .int .i64 p.s.plo, .int .i64 p.s.phi] := HP1.out.get (by simp); have s0 := sb.cell 0; have s1 := sb.cell 1; have s2 := sb.cell 2; have s3 := sb.cell 3; have s4 := sb.cell 4; have s5 := sb.cell 5; have sl := sb.lt; clear sb; have gb : Blk _ (W.heap.size) 34 #[.int .i64 c.wax, .int .i64 c.dia, .int .i64 (amV 0 c.dra n0), .int .i64 (amV c.clo c.chi n1), .int .i64 (amV (amV c.clo c.chi n1) c.chi n2)] := HP1.out.get (by simp); have g0 := gb.cell 0; have g1 := gb.cell 1; have g2 := gb.cell 2; have g3 := gb.cell 3; have g4 := gb.cell 4; have gl := gb.lt; clear gb)
    | (go_at_call 23; (with_reducible refine (C2.out _ HP1.out.b).mono ?_); rintro e u2 ⟨v, rfl, hv, hb⟩; obtain ⟨Ab, cb', rfl, hi1⟩ := hv.in_; have HP2 := Lib.hid (HP1.out.on hb); have HLa2 := Lib.hid (HLa1.out.on hb); have HLb2 := Lib.hid hi1; clear hb hv hi1 s0 s1 s2 s3 s4 s5 sl g0 g1 g2 g3 g4 gl; have cb : Blk _ (w.heap.size + 1) 34 #[.int .i64 c.wax, .int .i64 c.dia, .int .i64 c.dra, .int .i64 c.clo, .int .i64 c.chi] := HP2.out.get (by simp); have c0 := cb.cell 0; have c1 := cb.cell 1; have c2 := cb.cell 2; have c3 := cb.cell 3; have c4 := cb.cell 4; have cl := cb.lt; clear cb; have db : Blk _ (V.heap.size) 27 #[.slice p.ka p.s.ks.length p.kc, .slice p.xa p.s.xs.length p.xc, .int .i64 (max 0 (p.s.flo - n0)), .int .i64 (min 2000 (p.s.fhi + n1)), .int .i64 (max 0 (p.s.plo - n2)), .int .i64 (min 2000 (p.s.phi + n3))] := HP2.out.get (by simp); have d0 := db.cell 0; have d1 := db.cell 1; have d2 := db.cell 2; have d3 := db.cell 3; have d4 := db.cell 4; have d5 := db.cell 5; have dl := db.lt; clear db)
    | (go_at_call 23; (with_reducible refine (C3.out _ HP2.out.b).mono ?_); rintro e u3 ⟨v, rfl, hv, hb⟩; obtain ⟨Ad, cd', rfl, hi1⟩ := hv.in_; have HP3 := Lib.hid (HP2.out.on hb); have HLa3 := Lib.hid (HLa2.out.on hb); have HLb3 := Lib.hid (HLb2.out.on hb); have HLd3 := Lib.hid hi1; have HR3 := Lib.hid (Bx.nil u3); clear hb hv hi1 c0 c1 c2 c3 c4 cl d0 d1 d2 d3 d4 d5 dl; have sb : Blk _ (w.heap.size) 27 #[.slice p.ka p.s.ks.length p.kc, .slice p.xa p.s.xs.length p.xc, .int .i64 p.s.flo, .int .i64 p.s.fhi, .int .i64 p.s.plo, .int .i64 p.s.phi] := HP3.out.get (by simp); have s0 := sb.cell 0; have s1 := sb.cell 1; have s2 := sb.cell 2; have s3 := sb.cell 3; have s4 := sb.cell 4; have s5 := sb.cell 5; have sl := sb.lt; clear sb; have cb : Blk _ (w.heap.size + 1) 34 #[.int .i64 c.wax, .int .i64 c.dia, .int .i64 c.dra, .int .i64 c.clo, .int .i64 c.chi] := HP3.out.get (by simp); have c0 := cb.cell 0; have c1 := cb.cell 1; have c2 := cb.cell 2; have c3 := cb.cell 3; have c4 := cb.cell 4; have cl := cb.lt; clear cb)
    | (go_at_call 21; (with_reducible refine (C4.out _ HP3.out.b).mono ?_); rintro e u4 ⟨rfl, hb⟩; have HP4 := Lib.hid (HP3.out.on hb); have HR4 := Lib.hid ((HR3.out.on hb).alloc #[.int .i64 a1, .int .i64 a2] 25); have HQ4 := Lib.hid (HP4.out.alloc #[.int .i64 a1, .int .i64 a2] 25); clear hb s0 s1 s2 s3 s4 s5 sl c0 c1 c2 c3 c4 cl; have sb : Blk _ (w.heap.size) 27 #[.slice p.ka p.s.ks.length p.kc, .slice p.xa p.s.xs.length p.xc, .int .i64 p.s.flo, .int .i64 p.s.fhi, .int .i64 p.s.plo, .int .i64 p.s.phi] := HP4.out.get (by simp); have s0 := sb.cell 0; have s1 := sb.cell 1; have s2 := sb.cell 2; have s3 := sb.cell 3; have s4 := sb.cell 4; have s5 := sb.cell 5; have sl := sb.lt; clear sb; have gb : Blk _ (W.heap.size) 34 #[.int .i64 c.wax, .int .i64 c.dia, .int .i64 (amV 0 c.dra n0), .int .i64 (amV c.clo c.chi n1), .int .i64 (amV (amV c.clo c.chi n1) c.chi n2)] := HP4.out.get (by simp); have g0 := gb.cell 0; have g1 := gb.cell 1; have g2 := gb.cell 2; have g3 := gb.cell 3; have g4 := gb.cell 4; have gl := gb.lt; clear gb)
    | (go_at_call 21; (with_reducible refine (C5.out _ HQ4.out.b).mono ?_); rintro e u5 ⟨rfl, hb⟩; have HP5 := Lib.hid (HQ4.out.on hb); have HR5 := Lib.hid (HR4.out.on hb); clear hb s0 s1 s2 s3 s4 s5 sl g0 g1 g2 g3 g4 gl; have rb : Blk _ (u4.heap.size) 25 #[.int .i64 a1, .int .i64 a2] := HP5.out.get (by simp); have r0 := rb.cell 0; have r1 := rb.cell 1; have rl := rb.lt; clear rb; have HLa5 := Lib.hid (HLa3.out.on HR5.out.b); have HLb5 := Lib.hid (HLb3.out.on HR5.out.b); have HLd5 := Lib.hid (HLd3.out.on HR5.out.b))
    | (at_builtin; (refine app_all rfl _ _ rfl (B := u5.heap.size) (l := lb) (l2 := ld) rfl HO8.out rfl (HLd5.out.on HU8.out) (by omega) HU8.out.size ?_); intro v9 u9 r1 r2; rw [← HMO.out] at r1; obtain ⟨Am, cm, rfl, hi1⟩ := r1.in_; have HU9 := Lib.hid (HU8.out.trans r2); have HMo := Lib.hid hi1; have HLa9 := Lib.hid (HLa5.out.on HU9.out); clear r1 r2 hi1)
    | (at_builtin; (refine app_all rfl _ _ rfl (B := u5.heap.size) (l := []) (l2 := lb) rfl (own_empty_at _ _ _ (by simp) (by simp)) rfl (HLb5.out.on (((Below.refl _ _).alloc (Nat.le_refl _) _).alloc (by simp) _)) (by simp; omega) (by simp; omega) ?_); intro v8 u8 r1 r2; rw [List.nil_append] at r1; obtain ⟨A8, c8, e8⟩ := own_slice r1; subst e8; have HU8 := Lib.hid ((((Below.refl u5.heap.size u5).alloc (Nat.le_refl _) _).alloc (by simp) _).trans r2); have HO8 := Lib.hid r1; clear r1 r2)
    | fail)
  have HW9 := Lib.hid (HP5.out.b.trans (HU9.out.mono HP5.out.b.size))
  go_loop [23] (fun i => ∃ k : Nat, k ≤ mo.length ∧ i = .int .i64 (k : Int)) (fun i => mo.length - (intOf i).toNat)
  case atStart => exact ⟨0, by omega, rfl⟩
  case round =>
    obtain ⟨k, hk, rfl⟩ := hrel
    by_cases hlt : k < mo.length
    · obtain ⟨x, hx⟩ : ∃ x, mo[k]? = some x := ⟨mo[k], List.getElem?_eq_getElem hlt⟩
      obtain ⟨b0, o0, rfl, _, hc⟩ := ints_at HMo.out.at_ hx
      have hd : decide (x ∈ la) = true := decide_eq_true (FW.out k x hx)
      clear hx
      go_wp2_with (first
        | (go_at_call 39; (with_reducible refine (rhas_any HLa9.out _).mono ?_); rintro e wz ⟨rfl, rfl⟩)
        | fail)
      go_round
      case rel => exact ⟨k + 1, by omega, by go_num⟩
      case measure => simp [intOf]; omega
    · go_wp2_with (first
        | (go_at_call 16; (refine (lawake_any _).mono ?_); rintro e w9 ⟨rfl, hb⟩; have HZ := Lib.hid (HW9.out.trans (hb.mono HW9.out.size)); clear hb)
        | fail)
      go_ret
      exact ⟨rfl, HZ.out⟩


set_option maxRecDepth 100000 in
theorem lca_any {w : World} {p : Sp} (c : Cd) {yk y0 y1 y2 y3 y4 y5 n0 n1 n2 n3 : Int} (h : ShIn w p) (hyk : 0 ≤ yk ∧ yk ≤ 255) (hn : (0 ≤ n0 ∧ n0 ≤ 65535) ∧ (0 ≤ n1 ∧ n1 ≤ 65535) ∧ (0 ≤ n2 ∧ n2 ≤ 65535) ∧ (0 ≤ n3 ∧ n3 ≤ 65535)) :
    Calls Try.prog 11 #[.agg #[.slice p.ka p.s.ks.length p.kc, .slice p.xa p.s.xs.length p.xc, .int .i64 p.s.flo, .int .i64 p.s.fhi, .int .i64 p.s.plo, .int .i64 p.s.phi], .agg #[.int .i64 c.wax, .int .i64 c.dia, .int .i64 c.dra, .int .i64 c.clo, .int .i64 c.chi], .agg #[.int .u8 yk, .int .u16 y0, .int .u16 y1, .int .u16 y2, .int .u16 y3, .int .u16 y4, .int .u16 y5, .int .u16 n0, .int .u16 n1, .int .u16 n2, .int .u16 n3]] w fun e w' => e = .returned (.bool true) ∧ Below w.heap.size w w' := by
  by_cases he : askCE p.s c = 0
  · obtain ⟨k, x, ha, hq, hs⟩ := askK_of he yk
    have C0 := Lib.hid (fun (W : World) (hW : Below w.heap.size w W) => rcandle_any c (h.on hW))
    rw [he] at C0
    have hsh : shopE p.s = 0 := (askE_zero.1 hs).1
    have hn' : 0 ≤ n0 ∧ 0 ≤ n1 ∧ 0 ≤ n2 ∧ 0 ≤ n3 := by omega
    have hc : Ask p.s (yk % (p.s.ks.length : Int)) (calmV c n0 n1 n2) k x := ⟨ha.sh, ha.h0, ha.hk, ha.hx, calm_cd ha.cd⟩
    have hw := wide_ok (n0 := n0) (n1 := n1) (n2 := n2) (n3 := n3) hsh hn' ha
    have hwi : ∀ W, Below w.heap.size w W → ShIn W ⟨wideV p.s n0 n1 n2 n3, p.ka, p.kc, p.xa, p.xc⟩ := fun W hW => ⟨(h.on hW).ks, (h.on hW).xs⟩
    have C1 := Lib.hid (fun (W : World) (hW : Below w.heap.size w W) => faults_ok (h.on hW) ha hs)
    have C2 := Lib.hid (fun (W : World) (hW : Below w.heap.size w W) => faults_ok (h.on hW) hc (hc.ask hsh))
    have C3 := Lib.hid (fun (W : World) (hW : Below w.heap.size w W) => faults_ok (hwi W hW) hw (hw.ask (wide_shop hsh hn')))
    have C4 := Lib.hid fun (W : World) (hW : Below w.heap.size w W) => min_yes (g := 1000) (h.on hW) ha hs (inB_t (by omega) (by omega))
    have C5 := Lib.hid fun (W : World) (hW : Below w.heap.size w W) => min_yes (g := 1000) (h.on hW) hc (hc.ask hsh) (inB_t (by omega) (by omega))
    have mm := calm_min (n0 := n0) (n1 := n1) (n2 := n2) (g := 1000) (by omega) ha.ko ha.xo ha.cd
    have LL : ∀ f : Int → Bool, (([1, 2, 3, 4] : List Int).filter f).length ≤ 4 := fun f => List.length_filter_le f _
    have l1 : (faultsL p.s k x (calmV c n0 n1 n2)).length ≤ 4 := LL _
    have l2 : (faultsL (wideV p.s n0 n1 n2 n3) k x c).length ≤ 4 := LL _
    have FW : Hid (∀ (i : Nat) (y : Int), (faultsL p.s k x (calmV c n0 n1 n2) ++ faultsL (wideV p.s n0 n1 n2 n3) k x c)[i]? = some y → y ∈ faultsL p.s k x c) := fun i y hy => by
      rcases List.mem_append.1 (List.mem_of_getElem? hy) with hm | hm
      · exact calm_sub ha.ko ha.xo ha.cd hm
      · exact wide_sub ha.sh (by have := ha.cd.dia; omega) hn' hm
    have l3 : (faultsL p.s k x (calmV c n0 n1 n2) ++ faultsL (wideV p.s n0 n1 n2 n3) k x c).length ≤ 8 := by rw [List.length_append]; omega
    generalize faultsL p.s k x (calmV c n0 n1 n2) = lb at *
    generalize faultsL (wideV p.s n0 n1 n2 n3) k x c = ld at *
    generalize (minV 1000 (burn x (weakT k x c)) (burn x (strongT k x c))).1 = a1 at *
    generalize (minV 1000 (burn x (weakT k x c)) (burn x (strongT k x c))).2 = a2 at *
    generalize (minV 1000 (burn x (weakT k x (calmV c n0 n1 n2))) (burn x (strongT k x (calmV c n0 n1 n2)))).1 = b1 at *
    generalize (minV 1000 (burn x (weakT k x (calmV c n0 n1 n2))) (burn x (strongT k x (calmV c n0 n1 n2)))).2 = b2 at *
    exact lca_ok ha.sh.nk.2 ha.sh.nk.1 hyk rfl hn ⟨ha.cd.dra, ha.cd.cold⟩ ha.sh.fl ha.sh.po l1 l2 (Lib.hid rfl) l3 C0 C1 C2 C3 C4 C5 (decide_eq_false (by omega)) (decide_eq_false (by omega)) FW
  · exact lca_err h he
end Go.Proofs.Ytkjfommdeljefaa
