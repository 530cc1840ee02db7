/- ref03.Check: contract. -/
import Derived.Test.YtkjfommdeljefaaQ6
namespace Go.Proofs.Ytkjfommdeljefaa
open Go.RowKit Go.Shelf Go.Maps
attribute [local go_sem] Oper.semAt_some

set_option maxRecDepth 100000 in
set_option maxHeartbeats 1000000 in
theorem rcheck_k {w : World} {p : Sp} (h : ShIn w p) (q1 : inB p.s.ks.length 1 12 = false) :
    Calls Try.prog 15 #[.agg #[.slice p.ka p.s.ks.length p.kc, .slice p.xa p.s.xs.length p.xc, .int .i64 p.s.flo, .int .i64 p.s.fhi, .int .i64 p.s.plo, .int .i64 p.s.phi]] w fun e w' => e = .returned (.tuple #[.int .i64 1, .int .i64 0, .int .i64 3]) ∧ Below w.heap.size w w' := by
  have hk1 := h.ks.len
  have hx1 := h.xs.len
  have hA := Lib.hid ((Below.refl _ w).alloc (Nat.le_refl _) (.cells #[.slice p.ka p.s.ks.length p.kc, .slice p.xa p.s.xs.length p.xc, .int .i64 p.s.flo, .int .i64 p.s.fhi, .int .i64 p.s.plo, .int .i64 p.s.phi] 27))
  clear h
  go_enter Try.func15, Try.ntmps15
  go_wp2_with (first
    | (go_at_call 45; (with_reducible refine (rin3_any _ _ _ _).mono ?_); rintro e w' ⟨rfl, rfl⟩)
    | fail)
  go_ret3
  exact ⟨rfl, hA.out⟩

set_option maxRecDepth 100000 in
set_option maxHeartbeats 1000000 in
theorem rcheck_x {w : World} {p : Sp} (h : ShIn w p) (q1 : inB p.s.ks.length 1 12 = true) (q2 : inB p.s.xs.length 1 6 = false) :
    Calls Try.prog 15 #[.agg #[.slice p.ka p.s.ks.length p.kc, .slice p.xa p.s.xs.length p.xc, .int .i64 p.s.flo, .int .i64 p.s.fhi, .int .i64 p.s.plo, .int .i64 p.s.phi]] w fun e w' => e = .returned (.tuple #[.int .i64 1, .int .i64 0, .int .i64 3]) ∧ Below w.heap.size w w' := by
  have hk1 := h.ks.len
  have hx1 := h.xs.len
  have hA := Lib.hid ((Below.refl _ w).alloc (Nat.le_refl _) (.cells #[.slice p.ka p.s.ks.length p.kc, .slice p.xa p.s.xs.length p.xc, .int .i64 p.s.flo, .int .i64 p.s.fhi, .int .i64 p.s.plo, .int .i64 p.s.phi] 27))
  clear h
  go_enter Try.func15, Try.ntmps15
  go_wp2_with (first
    | (go_at_call 45; (with_reducible refine (rin3_any _ _ _ _).mono ?_); rintro e w' ⟨rfl, rfl⟩)
    | fail)
  go_ret3
  exact ⟨rfl, hA.out⟩

set_option maxRecDepth 100000 in
set_option maxHeartbeats 1000000 in
theorem rcheck_b {w : World} {p : Sp} (h : ShIn w p) (q1 : inB p.s.ks.length 1 12 = true) (q2 : inB p.s.xs.length 1 6 = true) {z : Int} (hz : boundE p.s = z) (hz0 : z ≠ 0) :
    Calls Try.prog 15 #[.agg #[.slice p.ka p.s.ks.length p.kc, .slice p.xa p.s.xs.length p.xc, .int .i64 p.s.flo, .int .i64 p.s.fhi, .int .i64 p.s.plo, .int .i64 p.s.phi]] w fun e w' => e = .returned (.tuple #[.int .i64 1, .int .i64 0, .int .i64 z]) ∧ Below w.heap.size w w' := by
  have hk1 := h.ks.len
  have hx1 := h.xs.len
  have hA := Lib.hid ((Below.refl _ w).alloc (Nat.le_refl _) (.cells #[.slice p.ka p.s.ks.length p.kc, .slice p.xa p.s.xs.length p.xc, .int .i64 p.s.flo, .int .i64 p.s.fhi, .int .i64 p.s.plo, .int .i64 p.s.phi] 27))
  have hs := spans2_call (w.alloc (.cells #[.slice p.ka p.s.ks.length p.kc, .slice p.xa p.s.xs.length p.xc, .int .i64 p.s.flo, .int .i64 p.s.fhi, .int .i64 p.s.plo, .int .i64 p.s.phi] 27)) p.s.flo p.s.fhi p.s.plo p.s.phi 0 0 2000 2000
  rw [← boundE_sp p.s ⟨q1, q2⟩, hz] at hs
  simp only [World.size_alloc] at hs
  have HS := Lib.hid hs
  have hz1 : (z != 0) = true := by simpa using hz0
  clear hs hz hz0
  clear h
  go_enter Try.func15, Try.ntmps15
  go_wp2_with (first
    | (go_at_call 45; (with_reducible refine (rin3_any _ _ _ _).mono ?_); rintro e w' ⟨rfl, rfl⟩)
    | (go_at_call 46; (refine HS.out.mono ?_); rintro e w1 ⟨rfl, hb1⟩; have HJ := Lib.hid (hA.out.trans (show Below w.heap.size _ w1 from (hb1.mono (by simp)))); clear hb1)
    | fail)
  go_ret3
  exact ⟨rfl, HJ.out⟩


theorem rcheck_any {w : World} {p : Sp} (h : ShIn w p) :
    Calls Try.prog 15 #[.agg #[.slice p.ka p.s.ks.length p.kc, .slice p.xa p.s.xs.length p.xc, .int .i64 p.s.flo, .int .i64 p.s.fhi, .int .i64 p.s.plo, .int .i64 p.s.phi]] w fun e w' => e = .returned (.tuple #[.int .i64 (checkS p.s).1, .int .i64 (checkS p.s).2.1, .int .i64 (checkS p.s).2.2]) ∧ Below w.heap.size w w' := by
  have hB : ∀ z, boundE p.s = z → z ≠ 0 → checkS p.s = (1, 0, z) := fun z e hz => by
    unfold checkS checkOf
    rw [if_pos (by rw [e]; exact hz), e]
  cases q1 : inB p.s.ks.length 1 12 with
  | false =>
    rw [hB 3 (by unfold boundE; rw [if_neg (by rw [q1]; simp)]) (by decide)]
    exact rcheck_k h q1
  | true =>
    cases q2 : inB p.s.xs.length 1 6 with
    | false =>
      rw [hB 3 (by unfold boundE; rw [if_neg (by rw [q2]; simp)]) (by decide)]
      exact rcheck_x h q1 q2
    | true =>
      by_cases hz : boundE p.s = 0
      · exact rcheck_ok h _ rfl q1 q2 hz
      · rw [hB _ rfl hz]
        exact rcheck_b h q1 q2 rfl hz
end Go.Proofs.Ytkjfommdeljefaa
