/- ref03.Asked: contract. -/
import Derived.Test.YtkjfommdeljefaaQ9
namespace Go.Proofs.Ytkjfommdeljefaa
open Go.RowKit Go.Shelf Go.Maps
attribute [local go_sem] Oper.semAt_some

set_option maxRecDepth 100000 in
set_option maxHeartbeats 2000000 in
theorem rasked_any {w : World} {p : Sp} (q : Int) (c : Cd) (h : ShIn w p) :
    Calls Try.prog 52 #[.agg #[.slice p.ka p.s.ks.length p.kc, .slice p.xa p.s.xs.length p.xc, .int .i64 p.s.flo, .int .i64 p.s.fhi, .int .i64 p.s.plo, .int .i64 p.s.phi], .int .i64 q, .agg #[.int .i64 c.wax, .int .i64 c.dia, .int .i64 c.dra, .int .i64 c.clo, .int .i64 c.chi]] w fun e w' => e = .returned (.int .i64 (askE p.s q c)) ∧ Below w.heap.size w w' := by
  have hk1 := h.ks.len
  have hb0 := ((Bx.nil w).alloc #[.slice p.ka p.s.ks.length p.kc, .slice p.xa p.s.xs.length p.xc, .int .i64 p.s.flo, .int .i64 p.s.fhi, .int .i64 p.s.plo, .int .i64 p.s.phi] 27).alloc #[.int .i64 c.wax, .int .i64 c.dia, .int .i64 c.dra, .int .i64 c.clo, .int .i64 c.chi] 34
  simp only [World.size_alloc] at hb0
  have HB := Lib.hid hb0
  have C1 := Lib.hid (fun (W : World) (hW : Below w.heap.size w W) => rcheck_any (h.on hW))
  have C2 := Lib.hid (fun (W : World) (hW : Below w.heap.size w W) => rcandle_any c (h.on hW))
  have HS := Lib.hid (show (checkS p.s).2.2 = shopE p.s from rfl)
  rw [HS.out] at C1
  have HE := Lib.hid (show askE p.s q c = if shopE p.s ≠ 0 then shopE p.s else if inB q 0 (p.s.ks.length - 1) = false then 4 else askCE p.s c by
    unfold askE askCE idxE
    simp only [orE_cons]
    by_cases hs : shopE p.s = 0
    · cases hi : inB q 0 (p.s.ks.length - 1) <;> simp [hs]
    · simp [hs])
  have HN : Hid (1 ≤ p.s.ks.length ∨ shopE p.s ≠ 0) := by
    by_cases hs : shopE p.s = 0
    · exact .inl (shopE_ok hs).nk.1
    · exact .inr hs
  clear h hb0 HS
  generalize (checkS p.s).1 = a at *
  generalize (checkS p.s).2.1 = b at *
  by_cases hs : shopE p.s = 0
  · have HN2 := Lib.hid (HN.out.resolve_right (fun h => h hs))
    rw [hs] at C1
    have hw : IntKind.i64.wrap ((p.s.ks.length : Int) - 1) = (p.s.ks.length : Int) - 1 := IntWalk.i64_in _ (by have := HN2.out; omega)
    cases hi : inB q 0 (p.s.ks.length - 1) with
    | false =>
      have HR := Lib.hid (show askE p.s q c = 4 by rw [HE.out, hs, hi]; rfl)
      clear HE hs HN
      go_enter Try.func52, Try.ntmps52
      go_wp2_with (first
        | (go_at_call 15; (refine (C1.out _ HB.out.b).mono ?_); rintro e w1 ⟨rfl, hb⟩; have HD := Lib.hid (HB.out.on hb); clear hb; have sb : Blk _ w.heap.size 27 #[.slice p.ka p.s.ks.length p.kc, .slice p.xa p.s.xs.length p.xc, .int .i64 p.s.flo, .int .i64 p.s.fhi, .int .i64 p.s.plo, .int .i64 p.s.phi] := HD.out.get (by simp); have s0 := sb.cell 0; have s1 := sb.cell 1; have s2 := sb.cell 2; have s3 := sb.cell 3; have s4 := sb.cell 4; have s5 := sb.cell 5; have sl := sb.lt; have cb : Blk _ (w.heap.size + 1) 34 #[.int .i64 c.wax, .int .i64 c.dia, .int .i64 c.dra, .int .i64 c.clo, .int .i64 c.chi] := HD.out.get (by simp); have c0 := cb.cell 0; have c1 := cb.cell 1; have c2 := cb.cell 2; have c3 := cb.cell 3; have c4 := cb.cell 4; have cl := cb.lt; clear sb cb)
        | (go_at_call 45; (with_reducible refine (rin3_any _ _ _ _).mono ?_); rintro e w' ⟨rfl, rfl⟩)
        | fail)
      go_ret
      exact ⟨ret_i64 HR.out.symm, HD.out.b⟩
    | true =>
      have HR := Lib.hid (show askE p.s q c = askCE p.s c by rw [HE.out, hs, hi]; rfl)
      clear HE hs HN
      generalize askCE p.s c = z at *
      go_enter Try.func52, Try.ntmps52
      go_wp2_with (first
        | (go_at_call 15; (refine (C1.out _ HB.out.b).mono ?_); rintro e w1 ⟨rfl, hb⟩; have HD := Lib.hid (HB.out.on hb); clear hb; have sb : Blk _ w.heap.size 27 #[.slice p.ka p.s.ks.length p.kc, .slice p.xa p.s.xs.length p.xc, .int .i64 p.s.flo, .int .i64 p.s.fhi, .int .i64 p.s.plo, .int .i64 p.s.phi] := HD.out.get (by simp); have s0 := sb.cell 0; have s1 := sb.cell 1; have s2 := sb.cell 2; have s3 := sb.cell 3; have s4 := sb.cell 4; have s5 := sb.cell 5; have sl := sb.lt; have cb : Blk _ (w.heap.size + 1) 34 #[.int .i64 c.wax, .int .i64 c.dia, .int .i64 c.dra, .int .i64 c.clo, .int .i64 c.chi] := HD.out.get (by simp); have c0 := cb.cell 0; have c1 := cb.cell 1; have c2 := cb.cell 2; have c3 := cb.cell 3; have c4 := cb.cell 4; have cl := cb.lt; clear sb cb)
        | (go_at_call 45; (with_reducible refine (rin3_any _ _ _ _).mono ?_); rintro e w' ⟨rfl, rfl⟩)
        | (go_at_call 36; (refine (C2.out _ HD.out.b).mono ?_); rintro e w2 ⟨rfl, hb⟩; have HF := Lib.hid (HD.out.on hb); clear hb)
        | fail)
      go_ret
      exact ⟨ret_i64 HR.out.symm, HF.out.b⟩
  · have HR := Lib.hid (show askE p.s q c = shopE p.s by rw [HE.out, if_pos hs])
    have hz : (shopE p.s != 0) = true := by simpa using hs
    have hz2 : (shopE p.s == 0) = false := by simpa using hs
    clear HE HN hs
    generalize shopE p.s = z at *
    go_enter Try.func52, Try.ntmps52
    go_wp2_with (first
      | (go_at_call 15; (refine (C1.out _ HB.out.b).mono ?_); rintro e w1 ⟨rfl, hb⟩; have HD := Lib.hid (HB.out.on hb); clear hb; have sb : Blk _ w.heap.size 27 #[.slice p.ka p.s.ks.length p.kc, .slice p.xa p.s.xs.length p.xc, .int .i64 p.s.flo, .int .i64 p.s.fhi, .int .i64 p.s.plo, .int .i64 p.s.phi] := HD.out.get (by simp); have s0 := sb.cell 0; have s1 := sb.cell 1; have s2 := sb.cell 2; have s3 := sb.cell 3; have s4 := sb.cell 4; have s5 := sb.cell 5; have sl := sb.lt; have cb : Blk _ (w.heap.size + 1) 34 #[.int .i64 c.wax, .int .i64 c.dia, .int .i64 c.dra, .int .i64 c.clo, .int .i64 c.chi] := HD.out.get (by simp); have c0 := cb.cell 0; have c1 := cb.cell 1; have c2 := cb.cell 2; have c3 := cb.cell 3; have c4 := cb.cell 4; have cl := cb.lt; clear sb cb)
      | (go_at_call 45; (with_reducible refine (rin3_any _ _ _ _).mono ?_); rintro e w' ⟨rfl, rfl⟩)
      | fail)
    go_ret
    exact ⟨ret_i64 HR.out.symm, HD.out.b⟩
end Go.Proofs.Ytkjfommdeljefaa
