/- ref03.Candle: contract. -/
import Derived.Test.YtkjfommdeljefaaQ7
import Derived.Test.YtkjfommdeljefaaGa
import Derived.Test.YtkjfommdeljefaaQK
namespace Go.Proofs.Ytkjfommdeljefaa
open Go.RowKit Go.Shelf Go.Maps
attribute [local go_sem] Oper.semAt_some


theorem candE_or (s : Sh) (c : Cd) : candE s c = if inB c.wax 0 (s.xs.length - 1) = false then 4 else if inB c.dia 1 2000 = false ∨ inB c.dra 0 90 = false then 7 else spanErr (c.clo, c.chi) 0 300 := by
  unfold candE idxE
  simp only [orE_cons, spanErr_or]
  cases inB c.wax 0 (s.xs.length - 1) <;> cases h1 : inB c.dia 1 2000 <;> cases h2 : inB c.dra 0 90 <;> simp [rangeE, h1, h2, orE]

set_option maxRecDepth 100000 in
set_option maxHeartbeats 2000000 in
theorem rcandle_any {w : World} {p : Sp} (c : Cd) (h : ShIn w p) :
    Calls Try.prog 36 #[.agg #[.slice p.ka p.s.ks.length p.kc, .slice p.xa p.s.xs.length p.xc, .int .i64 p.s.flo, .int .i64 p.s.fhi, .int .i64 p.s.plo, .int .i64 p.s.phi], .agg #[.int .i64 c.wax, .int .i64 c.dia, .int .i64 c.dra, .int .i64 c.clo, .int .i64 c.chi]] w fun e w' => e = .returned (.int .i64 (askCE p.s c)) ∧ Below w.heap.size w w' := by
  have hx1 := h.xs.len
  have hb0 := ((Bx.nil w).alloc #[.slice p.ka p.s.ks.length p.kc, .slice p.xa p.s.xs.length p.xc, .int .i64 p.s.flo, .int .i64 p.s.fhi, .int .i64 p.s.plo, .int .i64 p.s.phi] 27).alloc #[.int .i64 c.wax, .int .i64 c.dia, .int .i64 c.dra, .int .i64 c.clo, .int .i64 c.chi] 34
  simp only [World.size_alloc] at hb0
  have HB := Lib.hid hb0
  have C2 := Lib.hid (fun (W : World) (hW : Below w.heap.size w W) => rcheck_any (h.on hW))
  have HE := Lib.hid (show askCE p.s c = if shopE p.s ≠ 0 then shopE p.s else candE p.s c by unfold askCE; rw [orE_cons, orE_one])
  have HC := Lib.hid (candE_or p.s c)
  have HN : Hid (1 ≤ p.s.xs.length ∨ shopE p.s ≠ 0) := by
    by_cases hs : shopE p.s = 0
    · exact .inl (shopE_ok hs).nx.1
    · exact .inr hs
  have HS := Lib.hid (show (checkS p.s).2.2 = shopE p.s from rfl)
  rw [HS.out] at C2
  clear h hb0 HS
  generalize (checkS p.s).1 = a at *
  generalize (checkS p.s).2.1 = b at *
  by_cases hs : shopE p.s = 0
  · have HN2 := Lib.hid (HN.out.resolve_right (fun h => h hs))
    rw [hs] at C2
    have HE2 := Lib.hid (show askCE p.s c = candE p.s c by rw [HE.out, hs]; rfl)
    clear HE HN hs
    have hw : IntKind.i64.wrap ((p.s.xs.length : Int) - 1) = (p.s.xs.length : Int) - 1 := IntWalk.i64_in _ (by have := HN2.out; omega)
    cases h1 : inB c.wax 0 (p.s.xs.length - 1) with
    | false =>
      have HR := Lib.hid (show askCE p.s c = 4 by rw [HE2.out, HC.out, h1]; rfl)
      clear HC HE2
      go_enter Try.func36, Try.ntmps36
      go_wp2_with (first
        | (go_at_call 15; (refine (C2.out _ HB.out.b).mono ?_); rintro e w1 ⟨rfl, hb⟩; have HD := Lib.hid (HB.out.on hb); clear hb; have sb : Blk _ w.heap.size 27 #[.slice p.ka p.s.ks.length p.kc, .slice p.xa p.s.xs.length p.xc, .int .i64 p.s.flo, .int .i64 p.s.fhi, .int .i64 p.s.plo, .int .i64 p.s.phi] := HD.out.get (by simp); have s1 := sb.cell 1; have sl := sb.lt; have cb : Blk _ (w.heap.size + 1) 34 #[.int .i64 c.wax, .int .i64 c.dia, .int .i64 c.dra, .int .i64 c.clo, .int .i64 c.chi] := HD.out.get (by simp); have c0 := cb.cell 0; have c1 := cb.cell 1; have c2 := cb.cell 2; have c3 := cb.cell 3; have c4 := cb.cell 4; have cl := cb.lt; clear sb cb)
        | (go_at_call 45; (with_reducible refine (rin3_any _ _ _ _).mono ?_); rintro e w' ⟨rfl, rfl⟩)
        | fail)
      go_ret
      exact ⟨ret_i64 HR.out.symm, HD.out.b⟩
    | true =>
      cases h2 : inB c.dia 1 2000 with
      | false =>
        have HR := Lib.hid (show askCE p.s c = 7 by rw [HE2.out, HC.out, h1, h2]; rfl)
        clear HC HE2
        go_enter Try.func36, Try.ntmps36
        go_wp2_with (first
          | (go_at_call 15; (refine (C2.out _ HB.out.b).mono ?_); rintro e w1 ⟨rfl, hb⟩; have HD := Lib.hid (HB.out.on hb); clear hb; have sb : Blk _ w.heap.size 27 #[.slice p.ka p.s.ks.length p.kc, .slice p.xa p.s.xs.length p.xc, .int .i64 p.s.flo, .int .i64 p.s.fhi, .int .i64 p.s.plo, .int .i64 p.s.phi] := HD.out.get (by simp); have s1 := sb.cell 1; have sl := sb.lt; have cb : Blk _ (w.heap.size + 1) 34 #[.int .i64 c.wax, .int .i64 c.dia, .int .i64 c.dra, .int .i64 c.clo, .int .i64 c.chi] := HD.out.get (by simp); have c0 := cb.cell 0; have c1 := cb.cell 1; have c2 := cb.cell 2; have c3 := cb.cell 3; have c4 := cb.cell 4; have cl := cb.lt; clear sb cb)
          | (go_at_call 45; (with_reducible refine (rin3_any _ _ _ _).mono ?_); rintro e w' ⟨rfl, rfl⟩)
          | fail)
        go_ret
        exact ⟨ret_i64 HR.out.symm, HD.out.b⟩
      | true =>
        cases h3 : inB c.dra 0 90 with
        | false =>
          have HR := Lib.hid (show askCE p.s c = 7 by rw [HE2.out, HC.out, h1, h2, h3]; rfl)
          clear HC HE2
          go_enter Try.func36, Try.ntmps36
          go_wp2_with (first
            | (go_at_call 15; (refine (C2.out _ HB.out.b).mono ?_); rintro e w1 ⟨rfl, hb⟩; have HD := Lib.hid (HB.out.on hb); clear hb; have sb : Blk _ w.heap.size 27 #[.slice p.ka p.s.ks.length p.kc, .slice p.xa p.s.xs.length p.xc, .int .i64 p.s.flo, .int .i64 p.s.fhi, .int .i64 p.s.plo, .int .i64 p.s.phi] := HD.out.get (by simp); have s1 := sb.cell 1; have sl := sb.lt; have cb : Blk _ (w.heap.size + 1) 34 #[.int .i64 c.wax, .int .i64 c.dia, .int .i64 c.dra, .int .i64 c.clo, .int .i64 c.chi] := HD.out.get (by simp); have c0 := cb.cell 0; have c1 := cb.cell 1; have c2 := cb.cell 2; have c3 := cb.cell 3; have c4 := cb.cell 4; have cl := cb.lt; clear sb cb)
            | (go_at_call 45; (with_reducible refine (rin3_any _ _ _ _).mono ?_); rintro e w' ⟨rfl, rfl⟩)
            | fail)
          go_ret
          exact ⟨ret_i64 HR.out.symm, HD.out.b⟩
        | true =>
          have HR := Lib.hid (show askCE p.s c = spanErr (c.clo, c.chi) 0 300 by rw [HE2.out, HC.out, h1, h2, h3]; rfl)
          have HV := Lib.hid (rspan_any (c.clo, c.chi) 0 300)
          generalize spanErr (c.clo, c.chi) 0 300 = z at *
          clear HC HE2
          go_enter Try.func36, Try.ntmps36
          go_wp2_with (first
            | (go_at_call 15; (refine (C2.out _ HB.out.b).mono ?_); rintro e w1 ⟨rfl, hb⟩; have HD := Lib.hid (HB.out.on hb); clear hb; have sb : Blk _ w.heap.size 27 #[.slice p.ka p.s.ks.length p.kc, .slice p.xa p.s.xs.length p.xc, .int .i64 p.s.flo, .int .i64 p.s.fhi, .int .i64 p.s.plo, .int .i64 p.s.phi] := HD.out.get (by simp); have s1 := sb.cell 1; have sl := sb.lt; have cb : Blk _ (w.heap.size + 1) 34 #[.int .i64 c.wax, .int .i64 c.dia, .int .i64 c.dra, .int .i64 c.clo, .int .i64 c.chi] := HD.out.get (by simp); have c0 := cb.cell 0; have c1 := cb.cell 1; have c2 := cb.cell 2; have c3 := cb.cell 3; have c4 := cb.cell 4; have cl := cb.lt; clear sb cb)
            | (go_at_call 45; (with_reducible refine (rin3_any _ _ _ _).mono ?_); rintro e w' ⟨rfl, rfl⟩)
            | (go_at_call 48; (with_reducible refine (HV.out _).mono ?_); rintro e w2 ⟨rfl, hb⟩; have HF := Lib.hid (HD.out.on hb); clear hb)
            | fail)
          go_ret
          exact ⟨ret_i64 HR.out.symm, HF.out.b⟩
  · have HR := Lib.hid (show askCE p.s c = shopE p.s by rw [HE.out, if_pos hs])
    have hz : (shopE p.s != 0) = true := by simpa using hs
    clear HE HC HN hs
    generalize shopE p.s = z at *
    go_enter Try.func36, Try.ntmps36
    go_wp2_with (first
      | (go_at_call 15; (refine (C2.out _ HB.out.b).mono ?_); rintro e w1 ⟨rfl, hb⟩; have HD := Lib.hid (HB.out.on hb); clear hb; have sb : Blk _ w.heap.size 27 #[.slice p.ka p.s.ks.length p.kc, .slice p.xa p.s.xs.length p.xc, .int .i64 p.s.flo, .int .i64 p.s.fhi, .int .i64 p.s.plo, .int .i64 p.s.phi] := HD.out.get (by simp); have s1 := sb.cell 1; have sl := sb.lt; have cb : Blk _ (w.heap.size + 1) 34 #[.int .i64 c.wax, .int .i64 c.dia, .int .i64 c.dra, .int .i64 c.clo, .int .i64 c.chi] := HD.out.get (by simp); have c0 := cb.cell 0; have c1 := cb.cell 1; have c2 := cb.cell 2; have c3 := cb.cell 3; have c4 := cb.cell 4; have cl := cb.lt; clear sb cb)
      | (go_at_call 45; (with_reducible refine (rin3_any _ _ _ _).mono ?_); rintro e w' ⟨rfl, rfl⟩)
      | fail)
    go_ret
    exact ⟨ret_i64 HR.out.symm, HD.out.b⟩
end Go.Proofs.Ytkjfommdeljefaa
