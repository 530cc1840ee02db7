/- WickChecks: the law. -/
import Derived.Test.YtkjfommdeljefaaQ7
import Derived.Test.YtkjfommdeljefaaQU
import Derived.Test.YtkjfommdeljefaaGd
namespace Go.Proofs.Ytkjfommdeljefaa
open Go.RowKit Go.Shelf Go.Maps
attribute [local go_sem] Oper.semAt_some

set_option maxRecDepth 100000 in
set_option maxHeartbeats 2000000 in
theorem lchecks_any {w : World} {p : Sp} (h : ShIn w p) :
    Calls Try.prog 3 #[.agg #[.slice p.ka p.s.ks.length p.kc, .slice p.xa p.s.xs.length p.xc, .int .i64 p.s.flo, .int .i64 p.s.fhi, .int .i64 p.s.plo, .int .i64 p.s.phi]] w fun e w' => e = .returned (.bool true) ∧ Below w.heap.size w w' := by
  have hA := (Below.refl _ w).alloc (Nat.le_refl _) (.cells #[.slice p.ka p.s.ks.length p.kc, .slice p.xa p.s.xs.length p.xc, .int .i64 p.s.flo, .int .i64 p.s.fhi, .int .i64 p.s.plo, .int .i64 p.s.phi] 27)
  have HB := Lib.hid hA
  have H0 := Lib.hid h
  have C1 := Lib.hid (fun (W : World) (hW : Below w.heap.size w W) => check_any (h.on hW))
  have C2 := Lib.hid (fun (W : World) (hW : Below w.heap.size w W) => rcheck_any (h.on hW))
  have HK := Lib.hid (Blk.new w 27 #[.slice p.ka p.s.ks.length p.kc, .slice p.xa p.s.xs.length p.xc, .int .i64 p.s.flo, .int .i64 p.s.fhi, .int .i64 p.s.plo, .int .i64 p.s.phi])
  clear h hA
  generalize (checkS p.s).1 = a at *
  generalize (checkS p.s).2.1 = b at *
  generalize (checkS p.s).2.2 = c at *
  go_enter Try.func3, Try.ntmps3
  go_wp2_with (first
    | (go_at_call 14; (refine (C1.out _ HB.out).mono ?_); rintro e w1 ⟨rfl, hb⟩; have HB1 := Lib.hid (HB.out.trans (hb.mono HB.out.size)); have HK1 := Lib.hid (HK.out.on hb); clear hb; have k0 := HK1.out.cell 0; have k1 := HK1.out.cell 1; have k2 := HK1.out.cell 2; have k3 := HK1.out.cell 3; have k4 := HK1.out.cell 4; have k5 := HK1.out.cell 5; have kl := HK1.out.lt)
    | (go_at_call 15; (refine (C2.out _ HB1.out).mono ?_); rintro e w2 ⟨rfl, hb⟩; have HB2 := Lib.hid (HB1.out.trans (hb.mono HB1.out.size)); clear hb k0 k1 k2 k3 k4 k5 kl)
    | (go_at_call 16; (refine (lawake_any _).mono ?_); rintro e w3 ⟨rfl, hb⟩; have HB3 := Lib.hid (HB2.out.trans (hb.mono HB2.out.size)); clear hb)
    | fail)
  go_ret
  exact ⟨rfl, HB3.out⟩
end Go.Proofs.Ytkjfommdeljefaa
