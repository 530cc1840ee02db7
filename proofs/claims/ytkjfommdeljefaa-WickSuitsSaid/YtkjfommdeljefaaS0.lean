/- The law: a number of a range, by turns. -/
import Derived.Test.YtkjfommdeljefaaQM
import Derived.Test.YtkjfommdeljefaaGb
namespace Go.Proofs.Ytkjfommdeljefaa
open Go.RowKit Go.Shelf Go.Maps
attribute [local go_sem] Oper.semAt_some


/-- A number of a range, by turns. -/
def amV (lo hi z : Int) : Int := lo + z % (hi - lo + 1)
theorem amV_rng {lo hi z : Int} (h : lo ≤ hi) : lo ≤ amV lo hi z ∧ amV lo hi z ≤ hi := by
  have h1 := Int.emod_nonneg z (show hi - lo + 1 ≠ 0 by omega)
  have h2 := Int.emod_lt_of_pos z (show (0 : Int) < hi - lo + 1 by omega)
  unfold amV; omega
set_option maxRecDepth 100000 in
set_option maxHeartbeats 1000000 in
theorem lamong_any {lo hi z : Int} (h0 : -1000 ≤ lo) (h1 : lo ≤ hi) (h2 : hi ≤ 2000) (hz : 0 ≤ z ∧ z ≤ 65535) (w : World) :
    Calls Try.prog 41 #[.agg #[.int .i64 lo, .int .i64 hi], .int .i64 z] w fun e w' => e = .returned (.int .i64 (amV lo hi z)) ∧ Below w.heap.size w w' := by
  have HB : Hid (Below w.heap.size w (w.alloc (.cells #[.int .i64 lo, .int .i64 hi] 25))) := (Below.refl _ w).alloc (Nat.le_refl _) _
  have HK := Lib.hid (Blk.new w 25 #[.int .i64 lo, .int .i64 hi])
  have d0 := HK.out.cell 0
  have d1 := HK.out.cell 1
  have hr := amV_rng (z := z) h1
  have e1 : IntKind.i64.wrap (hi - lo) = hi - lo := IntWalk.i64_in _ (by omega)
  have e2 : IntKind.i64.wrap (hi - lo + 1) = hi - lo + 1 := IntWalk.i64_in _ (by omega)
  have e3 : IntKind.i64.wrap (lo + z % (hi - lo + 1)) = amV lo hi z := IntWalk.i64_in _ (by unfold amV at hr; omega)
  have hd : ¬ (hi - lo + 1 = 0) := by omega
  have hm : z.tmod (hi - lo + 1) = z % (hi - lo + 1) := Int.tmod_eq_emod_of_nonneg hz.1
  clear hr
  go_enter Try.func41, Try.ntmps41
  go_wp2_with fail
  go_quiet (fail)
  go_wp2_with fail
  go_ret
  exact ⟨rfl, below_drewN' HB.out _⟩
end Go.Proofs.Ytkjfommdeljefaa
