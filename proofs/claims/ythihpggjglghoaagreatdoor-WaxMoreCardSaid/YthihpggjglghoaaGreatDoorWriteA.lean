/- wax.Write: contract, whole. -/
import Derived.Test.YthihpggjglghoaaGreatDoorWrite
namespace Go.Proofs.YthihpggjglghoaaGreatDoor
open Go.RowKit Go.Shelf

/-- What Write returns. -/
def writeV (t : Tab) : ByteArray × Int := if (checkT t).2.2 ≠ 0 then (⟨#[]⟩, (checkT t).2.2) else (textV t, 0)
set_option maxRecDepth 100000 in
set_option maxHeartbeats 2000000 in
theorem write_err {w : World} {pa ka : Option Addr} {pc kc : Nat} {t : Tab} (h : TabIn w pa ka pc kc t) (hv : (checkT t).2.2 ≠ 0) :
    Calls Tryz.prog 5 #[.agg #[.slice pa t.ps.length pc, .slice ka t.ks.length kc, .int .i64 t.pu]] w fun e w' => e = .returned (.tuple #[.string ⟨#[]⟩, .int .i64 (checkT t).2.2]) ∧ Below w.heap.size w w' := by
  have hB0 : Below w.heap.size w (w.alloc (.cells #[.slice pa t.ps.length pc, .slice ka t.ks.length kc, .int .i64 t.pu] 25)) := ((Below.refl _ w).alloc (Nat.le_refl _) _)
  have HL := Lib.hid (open_err (h.on hB0) hv)
  have h1 := h.tab.lp
  have h2 := h.tab.lk
  generalize (checkT t).2.2 = z at *
  have z2 : (z != 0) = true := by simpa using hv
  clear h hv
  go_enter Tryz.func5, Tryz.ntmps5
  go_wp2_with fail
  refine HL.out.mono ?_
  rintro e w1 ⟨rfl, hb1⟩
  have hbw := hB0.trans (hb1.mono hB0.size)
  clear HL hb1
  go_wp2_with fail
  refine bodyPost_ret (v := .tuple #[.string ⟨#[]⟩, .int .i64 z]) ?_ rfl ⟨rfl, hbw.alloc hbw.size _⟩
  simp [results, Tryz.results5, go_sem, *]

/-- **Write returns writeV.** -/
theorem write_any {w : World} {pa ka : Option Addr} {pc kc : Nat} {t : Tab} (h : TabIn w pa ka pc kc t) (hB : Base w) :
    Calls Tryz.prog 5 #[.agg #[.slice pa t.ps.length pc, .slice ka t.ks.length kc, .int .i64 t.pu]] w fun e w' => e = .returned (.tuple #[.string (writeV t).1, .int .i64 (writeV t).2]) ∧ Below w.heap.size w w' := by
  unfold writeV
  by_cases hv : (checkT t).2.2 = 0
  · rw [if_neg (by simpa using hv)]
    exact write_ok h hB hv
  · rw [if_pos hv]
    exact write_err h hv
end Go.Proofs.YthihpggjglghoaaGreatDoor
