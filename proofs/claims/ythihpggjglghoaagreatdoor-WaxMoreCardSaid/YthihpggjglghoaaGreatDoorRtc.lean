/- wax.readTable: its deferred closure; its walk. -/
import Derived.Test.YthihpggjglghoaaGreatDoorKndA
import Derived.Defers
import Derived.Recover
namespace Go.Proofs.YthihpggjglghoaaGreatDoor
open Go.RowKit Go.Shelf

theorem rtc_idle (p q : Option Addr) (w : World) :
    CallsD Tryz.prog 48 #[.pointer p, .pointer q] .returning w fun e u' w' => e = .returned (.tuple #[]) ∧ u' = .returning ∧ w' = w := by
  refine callsD_of_wpS Tryz.func48 rfl fun c₀ cs hu => ?_
  apply wpS_seq
  apply wpS_region
  simp [wpOpsS, go_sem, recoverD, hu, Tryz.ntmps48, Exit.thenS]
  refine wpS_cond (t := false) (by simp [Act.eval, Array.replicate]) ?_
  simp only [Bool.false_eq_true, if_false]
  refine wpS_of_wp (wp_skip ?_)
  cases c₀
  simp_all [bodyPostS, results, Tryz.results48]

/-- What the closure leaves of the named results. -/
def cleared (w : World) (T O : Nat) : World := (((w.setCell ⟨T, 0, none⟩ (.slice none 0 0)).setCell ⟨T, 1, none⟩ (.slice none 0 0)).setCell ⟨T, 2, none⟩ (.int .i64 0)).setCell ⟨O, 0, none⟩ (.bool false)
theorem rtc_catch {T O : Nat} {a b c d : Value} {w : World} (hT : Blk w T 25 #[a, b, c]) (hO : Blk w O 4 #[d]) (hTO : T ≠ O) (u : TypeId) (pv : Value) (older : List PanicEntry) :
    CallsD Tryz.prog 48 #[.pointer (some ⟨T, 0, none⟩), .pointer (some ⟨O, 0, none⟩)] (.panicking ({ v := .iface u pv, recovered := false } :: older)) w fun e u' w' =>
      e = .returned (.tuple #[]) ∧ u' = .panicking ({ v := .iface u pv, recovered := true } :: older) ∧ w' = cleared w T O := by
  obtain ⟨t0, t1, t2, t3, t4, t5, t6⟩ := hT.three
  obtain ⟨o0, o1, o2⟩ := hO.one
  refine callsD_of_wpS Tryz.func48 rfl fun c₀ cs hu => ?_
  apply wpS_seq
  apply wpS_region
  simp [wpOpsS, go_sem, recoverD, hu, Tryz.ntmps48, Exit.thenS]
  refine wpS_cond (t := true) (by simp [Act.eval, Array.replicate]) ?_
  simp only [if_true]
  apply wpS_region
  simp [wpOpsS, go_sem, t0, t1, t2, t3, t4, t5, o0, o1, bodyPostS, results, Tryz.results48, cleared]
end Go.Proofs.YthihpggjglghoaaGreatDoor
