/- BlendChecks: the law. -/
import Derived.Test.YtalghiecjhfflaaZM
namespace Go.Proofs.Ytalghiecjhfflaa
open Go.RowKit Go.Shelf Go.Maps
attribute [local go_sem] Oper.semAt_some


set_option maxRecDepth 100000 in
set_option maxHeartbeats 4000000 in
theorem lchecks_any {w : World} {A : Option Addr} {c : Nat} {l : List Bw} {i n : Int} (h : BwsIn w A l) (hc : l.length ≤ c) :
    Calls Try.prog 3 #[.slice A l.length c, .agg #[.int .i64 i, .int .i64 n]] w fun e w' => e = .returned (.bool true) ∧ Below w.heap.size w w' := by
  have hb0 := (Bx.nil w).alloc #[.int .i64 i, .int .i64 n] 23
  have HB := Lib.hid hb0
  have H1 := Lib.hid (fun (W : World) (hb : Below w.heap.size w W) => check_any (h.on hb) hc)
  have H2 := Lib.hid (fun (W : World) (hb : Below w.heap.size w W) => rcheck_any (c := c) (h.on hb))
  have H3 := Lib.hid (fun (W : World) (hb : Below w.heap.size w W) => praise_any (i := i) (n := n) (h.on hb) hc)
  have H4 := Lib.hid (fun (W : World) (hb : Below w.heap.size w W) => rraise_any (c := c) (i := i) (n := n) (h.on hb))
  clear h hb0
  generalize checkB l = R at *
  generalize raiseV l i n = V at *
  go_enter Try.func3, Try.ntmps3
  go_wp2_with (first
    | (go_at_call 15; (with_reducible refine (H1.out _ HB.out.b).mono ?_); rintro e w1 ⟨rfl, hb⟩; have HB1 := Lib.hid (HB.out.on hb); clear hb)
    | (go_at_call 16; (with_reducible refine (H2.out _ HB1.out.b).mono ?_); rintro e w2 ⟨rfl, hb⟩; have HB2 := Lib.hid (HB1.out.on hb); have k2 : Blk w2 w.heap.size 23 #[.int .i64 i, .int .i64 n] := HB2.out.get (by simp); have r0 := k2.cell 0; have r1 := k2.cell 1; have rl := k2.lt; clear hb k2)
    | (go_at_call 17; (with_reducible refine (H3.out _ HB2.out.b).mono ?_); rintro e w3 ⟨rfl, hb⟩; have HB3 := Lib.hid (HB2.out.on hb); have k3 : Blk w3 w.heap.size 23 #[.int .i64 i, .int .i64 n] := HB3.out.get (by simp); have s0 := k3.cell 0; have s1 := k3.cell 1; have sl := k3.lt; clear hb k3)
    | (go_at_call 18; (with_reducible refine (H4.out _ HB3.out.b).mono ?_); rintro e w4 ⟨rfl, hb⟩; have HB4 := Lib.hid (HB3.out.on hb); clear hb)
    | (go_at_call 19; (with_reducible refine (lawake_any _).mono ?_); rintro e w5 ⟨rfl, hb⟩; have HB5 := Lib.hid (HB4.out.on hb); clear hb)
    | fail)
  go_ret
  exact ⟨rfl, HB5.out.b⟩
end Go.Proofs.Ytalghiecjhfflaa
