/- MouldKnown: the examples of the document. -/
import Derived.Test.YtljbjcnfkbmjkaaMeH
namespace Go.Proofs.Ytljbjcnfkbmjkaa
open Go.RowKit Go.Shelf Go.Maps
attribute [local go_sem] Oper.semAt_some

theorem kv_cool : coolR (mo 150) [800, 800] [200, 200, 200, 200] = ([387, 500], 0) := by decide +kernel
theorem kv_warm : warmR (mo 150) 1 = ([(500, 550), (800, 800)], 0) := by decide +kernel
theorem kv_s0 : skinR (mo 150) 0 = ((0, 0), 0) := by decide +kernel
theorem kv_s2 : skinR (mo 150) 2 = ((0, 1), 0) := by decide +kernel
theorem kv_s3 : skinR (mo 150) 3 = ((1, 1), 0) := by decide +kernel
theorem kv_h0 : hollR (mo 150) [] = (((400, 400), (0, 0)), 0) := by decide +kernel
theorem kv_h2 : hollR (mo 150) [2] = (((150, 400), (0, 250)), 0) := by decide +kernel
theorem kv_h3 : hollR (mo 150) [3] = (((150, 150), (250, 250)), 0) := by decide +kernel
theorem kv_h4 : hollR (mo 150) [4] = (((0, 0), (0, 0)), 9) := by decide +kernel
theorem kv_few : fewR (mo 400) = ([], 0) := by decide +kernel
theorem kn_cool {W : World} {A1 A2 : Option Addr} (hp : IntsIn W A1 [800, 800]) (hq : IntsIn W A2 [200, 200, 200, 200]) :
    Calls Try.prog 20 #[.agg #[.int .i64 2, .int .i64 500, .int .i64 800, .int .i64 800, .int .i64 200, .int .i64 300, .int .i64 540, .int .i64 100, .int .i64 1, .int .i64 250, .int .i64 1, .int .i64 150], .agg #[.slice A1 2 2, .slice A2 4 4]] W fun e w' => ∃ A c, e = .returned (.tuple #[.slice A 2 c, .int .i64 0]) ∧ IntsIn w' A [387, 500] ∧ Below W.heap.size W w' := by
  refine (cool_any (c1 := 2) (c2 := 4) (mo 150) hp hq).mono ?_
  rw [kv_cool]
  rintro e w' ⟨v, rfl, hv, hb⟩
  obtain ⟨A, c, rfl, hi⟩ := hv.in_
  exact ⟨A, c, rfl, hi, hb⟩
theorem kn_warm (W : World) :
    Calls Try.prog 23 #[.agg #[.int .i64 2, .int .i64 500, .int .i64 800, .int .i64 800, .int .i64 200, .int .i64 300, .int .i64 540, .int .i64 100, .int .i64 1, .int .i64 250, .int .i64 1, .int .i64 150], .int .i64 1] W fun e w' => ∃ A c, e = .returned (.tuple #[.slice A 2 c, .int .i64 0]) ∧ SpansIn w' A [(500, 550), (800, 800)] ∧ Below W.heap.size W w' := by
  refine (mwarm_any (mo 150) 1 W).mono ?_
  rw [kv_warm]
  rintro e w' ⟨v, rfl, hv, hb⟩
  obtain ⟨A, c, rfl, hi⟩ := SpansOut.in_ hv
  exact ⟨A, c, rfl, hi, hb⟩
theorem kn_skin (W : World) {n r1 r2 : Int} (h : skinR (mo 150) n = ((r1, r2), 0)) :
    Calls Try.prog 29 #[.agg #[.int .i64 2, .int .i64 500, .int .i64 800, .int .i64 800, .int .i64 200, .int .i64 300, .int .i64 540, .int .i64 100, .int .i64 1, .int .i64 250, .int .i64 1, .int .i64 150], .int .i64 n] W fun e w' => e = .returned (.tuple #[.agg #[.int .i64 r1, .int .i64 r2], .int .i64 0]) ∧ Below W.heap.size W w' := by
  refine (mskin_any (mo 150) n W).mono ?_
  rw [h]
  exact fun e w' h => h
theorem kn_holl {W : World} {A : Option Addr} {l : List Int} {x1 x2 x3 x4 f : Int} {c : Nat} (hp : IntsIn W A l) (h : hollR (mo 150) l = (((x1, x2), (x3, x4)), f)) :
    Calls Try.prog 31 #[.agg #[.int .i64 2, .int .i64 500, .int .i64 800, .int .i64 800, .int .i64 200, .int .i64 300, .int .i64 540, .int .i64 100, .int .i64 1, .int .i64 250, .int .i64 1, .int .i64 150], .slice A l.length c] W fun e w' => e = .returned (.tuple #[.agg #[.int .i64 x1, .int .i64 x2, .int .i64 x3, .int .i64 x4], .int .i64 f]) ∧ Below W.heap.size W w' := by
  refine (hollow_any (c := c) (mo 150) hp).mono ?_
  rw [h]
  exact fun e w' h => h
theorem kn_few (W : World) :
    Calls Try.prog 33 #[.agg #[.int .i64 2, .int .i64 500, .int .i64 800, .int .i64 800, .int .i64 200, .int .i64 300, .int .i64 540, .int .i64 100, .int .i64 1, .int .i64 250, .int .i64 1, .int .i64 400]] W fun e w' => ∃ A c, e = .returned (.tuple #[.slice A 0 c, .int .i64 0]) ∧ Below W.heap.size W w' := by
  refine (fewest_any (mo 400) W).mono ?_
  rw [kv_few]
  rintro e w' ⟨v, rfl, hv, hb⟩
  obtain ⟨A, c, rfl, hi⟩ := hv.in_
  exact ⟨A, c, rfl, hb⟩
/-- What the loop over the examples reads. -/
structure KnB (w : World) (A1 A2 : Option Addr) (N W0 E : Nat) (W : World) : Prop where
  b : Below w.heap.size w W
  a1 : IntsIn W A1 [387, 500]
  a2 : SpansIn W A2 [(500, 550), (800, 800)]
  mi : Blk W N 3 #[.int .i64 0, .int .i64 2, .int .i64 3]
  wa : Blk W W0 23 #[.int .i64 0, .int .i64 0, .int .i64 0, .int .i64 1, .int .i64 1, .int .i64 1]
  p2 : Blk W (W0 + 1) 3 #[.int .i64 2]
  p3 : Blk W (W0 + 1 + 1) 3 #[.int .i64 3]
  pl : Blk W (W0 + 1 + 1 + 1) 26 #[.slice none 0 0, .slice (some ⟨W0 + 1, 0, none⟩) 1 1, .slice (some ⟨W0 + 1 + 1, 0, none⟩) 1 1]
  en : Blk W E 45 #[.int .i64 400, .int .i64 400, .int .i64 0, .int .i64 0, .int .i64 150, .int .i64 400, .int .i64 0, .int .i64 250, .int .i64 150, .int .i64 150, .int .i64 250, .int .i64 250]
theorem KnB.on {w W W' : World} {A1 A2 : Option Addr} {N W0 E : Nat} (h : KnB w A1 A2 N W0 E W) (hb : Below W.heap.size W W') : KnB w A1 A2 N W0 E W' :=
  ⟨h.b.trans (hb.mono h.b.size), h.a1.on hb, h.a2.on hb, h.mi.on hb, h.wa.on hb, h.p2.on hb, h.p3.on hb, h.pl.on hb, h.en.on hb⟩

end Go.Proofs.Ytljbjcnfkbmjkaa
