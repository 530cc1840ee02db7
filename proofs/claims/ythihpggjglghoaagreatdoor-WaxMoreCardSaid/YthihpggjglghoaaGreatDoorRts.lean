/- wax.readTable: where it stops. -/
import Derived.Test.YthihpggjglghoaaGreatDoorRtc
namespace Go.Proofs.YthihpggjglghoaaGreatDoor
open Go.RowKit Go.Shelf

theorem rdr_start {w : World} (hB : Base w) (s : ByteArray) (hs : s.size ≤ 100000000) :
    Rdr w (((w.alloc (.cells #[.slice none 0 0, .slice none 0 0, .int .i64 0] 25)).alloc (.cells #[.bool false] 4)).alloc (.cells #[.string s, .slice none 0 0] 98)) (w.heap.size + 1 + 1) 0 s [] :=
  ⟨hB, by omega, (((Below.refl _ w).alloc (Nat.le_refl _) _).alloc (by simp) _).alloc (by simp; omega) _, ⟨none, 0, Blk.new2 w _ _ _ _, fun h => by simp at h, by simp⟩, by simp, Nat.zero_le _, hs, fun x hx => by simp at hx⟩
/-- The named results. -/
def Named (w W : World) (a b : Value) (n : Int) : Prop := Blk W w.heap.size 25 #[a, b, .int .i64 n] ∧ Blk W (w.heap.size + 1) 4 #[.bool false]
theorem named_start (w : World) (o : Obj) : Named w (((w.alloc (.cells #[.slice none 0 0, .slice none 0 0, .int .i64 0] 25)).alloc (.cells #[.bool false] 4)).alloc o) (.slice none 0 0) (.slice none 0 0) 0 :=
  ⟨((Blk.new w _ _).alloc _).alloc _, (Blk.new1 w _ _ _).alloc _⟩
theorem Named.far {w W W' : World} {a b : Value} {n : Int} (h : Named w W a b n) (hg : W.grownBy W' (some (w.heap.size + 1 + 1))) : Named w W' a b n :=
  ⟨h.1.far2 hg (fun j e => by cases e; omega), h.2.far2 hg (fun j e => by cases e; omega)⟩
/-- The closure has cleared the results: what is handed back. -/
theorem cleared_reads {w W : World} {a b : Value} {n : Int} (h : Named w W a b n) :
    Blk (cleared W w.heap.size (w.heap.size + 1)) w.heap.size 25 #[.slice none 0 0, .slice none 0 0, .int .i64 0] ∧ Blk (cleared W w.heap.size (w.heap.size + 1)) (w.heap.size + 1) 4 #[.bool false] := by
  constructor
  · have b1 := (((h.1.set_ 0 (.slice none 0 0)).set_ 1 (.slice none 0 0)).set_ 2 (.int .i64 0)).far (p := ⟨w.heap.size + 1, 0, none⟩) (by simp) (.bool false)
    simpa [cleared] using b1
  · have b2 := (((h.2.far (p := ⟨w.heap.size, 0, none⟩) (by simp) (.slice none 0 0)).far (p := ⟨w.heap.size, 1, none⟩) (by simp) (.slice none 0 0)).far (p := ⟨w.heap.size, 2, none⟩) (by simp) (.int .i64 0)).set_ 0 (.bool false)
    simpa [cleared] using b2
theorem cleared_below {w W : World} (h : Below w.heap.size w W) : Below w.heap.size w (cleared W w.heap.size (w.heap.size + 1)) :=
  (((h.setCell (p := ⟨w.heap.size, 0, none⟩) (Nat.le_refl _) _).setCell (p := ⟨w.heap.size, 1, none⟩) (Nat.le_refl _) _).setCell (p := ⟨w.heap.size, 2, none⟩) (Nat.le_refl _) _).setCell (p := ⟨w.heap.size + 1, 0, none⟩) (by simp) _

set_option maxRecDepth 100000 in
set_option maxHeartbeats 1000000 in
theorem readTable_tests {w : World} (hB : Base w) (s : ByteArray) (hs : s.size ≤ 100000000) (h1 : tstV s = none) :
    Calls Tryz.prog 22 #[.string s] w fun e w' => e = .returned (.tuple #[.agg #[.slice none 0 0, .slice none 0 0, .int .i64 0], .bool false]) ∧ Below w.heap.size w w' := by
  have hmf : ∀ (fn : Fn) (first cap : Array Value) (w : World), (Instr.makeFunc fn first cap).run Tryz.prog w = .ok (.func fn first cap) w := fun _ _ _ _ => rfl
  have HT := tests_any (rdr_start hB s hs)
  rw [h1] at HT
  have hbe := (rdr_start hB s hs).be
  have hn0 := named_start w (.cells #[.string s, .slice none 0 0] 98)
  have HT2 := Lib.hid HT
  clear HT
  go_enter_defers Tryz.func22, Tryz.ntmps22
  go_wp2_with fail
  refine HT2.out.mono ?_
  rintro e w1 ⟨rfl, hg⟩
  have hn1 := hn0.far hg
  have hb1 : Below w.heap.size w w1 := hbe.grown hg hbe.size (fun k e => by cases e; omega)
  clear hn0 hbe hg HT2
  go_wp2_with fail
  refine leaves_cons (f := 48) (args := #[.pointer (some ⟨w.heap.size, 0, none⟩), .pointer (some ⟨w.heap.size + 1, 0, none⟩)]) (by simp) (by simp [go_sem]) ?_
  refine (rtc_catch hn1.1 hn1.2 (by omega) _ _ []).mono ?_
  rintro e u' w'' ⟨rfl, rfl, rfl⟩
  obtain ⟨c1, c2⟩ := cleared_reads hn1
  obtain ⟨t0, t1, t2, _, _, _, _⟩ := c1.three
  obtain ⟨o0, _, _⟩ := c2.one
  have hfin := cleared_below hb1
  simp [Leaves, settle, results, Tryz.results22, go_sem, t0, t1, t2, o0, hfin]
end Go.Proofs.YthihpggjglghoaaGreatDoor
