/- wax.readTable: where purity stops. -/
import Derived.Test.YthihpggjglghoaaGreatDoorRts
namespace Go.Proofs.YthihpggjglghoaaGreatDoor
open Go.RowKit Go.Shelf

theorem own_slice {B : Nat} {e : TypeId} {size n : Nat} {v : Value} {xs : List Value} {w : World} (h : w.ownsRow B e size v n xs) : ∃ A c, v = .slice A n c := by
  rcases h.2 with ⟨h2, h3⟩ | ⟨g, cap, cur, hv, _⟩
  · exact ⟨none, 0, by rw [h2, h3]⟩
  · exact ⟨_, _, hv⟩
/-- The reader's state where a block of the call's own has turned that is not the reader's and lies above the words. -/
theorem Rdr.far0 {w0 w w' : World} {RB UB : Nat} {rest : ByteArray} {ws : List ByteArray} {row : Option Nat} (h : Rdr w0 w RB UB rest ws) (hg : w.grownBy w' row) (hr : ∀ j, row = some j → UB ≤ j ∧ j ≠ RB ∧ w0.heap.size ≤ j) : Rdr w0 w' RB UB rest ws := by
  obtain ⟨A, c, hB, hA, hc⟩ := h.at_
  refine ⟨h.bs, h.lo, h.be.grown hg h.be.size (fun k e => (hr k e).2.2), ⟨A, c, (hg.block RB hB.lt (fun e => (hr _ e.symm).2.1 rfl)).trans hB, fun hp => ?_, hc⟩, h.len, Nat.le_trans h.ub hg.size, h.siz⟩
  obtain ⟨b, o, hAe, hne, hlt, hcl⟩ := hA hp
  exact ⟨b, o, hAe, hne, hlt, fun i x hx => (hg.cell_far ⟨b, o + i, none⟩ (Nat.lt_of_lt_of_le hlt h.ub) (fun e => by have h9 : UB ≤ b := (hr _ e.symm).1; omega)).trans (hcl i x hx)⟩
theorem Named.set0 {w W : World} {a b : Value} {n : Int} (h : Named w W a b n) (v : Value) : Named w (W.setCell ⟨w.heap.size, 0, none⟩ v) v b n :=
  ⟨by have := h.1.set_ 0 v; simpa using this, h.2.far (p := ⟨w.heap.size, 0, none⟩) (by simp) v⟩

set_option maxRecDepth 100000 in
set_option maxHeartbeats 1000000 in
theorem readTable_pur {w : World} (hB : Base w) (s : ByteArray) (hs : s.size ≤ 100000000) {l : List Pr} {cr : ByteArray} (h1 : tstV s = some (l, cr, [])) (h2 : purV cr = none) :
    Calls Tryz.prog 22 #[.string s] w fun e w' => e = .returned (.tuple #[.agg #[.slice none 0 0, .slice none 0 0, .int .i64 0], .bool false]) ∧ Below w.heap.size w w' := by
  have hmf : ∀ (fn : Fn) (first cap : Array Value) (w : World), (Instr.makeFunc fn first cap).run Tryz.prog w = .ok (.func fn first cap) w := fun _ _ _ _ => rfl
  have HT := tests_any (rdr_start hB s hs)
  rw [h1] at HT
  have hbe := (rdr_start hB s hs).be
  have hn0 := named_start w (.cells #[.string s, .slice none 0 0] 98)
  have HT2 := Lib.hid HT
  clear HT h1
  go_enter_defers Tryz.func22, Tryz.ntmps22
  go_wp2_with fail
  refine HT2.out.mono ?_
  rintro e w1 ⟨v, UB, rfl, hv, hg, hr⟩
  obtain ⟨A, c, rfl⟩ := own_slice hv
  have hn1 := hn0.far hg
  have hn2 := hn1.set0 (.slice A l.length c)
  have hr2 := hr.low.far0 (grown_set w1 w.heap.size 0 (.slice A l.length c)) (fun j e => by cases e; exact ⟨Nat.zero_le _, by omega, Nat.le_refl _⟩)
  have HP := purity_any hr2
  rw [h2] at HP
  have HP2 := Lib.hid HP
  obtain ⟨t0, t1, t2, t3, t4, t5, t6⟩ := hn1.1.three
  have hb2 := hr2.be
  have HN2 := Lib.hid hn2
  clear hn0 hbe hg HT2 hv hr hr2 HP hn1 hn2
  go_wp2_with fail
  refine HP2.out.mono ?_
  rintro e w2 ⟨rfl, hg2⟩
  have hn3 := HN2.out.far hg2
  have hb3 : Below w.heap.size w w2 := hb2.grown hg2 hb2.size (fun k e => by cases e; omega)
  clear HP2 hg2 hb2 HN2 t0 t1 t2 t3 t4 t5 t6
  go_wp2_with fail
  refine leaves_cons (f := 48) (args := #[.pointer (some ⟨w.heap.size, 0, none⟩), .pointer (some ⟨w.heap.size + 1, 0, none⟩)]) (by simp) (by simp [go_sem]) ?_
  refine (rtc_catch hn3.1 hn3.2 (by omega) _ _ []).mono ?_
  rintro e u' w'' ⟨rfl, rfl, rfl⟩
  obtain ⟨c1, c2⟩ := cleared_reads hn3
  obtain ⟨t0, t1, t2, _, _, _, _⟩ := c1.three
  obtain ⟨o0, _, _⟩ := c2.one
  have hfin := cleared_below hb3
  simp [Leaves, settle, results, Tryz.results22, go_sem, t0, t1, t2, o0, hfin]
end Go.Proofs.YthihpggjglghoaaGreatDoor
