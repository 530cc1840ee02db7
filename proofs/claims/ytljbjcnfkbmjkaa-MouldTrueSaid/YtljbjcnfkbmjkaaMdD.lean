/- mould.spans at warmths: contract. -/
import Derived.Test.YtljbjcnfkbmjkaaMdC
namespace Go.Proofs.Ytljbjcnfkbmjkaa
open Go.RowKit Go.Shelf Go.Maps
attribute [local go_sem] Oper.semAt_some

/-- What lies in memory while the list of ranges grows. -/
structure SpW (w : World) (l l2 : List Int) (v : Value) (k : Nat) (W : World) : Prop where
  b0 : W16 W w.heap.size (la l) (la l2)
  b1 : Blk W (w.heap.size + 1) 102 #[.func (.func 63) #[] #[]]
  own : SpansOut (w.heap.size + 1 + 1) W v ((zipS l l2).take k)
  bw : Below w.heap.size w W
theorem SpW.step {w W W2 W4 : World} {k : Nat} {l l2 : List Int} {v v' : Value} (h : SpW w l l2 v k W) (hb : Below W.heap.size W W2) (hb4 : Below (w.heap.size + 1 + 1) W2 W4) (hn : SpansOut (w.heap.size + 1 + 1) W4 v' ((zipS l l2).take (k + 1))) : SpW w l l2 v' (k + 1) W4 :=
  ⟨⟨(h.b0.bk.on hb).below hb4 (by omega)⟩, (h.b1.on hb).below hb4 (by omega), hn, (h.bw.trans (hb.mono h.bw.size)).trans (hb4.mono (by omega))⟩
set_option maxRecDepth 100000 in
set_option maxHeartbeats 2000000 in
theorem spansW_any {w : World} {l l2 : List Int} {rings : Int} (hrl : rings = (l.length : Int)) (hl8 : l.length ≤ 8) (hl2 : l.length = l2.length) (hxy : ∀ r, r < l.length → la l r ≤ la l2 r) :
    Calls Try.prog 62 #[.int .i64 rings, .agg #[.int .i64 (la l 0), .int .i64 (la l 1), .int .i64 (la l 2), .int .i64 (la l 3), .int .i64 (la l 4), .int .i64 (la l 5), .int .i64 (la l 6), .int .i64 (la l 7), .int .i64 (la l2 0), .int .i64 (la l2 1), .int .i64 (la l2 2), .int .i64 (la l2 3), .int .i64 (la l2 4), .int .i64 (la l2 5), .int .i64 (la l2 6), .int .i64 (la l2 7)], .func (.func 63) #[] #[]] w fun e w' => ∃ v, e = .returned v ∧ SpansOut w.heap.size w' v (zipS l l2) ∧ Below w.heap.size w w' := by
  have HXY := Lib.hid hxy
  have HL8 := Lib.hid hl8
  have HL2 := Lib.hid hl2
  have HI : Hid (SpW w l l2 (.slice none 0 0) 0 ((w.alloc (.cells #[.int .i64 (la l 0), .int .i64 (la l 1), .int .i64 (la l 2), .int .i64 (la l 3), .int .i64 (la l 4), .int .i64 (la l 5), .int .i64 (la l 6), .int .i64 (la l 7), .int .i64 (la l2 0), .int .i64 (la l2 1), .int .i64 (la l2 2), .int .i64 (la l2 3), .int .i64 (la l2 4), .int .i64 (la l2 5), .int .i64 (la l2 6), .int .i64 (la l2 7)] 95)).alloc (.cells #[.func (.func 63) #[] #[]] 102))) :=
    ⟨⟨(Blk.new w _ _).alloc _⟩, Blk.new1 w _ _ _, by simpa using SpansOut.nil _ _, ((Below.refl _ w).alloc (Nat.le_refl _) _).alloc (by simp) _⟩
  subst hrl
  clear hxy hl8 hl2
  go_enter Try.func62, Try.ntmps62
  go_wp2_with fail
  go_loopw [7, 10] (fun v i W => ∃ k : Nat, k ≤ l.length ∧ i = .int .i64 k ∧ Hid (SpW w l l2 v k W)) (fun _ i _ => l.length - (intOf i).toNat)
  case atStart => exact ⟨0, Nat.zero_le _, rfl, HI⟩
  case round =>
    obtain ⟨k, hk, rfl, HS⟩ := hrel
    by_cases hlt : k < l.length
    · have hk8 : k < 8 := by have := HL8.out; omega
      have hxk := la_get hlt
      have hyk := la_get (l := l2) (k := k) (by rw [← HL2.out]; exact hlt)
      have HXK := Lib.hid hxk
      have HYK := Lib.hid hyk
      have hz0 := HS.out.b0.bk.lt
      have hz1 := HS.out.b1.lt
      obtain ⟨y0, y1, y2, y3, y4, y5, y6, y7, y8, y9, y10, y11, y12, y13, y14, y15⟩ := HS.out.b0.cells
      have c2 := HS.out.b1.cell 0
      have hb1 : Below wr.heap.size wr (wr.alloc (.cells #[.int .i64 (k : Int)] 3)) := (Below.refl _ wr).alloc (Nat.le_refl _) _
      have HC := Lib.hid (spanW_any (w := wr.alloc (.cells #[.int .i64 (k : Int)] 3)) (B8 := wr.heap.size) (la l) (la l2) hk8 (HXY.out k hlt) (HS.out.b1.on hb1) (Blk.new wr _ _))
      clear hxk hyk hb1
      go_wp2_with (first
        | (go_at_call 88; refine HC.out.mono ?_; rintro e w2 ⟨rfl, hb2⟩; have HB2 := Lib.hid (((Below.refl _ wr).alloc (Nat.le_refl _) _).trans (hb2.mono (by simp))); clear hb2)
        | (at_builtin; go_must (refine apps_list rfl _ _ rfl (l := (zipS l l2).take k) rfl (spansOut_grown HS.out.own (HB2.out.alloc HB2.out.size _)) (la l k) (la l2 k) rfl (Blk.new _ _ _) (Nat.lt_of_le_of_lt (List.length_take_le _ _) (by omega)) (by simp; have := HB2.out.size; omega) ?_); intro g cap w4 h1 h2 h3 h4)
        | fail)
      have hlen : ((zipS l l2).take k).length = k := by rw [List.length_take, zip_length HL2.out]; omega
      have hmin : min k (zipS l l2).length = k := by rw [zip_length HL2.out]; omega
      rw [hlen] at h1
      rw [← zip_take HXK.out HYK.out] at h1
      try rw [hmin]
      have HN := Lib.hid (HS.out.step (HB2.out.alloc HB2.out.size _) h2 h1)
      clear h1 h2 h3 h4
      go_wp2_with fail
      go_roundw
      case rel => exact ⟨k + 1, Nat.succ_le_of_lt hlt, by go_num, HN⟩
      case measure => exact meas_one hlt
    · obtain rfl : k = l.length := Nat.le_antisymm hk (Nat.le_of_not_lt hlt)
      have hn2 : ¬ ((l.length : Int) < (l.length : Int)) := by omega
      go_wp2_with fail
      have h1 := HS.out.own
      rw [List.take_of_length_le (by rw [zip_length HL2.out]; omega)] at h1
      go_ret
      exact ⟨_, rfl, own_base h1 (by omega), HS.out.bw⟩
end Go.Proofs.Ytljbjcnfkbmjkaa
