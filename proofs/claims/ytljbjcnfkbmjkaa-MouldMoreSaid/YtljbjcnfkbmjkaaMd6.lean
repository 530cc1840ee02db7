/- mould.spans at settings: contract. -/
import Derived.Test.YtljbjcnfkbmjkaaMd5
import Derived.Test.YtljbjcnfkbmjkaaGb
namespace Go.Proofs.Ytljbjcnfkbmjkaa
open Go.RowKit Go.Shelf Go.Maps
attribute [local go_sem] Oper.semAt_some

theorem zip_take {o o2 : List Int} {k : Nat} {x y : Int} (h1 : o[k]? = some x) (h2 : o2[k]? = some y) : (zipS o o2).take (k + 1) = (zipS o o2).take k ++ [(x, y)] := by
  rw [List.take_add_one]
  unfold zipS
  rw [List.getElem?_zipWith, h1, h2]; rfl
theorem zip_length {o o2 : List Int} (h : o.length = o2.length) : (zipS o o2).length = o.length := by unfold zipS; rw [List.length_zipWith]; omega
/-- What lies in memory while the list of ranges grows. -/
structure SpI (w : World) (b c : Nat) (o o2 : List Int) (v : Value) (k : Nat) (W : World) : Prop where
  b0 : Blk W w.heap.size 106 #[.map (some b), .map (some c)]
  b1 : Blk W (w.heap.size + 1) 111 #[.func (.func 68) #[] #[]]
  own : SpansOut (w.heap.size + 1 + 1) W v ((zipS o o2).take k)
  m0 : MapAt W b o
  m1 : MapAt W c o2
  hb : b < w.heap.size
  hc : c < w.heap.size
  bw : Below w.heap.size w W
theorem spansOut_grown {B : Nat} {w w' : World} {v : Value} {l : List (Int × Int)} (h : SpansOut B w v l) (hb : Below w.heap.size w w') : SpansOut B w' v l := own_below h hb
theorem MapAt.lt {W : World} {b : Nat} {o : List Int} (h : MapAt W b o) : b < W.heap.size := by
  obtain ⟨D, ⟨es, clock, hh, _⟩, _⟩ := h
  exact (Array.getElem?_eq_some_iff.1 hh).1
theorem SpI.step {w W W2 W4 : World} {b c k : Nat} {o o2 : List Int} {v v' : Value} (h : SpI w b c o o2 v k W) (hb : Below W.heap.size W W2) (hg : W2.grownBy W4 v.ownBlock) (hb4 : Below (w.heap.size + 1 + 1) W2 W4) (hn : SpansOut (w.heap.size + 1 + 1) W4 v' ((zipS o o2).take (k + 1))) : SpI w b c o o2 v' (k + 1) W4 :=
  ⟨(h.b0.on hb).below hb4 (by omega), (h.b1.on hb).below hb4 (by omega), hn, (h.m0.on hb).grown hg (fun e => by have := (World.ownsRow.lt h.own _ e).1; have := h.hb; omega), (h.m1.on hb).grown hg (fun e => by have := (World.ownsRow.lt h.own _ e).1; have := h.hc; omega), h.hb, h.hc,
    (h.bw.trans (hb.mono h.bw.size)).trans (hb4.mono (by omega))⟩
set_option maxRecDepth 100000 in
set_option maxHeartbeats 1000000 in
theorem spans_any {w : World} {b c : Nat} {o o2 : List Int} {rings : Int} (hm : MapAt w b o) (hm2 : MapAt w c o2) (hrl : rings = (o.length : Int)) (hl8 : o.length ≤ 8) (hl2 : o.length = o2.length)
    (hx : ∀ x ∈ o, 0 ≤ x) (hy : ∀ y ∈ o2, 0 ≤ y) (hxy : ∀ (r : Nat) (x y : Int), o[r]? = some x → o2[r]? = some y → x ≤ y) :
    Calls Try.prog 67 #[.int .i64 rings, .agg #[.map (some b), .map (some c)], .func (.func 68) #[] #[]] w fun e w' => ∃ v, e = .returned v ∧ SpansOut w.heap.size w' v (zipS o o2) ∧ Below w.heap.size w w' := by
  have HX := Lib.hid hx
  have HY := Lib.hid hy
  have HXY := Lib.hid hxy
  have HL8 := Lib.hid hl8
  have HL2 := Lib.hid hl2
  have HI : Hid (SpI w b c o o2 (.slice none 0 0) 0 ((w.alloc (.cells #[.map (some b), .map (some c)] 106)).alloc (.cells #[.func (.func 68) #[] #[]] 111))) := by
    have hb0 : Below w.heap.size w ((w.alloc (.cells #[.map (some b), .map (some c)] 106)).alloc (.cells #[.func (.func 68) #[] #[]] 111)) := ((Below.refl _ w).alloc (Nat.le_refl _) _).alloc (by simp) _
    exact ⟨(Blk.new w _ _).alloc _, Blk.new1 w _ _ _, by simpa using SpansOut.nil _ _, hm.on hb0, hm2.on hb0, hm.lt, hm2.lt, hb0⟩
  subst hrl
  clear hm hm2 hx hy hxy hl8 hl2
  go_enter Try.func67, Try.ntmps67
  go_wp2_with fail
  go_loopw [7, 10] (fun v i W => ∃ k : Nat, k ≤ o.length ∧ i = .int .i64 k ∧ Hid (SpI w b c o o2 v k W)) (fun _ i _ => o.length - (intOf i).toNat)
  case atStart => exact ⟨0, Nat.zero_le _, rfl, HI⟩
  case round =>
    obtain ⟨k, hk, rfl, HS⟩ := hrel
    by_cases hlt : k < o.length
    · have hk8 : k < 8 := by have := HL8.out; omega
      obtain ⟨x, hxk⟩ : ∃ x, o[k]? = some x := ⟨o[k], List.getElem?_eq_getElem hlt⟩
      obtain ⟨y, hyk⟩ : ∃ y, o2[k]? = some y := ⟨o2[k]'(by rw [← HL2.out]; exact hlt), List.getElem?_eq_getElem _⟩
      have HXK := Lib.hid hxk
      have HYK := Lib.hid hyk
      have hz0 := HS.out.b0.lt
      have hz1 := HS.out.b1.lt
      have c0 := HS.out.b0.cell 0
      have c1 := HS.out.b0.cell 1
      have c2 := HS.out.b1.cell 0
      have hb1 : Below wr.heap.size wr (wr.alloc (.cells #[.int .i64 (k : Int)] 3)) := (Below.refl _ wr).alloc (Nat.le_refl _) _
      have HC := Lib.hid (spanS_any (w := wr.alloc (.cells #[.int .i64 (k : Int)] 3)) (B8 := wr.heap.size) (HS.out.m0.on hb1) (HS.out.m1.on hb1) hxk hyk (HX.out x (List.mem_of_getElem? hxk)) (HY.out y (List.mem_of_getElem? hyk)) hk8 (HXY.out k x y hxk hyk) ((HS.out.b1.on hb1).cell 0) ((Blk.new wr _ _).cell 0))
      clear hxk hyk hb1
      go_wp2_with (first
        | (go_at_call 70; refine HC.out.mono ?_; rintro e w2 ⟨rfl, hb2⟩; have HB2 := Lib.hid (((Below.refl _ wr).alloc (Nat.le_refl _) _).trans (hb2.mono (by simp))); clear hb2)
        | (at_builtin; go_must (refine apps_list rfl _ _ rfl (l := (zipS o o2).take k) rfl (spansOut_grown HS.out.own (HB2.out.alloc HB2.out.size _)) x y rfl (Blk.new _ _ _) (Nat.lt_of_le_of_lt (List.length_take_le _ _) (by omega)) (by simp; have := HB2.out.size; omega) ?_); intro g cap w4 h1 h2 h3 h4)
        | fail)
      have hlen : ((zipS o o2).take k).length = k := by rw [List.length_take, zip_length HL2.out]; omega
      have hmin : min k (zipS o o2).length = k := by rw [zip_length HL2.out]; omega
      rw [hlen] at h1
      rw [← zip_take HXK.out HYK.out] at h1
      try rw [hmin]
      have HN := Lib.hid (HS.out.step (HB2.out.alloc HB2.out.size _) h3 h2 h1)
      clear h1 h2 h3 h4
      go_wp2_with fail
      go_roundw
      case rel => exact ⟨k + 1, Nat.succ_le_of_lt hlt, by go_num, HN⟩
      case measure => exact meas_one hlt
    · obtain rfl : k = o.length := Nat.le_antisymm hk (Nat.le_of_not_lt hlt)
      have hn2 : ¬ ((o.length : Int) < (o.length : Int)) := by omega
      go_wp2_with fail
      have h1 := HS.out.own
      rw [List.take_of_length_le (by rw [zip_length HL2.out]; omega)] at h1
      go_ret
      exact ⟨_, rfl, own_base h1 (by omega), HS.out.bw⟩
end Go.Proofs.Ytljbjcnfkbmjkaa
