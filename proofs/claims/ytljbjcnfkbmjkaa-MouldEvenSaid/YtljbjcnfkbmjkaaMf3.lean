/- MouldEven: the law. -/
import Derived.Test.YtljbjcnfkbmjkaaMeH
namespace Go.Proofs.Ytljbjcnfkbmjkaa
open Go.RowKit Go.Shelf Go.Maps
attribute [local go_sem] Oper.semAt_some

theorem warmR_bad {m : Md} (h : checkM m ≠ 0) (n : Int) : warmR m n = ([], checkM m) := if_pos h
theorem even_warm (m : Md) (v : Int) (e : Bool) (n : Nat) : warmL (widen m v v v v) e n = List.replicate (kR m) v := by
  have h1 : samP (widen m v v v v) e = List.replicate (kR m) v := by cases e <;> rfl
  have h2 : samW (widen m v v v v) e n = List.replicate n v := by cases e <;> rfl
  unfold warmL
  rw [h1, h2]
  exact afterL_even m.give v (kR m) n
theorem zip_rep (v : Int) : ∀ k : Nat, zipS (List.replicate k v) (List.replicate k v) = List.replicate k (v, v)
  | 0 => rfl
  | k + 1 => by rw [List.replicate_succ, List.replicate_succ, ← zip_rep v k]; rfl
theorem even_R {m : Md} {v n : Int} (h : checkM (widen m v v v v) = 0) (h0 : 0 ≤ n ∧ n ≤ 600) : warmR (widen m v v v v) n = (List.replicate (kR m) (v, v), 0) := by
  unfold warmR
  rw [if_neg (fun h2 => h2 h), if_pos (inB_iff.2 h0), even_warm, even_warm, zip_rep]
/-- The mould with one warmth, in its box. -/
theorem even_box {W : World} {B : Nat} {T : TypeId} {m : Md} (h : Blk W B T #[.int .i64 m.rings, .int .i64 m.give, .int .i64 m.plo, .int .i64 m.phi, .int .i64 m.wlo, .int .i64 m.whi, .int .i64 m.st, .int .i64 m.shrink, .int .i64 m.skin, .int .i64 m.fill, .int .i64 m.gap, .int .i64 m.deep]) (v : Int) : Blk ((((W.setCell ⟨B, 2, none⟩ (.int .i64 v)).setCell ⟨B, 3, none⟩ (.int .i64 v)).setCell ⟨B, 4, none⟩ (.int .i64 v)).setCell ⟨B, 5, none⟩ (.int .i64 v)) B T #[.int .i64 m.rings, .int .i64 m.give, .int .i64 v, .int .i64 v, .int .i64 v, .int .i64 v, .int .i64 m.st, .int .i64 m.shrink, .int .i64 m.skin, .int .i64 m.fill, .int .i64 m.gap, .int .i64 m.deep] :=
  (((h.set_ 2 (.int .i64 v)).set_ 3 (.int .i64 v)).set_ 4 (.int .i64 v)).set_ 5 (.int .i64 v)
/-- The box with one warmth, and where calls may go. -/
structure EvB (w : World) (m : Md) (v : Int) (W : World) : Prop where
  bk : Blk W w.heap.size 25 #[.int .i64 m.rings, .int .i64 m.give, .int .i64 v, .int .i64 v, .int .i64 v, .int .i64 v, .int .i64 m.st, .int .i64 m.shrink, .int .i64 m.skin, .int .i64 m.fill, .int .i64 m.gap, .int .i64 m.deep]
  b : Below w.heap.size w W
theorem EvB.on {w W W' : World} {m : Md} {v : Int} (h : EvB w m v W) (hb : Below W.heap.size W W') : EvB w m v W' := ⟨h.bk.on hb, h.b.trans (hb.mono h.b.size)⟩
theorem EvB.new {w W : World} {m : Md} (h : MdBk w w.heap.size 25 m W) (v : Int) : EvB w m v ((((W.setCell ⟨w.heap.size, 2, none⟩ (.int .i64 v)).setCell ⟨w.heap.size, 3, none⟩ (.int .i64 v)).setCell ⟨w.heap.size, 4, none⟩ (.int .i64 v)).setCell ⟨w.heap.size, 5, none⟩ (.int .i64 v)) :=
  ⟨even_box h.bk v, below_set (below_set (below_set (below_set h.b (Nat.le_refl _)) (Nat.le_refl _)) (Nat.le_refl _)) (Nat.le_refl _)⟩
set_option maxRecDepth 100000 in
set_option maxHeartbeats 4000000 in
theorem leven_any (m : Md) (x y : Int) (hx : 0 ≤ x ∧ x ≤ 65535) (hy : 0 ≤ y ∧ y ≤ 65535) (w : World) :
    Calls Try.prog 14 #[.agg #[.int .i64 m.rings, .int .i64 m.give, .int .i64 m.plo, .int .i64 m.phi, .int .i64 m.wlo, .int .i64 m.whi, .int .i64 m.st, .int .i64 m.shrink, .int .i64 m.skin, .int .i64 m.fill, .int .i64 m.gap, .int .i64 m.deep], .int .u16 x, .int .u16 y] w fun e w' => e = .returned (.bool true) ∧ Below w.heap.size w w' := by
  have HM := Lib.hid (MdBk.new w 25 m)
  have hv : 0 ≤ x % 2001 ∧ x % 2001 ≤ 2000 := by omega
  have hn : 0 ≤ y % 601 ∧ y % 601 ≤ 600 := by omega
  have HC := Lib.hid (show ∀ W, Calls Try.prog 19 #[.agg #[.int .i64 m.rings, .int .i64 m.give, .int .i64 (x % 2001), .int .i64 (x % 2001), .int .i64 (x % 2001), .int .i64 (x % 2001), .int .i64 m.st, .int .i64 m.shrink, .int .i64 m.skin, .int .i64 m.fill, .int .i64 m.gap, .int .i64 m.deep]] W fun e w' => e = .returned (.int .i64 (checkM (widen m (x % 2001) (x % 2001) (x % 2001) (x % 2001)))) ∧ Below W.heap.size W w' from fun W => rcheck_any (widen m (x % 2001) (x % 2001) (x % 2001) (x % 2001)) W)
  have HWm := Lib.hid (show ∀ W, Calls Try.prog 23 #[.agg #[.int .i64 m.rings, .int .i64 m.give, .int .i64 (x % 2001), .int .i64 (x % 2001), .int .i64 (x % 2001), .int .i64 (x % 2001), .int .i64 m.st, .int .i64 m.shrink, .int .i64 m.skin, .int .i64 m.fill, .int .i64 m.gap, .int .i64 m.deep], .int .i64 (y % 601)] W fun e w' => ∃ v, e = .returned (.tuple #[v, .int .i64 (warmR (widen m (x % 2001) (x % 2001) (x % 2001) (x % 2001)) (y % 601)).2]) ∧ SpansOut W.heap.size w' v (warmR (widen m (x % 2001) (x % 2001) (x % 2001) (x % 2001)) (y % 601)).1 ∧ Below W.heap.size W w' from fun W => mwarm_any (widen m (x % 2001) (x % 2001) (x % 2001) (x % 2001)) (y % 601) W)
  by_cases hck : checkM (widen m (x % 2001) (x % 2001) (x % 2001) (x % 2001)) = 0
  · rw [even_R hck hn] at HWm
    rw [hck] at HC
    have hok := checkM_ok.1 hck
    have hk := kR_eq hok.toMdIn
    have hk8 := kR_le hok.toMdIn
    have hk' : (kR m : Int) = m.rings := hk
    have hk8' : 1 ≤ kR m ∧ kR m ≤ 8 := hk8
    clear hk hk8 hok
    go_enter Try.func14, Try.ntmps14
    obtain ⟨c0, c1, c2, c3, c4, c5, c6, c7, c8, c9, c10, c11⟩ := HM.out.cells
    go_wp2_with (first
      | (go_at_call 36; (with_reducible refine (span_any _ _ _).mono ?_); rintro e wN ⟨rfl, hb⟩; have NEW := Lib.hid (HM.out.on hb); clear HM; have HM := NEW; clear NEW hb; clear c0 c1 c2 c3 c4 c5 c6 c7 c8 c9 c10 c11; obtain ⟨c0, c1, c2, c3, c4, c5, c6, c7, c8, c9, c10, c11⟩ := HM.out.cells; have hl := HM.out.bk.lt; have f2 := HM.out.bk.frozen 2; have f3 := HM.out.bk.frozen 3; have f4 := HM.out.bk.frozen 4; have f5 := HM.out.bk.frozen 5)
      | (go_at_call 23; (with_reducible refine (HWm.out _).mono ?_); rintro e w3 ⟨vv, rfl, hv3, hb⟩; have HE3 := Lib.hid ((EvB.new HM.out (x % 2001)).on hb); have HV3 := Lib.hid hv3; clear c0 c1 c2 c3 c4 c5 c6 c7 c8 c9 c10 c11; have c0 := HE3.out.bk.cell 0; have c1 := HE3.out.bk.cell 1; have c2 := HE3.out.bk.cell 2; have c3 := HE3.out.bk.cell 3; have c4 := HE3.out.bk.cell 4; have c5 := HE3.out.bk.cell 5; have c6 := HE3.out.bk.cell 6; have c7 := HE3.out.bk.cell 7; have c8 := HE3.out.bk.cell 8; have c9 := HE3.out.bk.cell 9; have c10 := HE3.out.bk.cell 10; have c11 := HE3.out.bk.cell 11; clear hv3 hb)
      | (go_at_call 19; (with_reducible refine (HC.out _).mono ?_); rintro e w4 ⟨rfl, hb⟩; have HE4 := Lib.hid (HE3.out.on hb); have HV4 := Lib.hid (own_below HV3.out hb); clear c0 c1 c2 c3 c4 c5 c6 c7 c8 c9 c10 c11; clear hb HE3 HV3)
      | fail)
    obtain ⟨A, c, rfl, hin⟩ := SpansOut.in_ HV4.out
    rw [List.length_replicate]
    have HI := Lib.hid hin
    clear hin HV4 HM HWm HC hl f2 f3 f4 f5
    have hne : ∀ W, (binOp .neq 23 (.agg #[.int .i64 (x % 2001), .int .i64 (x % 2001)]) (.agg #[.int .i64 (x % 2001), .int .i64 (x % 2001)])).run Try.prog W = .ok (.bool false) W := fun W => by
      have := span_neq (x % 2001, x % 2001) (x % 2001, x % 2001) W
      simpa using this
    generalize x % 2001 = v at *
    go_loopw [11] (fun i W => ∃ k : Nat, k ≤ kR m ∧ i = .int .i64 k ∧ Hid (EvB w m v W) ∧ Hid (SpansIn W A (List.replicate (kR m) (v, v)))) (fun i _ => kR m - (intOf i).toNat)
    case atStart => exact ⟨0, by omega, rfl, HE4, HI⟩
    case round =>
      obtain ⟨k, hk, rfl, HE, HS⟩ := hrel
      clear HE4 HI
      by_cases hlt : k < kR m
      · obtain ⟨bb, of, rfl, hbb, d0, d1⟩ := spans_at HS.out.at_ (show (List.replicate (kR m) (v, v))[k]? = some (v, v) by rw [List.getElem?_replicate, if_pos hlt])
        have LE := Lib.hid (HE.out.on (Below.refl _ _).drew)
        have LS := Lib.hid (HS.out.on (Below.refl _ _).drew)
        have LB := Lib.hid hbb
        go_wp2_with fail
        go_region_law (first
          | (go_simp; (with_reducible refine (span_any _ _ _).mono ?_); rintro e w6 ⟨rfl, hb6⟩; have LE6 := Lib.hid (LE.out.on hb6); have LS6 := Lib.hid (LS.out.on hb6); have g0 := kept_of hb6 _ _ d0; have g1 := kept_of hb6 _ _ d1; clear hb6)
          | fail)
        all_goals go_wp2_with fail
        all_goals go_roundw
        case rel => exact ⟨k + 1, by omega, by go_num, LE6, LS6⟩
        case measure => exact meas_one hlt
        case rel => exact ⟨k + 1, by omega, by go_num, LE6, LS6⟩
        case measure => exact meas_one hlt
      · obtain rfl : k = kR m := by omega
        have hn2 : ¬ ((kR m : Int) < (kR m : Int)) := by omega
        have c0 := HE.out.bk.cell 0
        have hl := HE.out.bk.lt
        rw [← hk'] at c0
        go_wp2_with (first
          | (go_at_call 26; refine (awake_any _).mono ?_; rintro e w5 ⟨rfl, hb⟩; have HE5 := Lib.hid (HE.out.on hb); clear hb)
          | fail)
        go_ret
        exact ⟨rfl, HE5.out.b⟩
  · rw [warmR_bad hck] at HWm
    have hz : (checkM (widen m (x % 2001) (x % 2001) (x % 2001) (x % 2001)) != 0) = true := by simpa using hck
    generalize checkM (widen m (x % 2001) (x % 2001) (x % 2001) (x % 2001)) = z at *
    go_enter Try.func14, Try.ntmps14
    obtain ⟨c0, c1, c2, c3, c4, c5, c6, c7, c8, c9, c10, c11⟩ := HM.out.cells
    go_wp2_with (first
      | (go_at_call 36; (with_reducible refine (span_any _ _ _).mono ?_); rintro e wN ⟨rfl, hb⟩; have NEW := Lib.hid (HM.out.on hb); clear HM; have HM := NEW; clear NEW hb; clear c0 c1 c2 c3 c4 c5 c6 c7 c8 c9 c10 c11; obtain ⟨c0, c1, c2, c3, c4, c5, c6, c7, c8, c9, c10, c11⟩ := HM.out.cells; have hl := HM.out.bk.lt; have f2 := HM.out.bk.frozen 2; have f3 := HM.out.bk.frozen 3; have f4 := HM.out.bk.frozen 4; have f5 := HM.out.bk.frozen 5)
      | (go_at_call 23; (with_reducible refine (HWm.out _).mono ?_); rintro e w3 ⟨vv, rfl, hv3, hb⟩; have HE3 := Lib.hid ((EvB.new HM.out (x % 2001)).on hb); obtain ⟨A, c, rfl, _⟩ := SpansOut.in_ hv3; clear c0 c1 c2 c3 c4 c5 c6 c7 c8 c9 c10 c11; have c0 := HE3.out.bk.cell 0; have c1 := HE3.out.bk.cell 1; have c2 := HE3.out.bk.cell 2; have c3 := HE3.out.bk.cell 3; have c4 := HE3.out.bk.cell 4; have c5 := HE3.out.bk.cell 5; have c6 := HE3.out.bk.cell 6; have c7 := HE3.out.bk.cell 7; have c8 := HE3.out.bk.cell 8; have c9 := HE3.out.bk.cell 9; have c10 := HE3.out.bk.cell 10; have c11 := HE3.out.bk.cell 11; clear hv3 hb)
      | (go_at_call 19; (with_reducible refine (HC.out _).mono ?_); rintro e w4 ⟨rfl, hb⟩; have HE4 := Lib.hid (HE3.out.on hb); clear c0 c1 c2 c3 c4 c5 c6 c7 c8 c9 c10 c11; clear hb HE3)
      | (go_at_call 26; refine (awake_any _).mono ?_; rintro e w5 ⟨rfl, hb⟩; have HE5 := Lib.hid (HE4.out.on hb); clear hb)
      | fail)
    go_ret
    exact ⟨rfl, HE5.out.b⟩
end Go.Proofs.Ytljbjcnfkbmjkaa
