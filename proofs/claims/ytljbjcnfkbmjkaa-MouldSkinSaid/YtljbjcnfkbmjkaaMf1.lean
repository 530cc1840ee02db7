/- MouldSkin: the law. -/
import Derived.Test.YtljbjcnfkbmjkaaMeH
namespace Go.Proofs.Ytljbjcnfkbmjkaa
open Go.RowKit Go.Shelf Go.Maps
attribute [local go_sem] Oper.semAt_some

theorem skinR_bad {m : Md} (h : checkM m ≠ 0) (n : Int) : skinR m n = ((0, 0), checkM m) := if_pos h
theorem skinR_good {m : Md} (h : checkM m = 0) {a b : List Int} (ha : wh m false = a) (hb : wh m true = b) {n : Int} (h0 : 0 ≤ n) (h1 : n ≤ 600) : skinR m n = ((setN b n, setN a n), 0) := by
  unfold skinR
  rw [if_neg (fun h2 => h2 h), if_pos (inB_iff.2 ⟨h0, h1⟩), ha, hb]
/-- What lies in memory: the mould, and both results. -/
structure LsB (w : World) (m : Md) (K J : Nat) (p0 p1 q0 q1 : Int) (W : World) : Prop where
  bm : MdBk w w.heap.size 25 m W
  bk : Blk W K 23 #[.int .i64 p0, .int .i64 p1]
  bj : Blk W J 23 #[.int .i64 q0, .int .i64 q1]
theorem LsB.on {w W W' : World} {m : Md} {K J : Nat} {p0 p1 q0 q1 : Int} (h : LsB w m K J p0 p1 q0 q1 W) (hb : Below W.heap.size W W') : LsB w m K J p0 p1 q0 q1 W' := ⟨h.bm.on hb, h.bk.on hb, h.bj.on hb⟩
theorem LsB.drew {w W : World} {m : Md} {K J : Nat} {p0 p1 q0 q1 : Int} (h : LsB w m K J p0 p1 q0 q1 W) : LsB w m K J p0 p1 q0 q1 W.drew := h.on (Below.refl _ _).drew
theorem LsB.held {w W : World} {m : Md} {K J : Nat} {p0 p1 q0 q1 : Int} (h : LsB w m K J p0 p1 q0 q1 W) : W.cell? ⟨K, 0, none⟩ = some (.int .i64 p0) ∧ W.cell? ⟨K, 1, none⟩ = some (.int .i64 p1) ∧ LsB w m K J p0 p1 q0 q1 W := ⟨h.bk.cell 0, h.bk.cell 1, h⟩
set_option maxRecDepth 100000 in
set_option maxHeartbeats 4000000 in
theorem lskin_any (m : Md) (x : Int) (hx : 0 ≤ x ∧ x ≤ 65535) (w : World) :
    Calls Try.prog 17 #[.agg #[.int .i64 m.rings, .int .i64 m.give, .int .i64 m.plo, .int .i64 m.phi, .int .i64 m.wlo, .int .i64 m.whi, .int .i64 m.st, .int .i64 m.shrink, .int .i64 m.skin, .int .i64 m.fill, .int .i64 m.gap, .int .i64 m.deep], .int .u16 x] w fun e w' => e = .returned (.bool true) ∧ Below w.heap.size w w' := by
  have HM := Lib.hid (MdBk.new w 25 m)
  by_cases hck : checkM m = 0
  · obtain ⟨a, ha⟩ : ∃ a, wh m false = a := ⟨_, rfl⟩
    obtain ⟨b, hb⟩ : ∃ b, wh m true = b := ⟨_, rfl⟩
    have hok := checkM_ok.1 hck
    have hla : a.length = kR m := by rw [← ha, wh_length]
    have hlb : b.length = kR m := by rw [← hb, wh_length]
    have HW := Lib.hid (wh_ab hok ha hb)
    have HS := Lib.hid (fun (n : Int) (h0 : 0 ≤ n) (h1 : n ≤ 600) => skinR_good hck ha hb h0 h1)
    have hn : 0 ≤ x % 600 ∧ x % 600 ≤ 599 := by omega
    have HS1 := Lib.hid (fun (W : World) => mskin_any m (x % 600) W)
    rw [HS.out (x % 600) (by omega) (by omega)] at HS1
    have HS2 := Lib.hid (fun (W : World) => mskin_any m (x % 600 + 1) W)
    rw [HS.out (x % 600 + 1) (by omega) (by omega)] at HS2
    have HC := Lib.hid (fun W => rcheck_any m W)
    rw [hck] at HC
    have k1 : setN b (x % 600) ≤ setN b (x % 600 + 1) := setN_mono Wle.refl (by omega)
    have k2 : setN a (x % 600) ≤ setN a (x % 600 + 1) := setN_mono Wle.refl (by omega)
    have k3 : setN b (x % 600) ≤ setN a (x % 600) := setN_mono HW.out (Int.le_refl _)
    have k4 := setN_len b (x % 600)
    have k5 := setN_len a (x % 600 + 1)
    have k6 := kR_eq hok.toMdIn
    have k7 : setN a (x % 600 + 1) ≤ m.rings := by omega
    have k8 : 0 ≤ setN b (x % 600) := k4.1
    generalize setN b (x % 600) = p0 at *
    generalize setN a (x % 600) = p1 at *
    generalize setN b (x % 600 + 1) = q0 at *
    generalize setN a (x % 600 + 1) = q1 at *
    clear k4 k5 k6 HS HW hla hlb hok
    have hw1 : IntKind.i64.wrap (x % 600 + 1) = x % 600 + 1 := IntWalk.i64_in _ (by omega)
    go_enter Try.func17, Try.ntmps17
    obtain ⟨c0, c1, c2, c3, c4, c5, c6, c7, c8, c9, c10, c11⟩ := HM.out.cells
    go_wp2_with (first
      | (go_at_call 29; (with_reducible refine (HS1.out _).mono ?_); rintro e w1 ⟨rfl, hb1⟩; have HM1 := Lib.hid (HM.out.on hb1); have hv1 := HM1.out.bk.lt; clear c0 c1 c2 c3 c4 c5 c6 c7 c8 c9 c10 c11; obtain ⟨c0, c1, c2, c3, c4, c5, c6, c7, c8, c9, c10, c11⟩ := HM1.out.cells; clear hb1)
      | (go_at_call 29; (with_reducible refine (HS2.out _).mono ?_); rintro e w2 ⟨rfl, hb2⟩; have HB1 := Lib.hid ((Below.refl _ w1).alloc (Nat.le_refl _) (.cells #[.int .i64 p0, .int .i64 p1] 23)); have HM2 := Lib.hid ((HM1.out.on HB1.out).on hb2); have HK2 := Lib.hid ((Blk.new w1 23 #[.int .i64 p0, .int .i64 p1]).on hb2); have hv2 := HM2.out.bk.lt; clear c0 c1 c2 c3 c4 c5 c6 c7 c8 c9 c10 c11; obtain ⟨c0, c1, c2, c3, c4, c5, c6, c7, c8, c9, c10, c11⟩ := HM2.out.cells; clear hb2)
      | (go_at_call 19; (with_reducible refine (HC.out _).mono ?_); rintro e w3 ⟨rfl, hb3⟩; have HB2 := Lib.hid ((Below.refl _ w2).alloc (Nat.le_refl _) (.cells #[.int .i64 q0, .int .i64 q1] 23)); have HL3 : Hid (LsB w m w1.heap.size w2.heap.size p0 p1 q0 q1 w3) := ⟨(HM2.out.on HB2.out).on hb3, (HK2.out.on HB2.out).on hb3, (Blk.new w2 _ _).on hb3⟩; clear c0 c1 c2 c3 c4 c5 c6 c7 c8 c9 c10 c11; have c0 := HL3.out.bm.bk.cell 0; have d0 := HL3.out.bk.cell 0; have d1 := HL3.out.bk.cell 1; have d2 := HL3.out.bj.cell 0; have d3 := HL3.out.bj.cell 1; clear hb3)
      | fail)
    refine (awake_any _).mono ?_
    rintro e w4 ⟨rfl, hb4⟩
    have HB4 := Lib.hid (HL3.out.bm.b.trans (hb4.mono HL3.out.bm.b.size))
    clear hb4
    go_wp2_with fail
    go_ret
    exact ⟨rfl, HB4.out⟩
  · have HC := Lib.hid (fun W => rcheck_any m W)
    have HS := Lib.hid (fun (n : Int) (W : World) => mskin_any m n W)
    simp only [skinR_bad hck] at HS
    have hz : (checkM m != 0) = true := by simpa using hck
    have hz2 : (checkM m == checkM m) = true := by simp
    generalize checkM m = z at *
    have e1 : ∀ W, (binOp .eql 23 (.agg #[.int .i64 0, .int .i64 0]) (.agg #[.int .i64 0, .int .i64 0])).run Try.prog W = .ok (.bool true) W := fun _ => by kernel_rfl
    go_enter Try.func17, Try.ntmps17
    obtain ⟨c0, c1, c2, c3, c4, c5, c6, c7, c8, c9, c10, c11⟩ := HM.out.cells
    go_wp2_with (first
      | (go_at_call 29; (with_reducible refine (HS.out (x % 600) _).mono ?_); rintro e w1 ⟨rfl, hb1⟩; have HM1 := Lib.hid (HM.out.on hb1); have hv1 := HM1.out.bk.lt; clear c0 c1 c2 c3 c4 c5 c6 c7 c8 c9 c10 c11; obtain ⟨c0, c1, c2, c3, c4, c5, c6, c7, c8, c9, c10, c11⟩ := HM1.out.cells; clear hb1)
      | (go_at_call 29; (with_reducible refine (HS.out _ _).mono ?_); rintro e w2 ⟨rfl, hb2⟩; have HB1 := Lib.hid ((Below.refl _ w1).alloc (Nat.le_refl _) (.cells #[.int .i64 0, .int .i64 0] 23)); have HM2 := Lib.hid ((HM1.out.on HB1.out).on hb2); have HK2 := Lib.hid ((Blk.new w1 23 #[.int .i64 0, .int .i64 0]).on hb2); have hv2 := HM2.out.bk.lt; clear c0 c1 c2 c3 c4 c5 c6 c7 c8 c9 c10 c11; obtain ⟨c0, c1, c2, c3, c4, c5, c6, c7, c8, c9, c10, c11⟩ := HM2.out.cells; clear hb2)
      | (go_at_call 19; (with_reducible refine (HC.out _).mono ?_); rintro e w3 ⟨rfl, hb3⟩; have HB2 := Lib.hid ((Below.refl _ w2).alloc (Nat.le_refl _) (.cells #[.int .i64 0, .int .i64 0] 23)); have HL3 : Hid (LsB w m w1.heap.size w2.heap.size 0 0 0 0 w3) := ⟨(HM2.out.on HB2.out).on hb3, (HK2.out.on HB2.out).on hb3, (Blk.new w2 _ _).on hb3⟩; clear c0 c1 c2 c3 c4 c5 c6 c7 c8 c9 c10 c11; clear hb3)
      | fail)
    have hI := HL3.out.drew
    go_region_held3 (fun w' => w'.cell? ⟨w1.heap.size, 0, none⟩ = some (.int .i64 0) ∧ w'.cell? ⟨w1.heap.size, 1, none⟩ = some (.int .i64 0) ∧ LsB w m w1.heap.size w2.heap.size 0 0 0 0 w')
      ((refine LsB.held ?_; first | assumption | (go_split_ands; assumption) | (go_split_ands; refine LsB.on ?_ hbN; assumption)))
      (first
        | (go_at_call 36; (with_reducible refine (span_any _ _ _).mono ?_); rintro e w' ⟨rfl, hbN⟩)
        | (go_at_call 26; (with_reducible refine (awake_any _).mono ?_); rintro e w' ⟨rfl, hbN⟩)
        | fail)
    go_wp2_with fail
    go_ret
    first
      | exact ⟨rfl, (show LsB w m _ _ _ _ _ _ _ by assumption).bm.b⟩
      | (go_split_ands; exact ⟨rfl, (show LsB w m _ _ _ _ _ _ _ by assumption).bm.b⟩)
      | (go_split_ands; exact ⟨rfl, (LsB.on (by assumption) hbN).bm.b⟩)
end Go.Proofs.Ytljbjcnfkbmjkaa
