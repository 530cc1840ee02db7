/- Layer mould, a part: sets, lists, plans of the reference. No statement is proved here. -/
import Derived.Test.YtljbjcnfkbmjkaaGc
import Derived.Test.YtljbjcnfkbmjkaaGb
import Derived.Laws.StructEq
namespace Go.Proofs.Ytljbjcnfkbmjkaa
open Go.RowKit Go.Shelf

theorem setN_nil (t : Int) : setN [] t = 0 := rfl
theorem setN_cons (x : Int) (w : List Int) (t : Int) : setN (x :: w) t = (if inB x 0 t = true then 1 else 0) + setN w t := by
  unfold setN
  rw [List.length_cons, List.replicate_succ, gsum]
  simp only [inB_iff]
theorem setN_bounds (w : List Int) (t : Int) : 0 ≤ setN w t ∧ setN w t ≤ w.length := gsum_ones w t
set_option maxRecDepth 100000 in
set_option maxHeartbeats 1000000 in
theorem rset_any {w : World} {A : Option Addr} {c : Nat} {l : List Int} (t : Int) (h : IntsIn w A l) :
    Calls Try.prog 42 #[.slice A l.length c, .int .i64 t] w fun e w' => e = .returned (.int .i64 (setN l t)) ∧ w' = w := by
  have HI := Lib.hid h
  have hl := h.len
  clear h
  go_enter Try.func42, Try.ntmps42
  go_wp2_with fail
  go_loop [5, 6] (fun n i => ∃ (k : Nat) (N : Int), k ≤ l.length ∧ i = .int .i64 k ∧ n = .int .i64 N ∧ Hid (N + setN (l.drop k) t = setN l t) ∧ 0 ≤ N ∧ N ≤ k) (fun _ i => l.length - (intOf i).toNat)
  case atStart => exact ⟨0, 0, by omega, rfl, rfl, by show _ = _; simp, by omega, by omega⟩
  case round =>
    obtain ⟨k, N, hk, rfl, rfl, HR, hN, hN2⟩ := hrel
    by_cases hlt : k < l.length
    · obtain ⟨x, hx⟩ : ∃ x, l[k]? = some x := ⟨l[k], List.getElem?_eq_getElem hlt⟩
      obtain ⟨bb, o, rfl, _, hcell⟩ := ints_at HI.out.at_ hx
      have HD := Lib.hid (show N + ((if inB x 0 t = true then 1 else 0) + setN (l.drop (k + 1)) t) = setN l t by rw [← HR.out, drop_at hx, setN_cons])
      have HC := Lib.hid (rin_any x 0 t w)
      clear hx HR
      cases hb : inB x 0 t with
      | true =>
        rw [hb] at HC HD
        have H := Lib.hid (show N + 1 + setN (l.drop (k + 1)) t = setN l t by have := HD.out; simp at this; omega)
        clear hb HD
        go_wp2_with fail
        refine HC.out.mono ?_
        rintro e w1 ⟨rfl, hw1⟩
        rw [hw1]
        clear hw1
        go_wp2_with fail
        go_round
        case rel => exact ⟨k + 1, N + 1, Nat.succ_le_of_lt hlt, by go_num, rfl, H, by omega, by omega⟩
        case measure => exact meas_one hlt
      | false =>
        rw [hb] at HC HD
        have H := Lib.hid (show N + setN (l.drop (k + 1)) t = setN l t by have := HD.out; simp at this; omega)
        clear hb HD
        go_wp2_with fail
        refine HC.out.mono ?_
        rintro e w1 ⟨rfl, hw1⟩
        rw [hw1]
        clear hw1
        go_wp2_with fail
        go_round
        case rel => exact ⟨k + 1, N, Nat.succ_le_of_lt hlt, by go_num, rfl, H, by omega, by omega⟩
        case measure => exact meas_one hlt
    · have H := Lib.hid (show setN l t = N by rw [← HR.out, List.drop_eq_nil_of_le (by omega), setN_nil]; omega)
      clear HR
      go_wp2_with fail
      go_ret
      exact ⟨ret_i64 H.out.symm, rfl⟩
set_option maxHeartbeats 1000000 in
theorem rshrinks_any {m : Md} (hm : MdIn m) {i : Nat} (hi : i < kR m) (w : World) :
    Calls Try.prog 45 #[.agg #[.int .i64 m.rings, .int .i64 m.give, .int .i64 m.plo, .int .i64 m.phi, .int .i64 m.wlo, .int .i64 m.whi, .int .i64 m.st, .int .i64 m.shrink, .int .i64 m.skin, .int .i64 m.fill, .int .i64 m.gap, .int .i64 m.deep], .int .i64 i] w fun e w' => e = .returned (.int .i64 (shrV m i)) ∧ Below w.heap.size w w' := by
  have HB := Lib.hid (MdBk.new w 25 m)
  have hs := shrV_nonneg hm hi
  have h1 := hm.shrink
  have h2 := hm.rings
  have h3 : (i : Int) < m.rings := by rw [← kR_eq hm]; omega
  have e1 : IntKind.i64.wrap (m.rings - 1) = m.rings - 1 := IntWalk.i64_in _ (by omega)
  have e2 : IntKind.i64.wrap (m.rings - 1 - (i : Int)) = m.rings - 1 - (i : Int) := IntWalk.i64_in _ (by omega)
  have e3 : IntKind.i64.wrap (2 * (m.rings - 1 - (i : Int))) = 2 * (m.rings - 1 - (i : Int)) := IntWalk.i64_in _ (by omega)
  have e4 : IntKind.i64.wrap (1 + 2 * (m.rings - 1 - (i : Int))) = 1 + 2 * (m.rings - 1 - (i : Int)) := IntWalk.i64_in _ (by omega)
  have e5 : IntKind.i64.wrap (m.shrink * (1 + 2 * (m.rings - 1 - (i : Int)))) = m.shrink * (1 + 2 * (m.rings - 1 - (i : Int))) := IntWalk.i64_in _ (by unfold shrV at hs; omega)
  clear hs
  go_enter Try.func45, Try.ntmps45
  go_wp2_with fail
  go_ret
  exact ⟨rfl, HB.out.b⟩
theorem span_any (a b : Int) (w : World) :
    Calls Try.prog 36 #[.int .i64 a, .int .i64 b] w fun e w' => e = .returned (.agg #[.int .i64 a, .int .i64 b]) ∧ Below w.heap.size w w' := by
  go_enter Try.func36, Try.ntmps36
  go_wp2
  refine bodyPost_ret (v := .agg #[.int .i64 a, .int .i64 b]) (by simp [results, Try.results36, go_sem]) rfl ⟨rfl, ?_⟩
  simpa using (Below.refl _ w).alloc (Nat.le_refl _) (.cells #[.int .i64 a, .int .i64 b] 23)
theorem inside_any (n a b : Int) (w : World) :
    Calls Try.prog 39 #[.int .i64 n, .agg #[.int .i64 a, .int .i64 b]] w fun e w' => e = .returned (.bool (inB n a b)) ∧ Below w.heap.size w w' := by
  have hb0 : ∀ o, Below w.heap.size w (w.alloc o) := fun o => (Below.refl _ w).alloc (Nat.le_refl _) _
  have HB := Lib.hid hb0
  clear hb0
  by_cases h1 : a ≤ n
  · by_cases h2 : n ≤ b
    · have H := Lib.hid (inB_t h1 h2)
      go_enter Try.func39, Try.ntmps39
      go_wp2
      go_ret
      exact ⟨ret_bool H.out.symm, HB.out _⟩
    · have H := Lib.hid (inB_f (n := n) (lo := a) (hi := b) (by omega))
      go_enter Try.func39, Try.ntmps39
      go_wp2
      go_ret
      exact ⟨ret_bool H.out.symm, HB.out _⟩
  · have H := Lib.hid (inB_f (n := n) (lo := a) (hi := b) (by omega))
    go_enter Try.func39, Try.ntmps39
    go_wp2
    go_ret
    exact ⟨ret_bool H.out.symm, HB.out _⟩
end Go.Proofs.Ytljbjcnfkbmjkaa

namespace Go.Proofs.Ytljbjcnfkbmjkaa
open Go.RowKit Go.Shelf

theorem span_uw : Try.prog.underlying 23 = some (.struct (Try.prog.fieldsOf 23)) := by kernel_rfl
theorem span_held : Try.prog.stoodInHeld 23 = false := by kernel_rfl
theorem span_guard : Try.prog.eqGuardType Try.prog.depth 23 = false := by kernel_rfl
theorem span_fields : (Try.prog.fieldsOf 23).toList.map (fun f => (f.name, f.type, f.offset)) = [("Lo", 3, 0), ("Hi", 3, 1)] := by kernel_rfl
theorem eqFields_two (P : Program) (w : World) (d : Nat) (xs ys : Array Value) (fs : List Field) (n1 n2 : String) (t1 t2 : TypeId) (a1 a2 b1 b2 : Value) (r1 r2 : Bool)
    (hf : fs.map (fun f => (f.name, f.type, f.offset)) = [(n1, t1, 0), (n2, t2, 1)]) (h1 : n1 ≠ "_") (h2 : n2 ≠ "_")
    (p1 : (part t1 xs 0).run P w = .ok a1 w) (q1 : (part t1 ys 0).run P w = .ok b1 w) (p2 : (part t2 xs 1).run P w = .ok a2 w) (q2 : (part t2 ys 1).run P w = .ok b2 w)
    (e1 : (Op.equalIn d t1 a1 b1).run P w = .ok r1 w) (e2 : (Op.equalIn d t2 a2 b2).run P w = .ok r2 w) : (Op.eqFields d xs ys fs).run P w = .ok (r1 && r2) w := by
  rcases fs with _ | ⟨f, _ | ⟨g, _ | ⟨h, r⟩⟩⟩
  · simp at hf
  · simp at hf
  · simp only [List.map_cons, List.map_nil, List.cons.injEq, Prod.mk.injEq, and_true] at hf
    obtain ⟨⟨rfl, rfl, z1⟩, rfl, rfl, z2⟩ := hf
    simp only [Op.eqFields, if_pos h1, if_pos h2, z1, z2, Sem.run_bind, p1, q1, p2, q2, Result.andThen_ok, e1, e2, Sem.run_ite, Sem.run_pure]
    cases r1 <;> cases r2 <;> simp
  · simp at hf
theorem span_eqin (x y : Int × Int) (w : World) : (Op.equalIn 10000 23 (.agg #[.int .i64 x.1, .int .i64 x.2]) (.agg #[.int .i64 y.1, .int .i64 y.2])).run Try.prog w = .ok (decide (x = y)) w := by
  rw [run_equalIn_struct w 9999 23 _ _ span_uw span_held,
    eqFields_two Try.prog w 9999 _ _ _ "Lo" "Hi" 3 3 (.int .i64 x.1) (.int .i64 x.2) (.int .i64 y.1) (.int .i64 y.2) (x.1 == y.1) (x.2 == y.2) span_fields (by decide) (by decide) (by kernel_rfl) (by kernel_rfl) (by kernel_rfl) (by kernel_rfl)
      (run_equalIn_int w 9998 3 .i64 .i64 _ _ Try.underlying3) (run_equalIn_int w 9998 3 .i64 .i64 _ _ Try.underlying3)]
  obtain ⟨a, b⟩ := x
  obtain ⟨c, d⟩ := y
  congr 1
  rw [Bool.eq_iff_iff]
  simp
theorem span_eql (x y : Int × Int) (w : World) : (binOp .eql 23 (.agg #[.int .i64 x.1, .int .i64 x.2]) (.agg #[.int .i64 y.1, .int .i64 y.2])).run Try.prog w = .ok (.bool (decide (x = y))) w := by
  rw [run_eql_struct, span_eqin]; rfl
theorem span_neq (x y : Int × Int) (w : World) : (binOp .neq 23 (.agg #[.int .i64 x.1, .int .i64 x.2]) (.agg #[.int .i64 y.1, .int .i64 y.2])).run Try.prog w = .ok (.bool (!decide (x = y))) w := by
  rw [run_neq_struct, span_eqin]; rfl
theorem take_eq_len {α : Type} {l m : List α} (hlen : l.length = m.length) (h : l.take l.length = m.take l.length) : l = m := by
  have h2 : m.take l.length = m := by rw [hlen, List.take_length]
  rw [List.take_length, h2] at h
  exact h

set_option maxRecDepth 100000 in
set_option maxHeartbeats 1000000 in
theorem rints_any {w : World} {A B : Option Addr} {c d : Nat} {l m : List Int} (hl : IntsIn w A l) (hm : IntsIn w B m) :
    Calls Try.prog 22 #[.slice A l.length c, .slice B m.length d] w fun e w' => e = .returned (.bool (decide (l = m))) ∧ Below w.heap.size w w' := by
  have hll := hl.len
  by_cases hlen : m.length = l.length
  · rw [hlen]
    have HLEN := Lib.hid hlen
    clear hlen
    go_enter Try.func22, Try.ntmps22
    go_wp2_with fail
    go_loopw [5] (fun i wr => ∃ k : Nat, k ≤ l.length ∧ i = .int .i64 k ∧ Hid (l.take k = m.take k) ∧ Below w.heap.size w wr) (fun i _ => l.length - (intOf i).toNat)
    case atStart => exact ⟨0, by omega, rfl, by show _ = _; simp, Below.refl _ _⟩
    case round =>
      obtain ⟨k, hk, rfl, HT, hb⟩ := hrel
      by_cases hlt : k < l.length
      · obtain ⟨x, hx⟩ : ∃ x, l[k]? = some x := ⟨l[k], List.getElem?_eq_getElem hlt⟩
        obtain ⟨y, hy⟩ : ∃ y, m[k]? = some y := ⟨m[k]'(by rw [HLEN.out]; exact hlt), List.getElem?_eq_getElem _⟩
        obtain ⟨b1, o1, rfl, _, hc1⟩ := ints_at (RowAt.below hl.at_ hb (Nat.le_refl _)) hx
        obtain ⟨b2, o2, rfl, _, hc2⟩ := ints_at (RowAt.below hm.at_ hb (Nat.le_refl _)) hy
        have HX := Lib.hid hx
        have HY := Lib.hid hy
        clear hx hy
        by_cases hxy : x = y
        · subst hxy
          have HT' : Hid (l.take (k + 1) = m.take (k + 1)) := by
            show _ = _
            rw [List.take_add_one, List.take_add_one, HT.out, HX.out, HY.out]
          clear HX HY
          go_wp2_with fail
          go_quiet (fail)
          go_wp2_with fail
          go_roundw
          case rel => exact ⟨k + 1, by omega, by go_num, HT', by repeat (first | exact hb | apply below_drewN')⟩
          case measure => simp [intOf]; omega
        · have hne : (x != y) = true := by simpa using hxy
          have hno : decide (l = m) = false := by
            rw [decide_eq_false_iff_not]
            intro e
            have h1 := HX.out
            rw [e, HY.out] at h1
            exact hxy (by simpa using h1.symm)
          have HNO := Lib.hid hno
          clear hno HX HY hxy
          go_wp2_with fail
          go_quiet (fail)
          go_wp2_with fail
          go_ret
          exact ⟨ret_bool HNO.out.symm, by repeat (first | exact hb | apply below_drewN')⟩
      · have hke : k = l.length := by omega
        have hyes : decide (l = m) = true := by
          rw [decide_eq_true_eq]
          exact take_eq_len HLEN.out.symm (by rw [← hke]; exact HT.out)
        have HYES := Lib.hid hyes
        clear hyes hke
        go_wp2_with fail
        go_ret
        exact ⟨ret_bool HYES.out.symm, hb⟩
  · have hno : decide (l = m) = false := by
      rw [decide_eq_false_iff_not]
      intro e
      exact hlen (by rw [e])
    have HNO := Lib.hid hno
    have hne : (l.length != m.length) = true := by simpa using fun e => hlen e.symm
    have hne2 : ((l.length : Int) != (m.length : Int)) = true := by
      have h : (l.length : Int) ≠ (m.length : Int) := fun e => hlen (by omega)
      simpa using h
    have hml := hm.len
    clear hno hlen
    go_enter Try.func22, Try.ntmps22
    go_wp2_with fail
    go_ret
    exact ⟨ret_bool HNO.out.symm, Below.refl _ _⟩
set_option maxRecDepth 100000 in
set_option maxHeartbeats 2000000 in
theorem rspans_any {w : World} {A B : Option Addr} {c d : Nat} {l m : List (Int × Int)} (hl : SpansAt w w.heap.size A l) (hll : l.length ≤ 9223372036854775807) (hm : SpansAt w w.heap.size B m) (_hml : m.length ≤ 9223372036854775807) :
    Calls Try.prog 25 #[.slice A l.length c, .slice B m.length d] w fun e w' => e = .returned (.bool (decide (l = m))) ∧ ∃ n, w' = w.drewN n := by
  by_cases hlen : m.length = l.length
  · rw [hlen]
    have HLEN := Lib.hid hlen
    clear hlen _hml
    have hg := @run_eqGuard_agg Try.prog
    have hgg := span_guard
    go_enter Try.func25, Try.ntmps25
    go_wp2_with fail
    go_loopw [5] (fun i wr => ∃ k : Nat, k ≤ l.length ∧ i = .int .i64 k ∧ Hid (l.take k = m.take k) ∧ ∃ n, wr = w.drewN n) (fun i _ => l.length - (intOf i).toNat)
    case atStart => exact ⟨0, by omega, rfl, by show _ = _; simp, 0, rfl⟩
    case round =>
      obtain ⟨k, hk, rfl, HT, nd, rfl⟩ := hrel
      have hb : Below w.heap.size w (w.drewN nd) := below_drewN' (Below.refl _ _) nd
      by_cases hlt : k < l.length
      · obtain ⟨x, hx⟩ : ∃ x, l[k]? = some x := ⟨l[k], List.getElem?_eq_getElem hlt⟩
        obtain ⟨y, hy⟩ : ∃ y, m[k]? = some y := ⟨m[k]'(by rw [HLEN.out]; exact hlt), List.getElem?_eq_getElem _⟩
        obtain ⟨b1, o1, rfl, _, hc1, hd1⟩ := spans_at hl hx
        obtain ⟨b2, o2, rfl, _, hc2, hd2⟩ := spans_at hm hy
        have HX := Lib.hid hx
        have HY := Lib.hid hy
        clear hx hy
        have hne := fun (w : World) => span_neq x y w
        by_cases hxy : x = y
        · have hdt : decide (x = y) = true := by simpa using hxy
          have HT' : Hid (l.take (k + 1) = m.take (k + 1)) := by
            show _ = _
            rw [List.take_add_one, List.take_add_one, HT.out, HX.out, HY.out, hxy]
          clear HX HY hxy
          go_wp2_with fail
          go_quiet (fail)
          go_wp2_with fail
          go_roundw
          case rel => exact ⟨k + 1, by omega, by go_num, HT', _, rfl⟩
          case measure => simp [intOf]; omega
        · have hdf : decide (x = y) = false := by simpa using hxy
          have hno : decide (l = m) = false := by
            rw [decide_eq_false_iff_not]
            intro e
            have h1 := HX.out
            rw [e, HY.out] at h1
            exact hxy (by simpa using h1.symm)
          have HNO := Lib.hid hno
          clear hno HX HY hxy
          go_wp2_with fail
          go_quiet (fail)
          go_wp2_with fail
          go_ret
          exact ⟨ret_bool HNO.out.symm, nd + nq, by simp⟩
      · have hke : k = l.length := by omega
        have hyes : decide (l = m) = true := by
          rw [decide_eq_true_eq]
          exact take_eq_len HLEN.out.symm (by rw [← hke]; exact HT.out)
        have HYES := Lib.hid hyes
        clear hyes hke
        go_wp2_with fail
        go_ret
        exact ⟨ret_bool HYES.out.symm, _, rfl⟩
  · have hno : decide (l = m) = false := by
      rw [decide_eq_false_iff_not]
      intro e
      exact hlen (by rw [e])
    have HNO := Lib.hid hno
    have hne : (l.length != m.length) = true := by simpa using fun e => hlen e.symm
    have hne2 : ((l.length : Int) != (m.length : Int)) = true := by
      have h : (l.length : Int) ≠ (m.length : Int) := fun e => hlen (by omega)
      simpa using h
    clear hno hlen
    go_enter Try.func25, Try.ntmps25
    go_wp2_with fail
    go_ret
    exact ⟨ret_bool HNO.out.symm, 0, rfl⟩

end Go.Proofs.Ytljbjcnfkbmjkaa

namespace Go.Proofs.Ytljbjcnfkbmjkaa
open Go.RowKit Go.Shelf

theorem MdBk.drewN {w W : World} {B : Nat} {T : TypeId} {m : Md} (h : MdBk w B T m W) (n : Nat) : MdBk w B T m (W.drewN n) := h.on (below_drewN' (Below.refl _ _) n)
set_option maxRecDepth 100000 in
set_option maxHeartbeats 1000000 in
theorem rpours_any {w : World} (m : Md) {A B : Option Addr} {c d : Nat} {ws l : List Int} (hA : IntsIn w A ws) (hB : IntsIn w B l) :
    Calls Try.prog 46 #[.agg #[.int .i64 m.rings, .int .i64 m.give, .int .i64 m.plo, .int .i64 m.phi, .int .i64 m.wlo, .int .i64 m.whi, .int .i64 m.st, .int .i64 m.shrink, .int .i64 m.skin, .int .i64 m.fill, .int .i64 m.gap, .int .i64 m.deep], .slice A ws.length c, .slice B l.length d] w fun e w' => e = .returned (.bool (pours m ws l)) ∧ Below w.heap.size w w' := by
  have HA := Lib.hid hA
  have HB := Lib.hid hB
  have HM := Lib.hid (MdBk.new w 25 m)
  have hl := hB.len
  clear hA hB
  go_enter Try.func46, Try.ntmps46
  go_wp2_with fail
  go_loopw [7] (fun i W => ∃ k : Nat, k ≤ l.length ∧ i = .int .i64 k ∧ Hid (pours m ws (l.drop k) = pours m ws l) ∧ Hid (MdBk w w.heap.size 25 m W)) (fun i _ => l.length - (intOf i).toNat)
  case atStart => exact ⟨0, by omega, rfl, rfl, HM⟩
  case round =>
    obtain ⟨k, hk, rfl, HR, HM⟩ := hrel
    by_cases hlt : k < l.length
    · obtain ⟨x, hx⟩ : ∃ x, l[k]? = some x := ⟨l[k], List.getElem?_eq_getElem hlt⟩
      obtain ⟨bb, o, rfl, _, hcell⟩ := ints_at (HB.out.on HM.out.b).at_ hx
      have HC := Lib.hid (fun n : Nat => rset_any (c := c) x ((HA.out.on HM.out.b).on (below_drewN' (Below.refl _ wr) n)))
      have HD := Lib.hid (show pours m ws l = (!shut m ws x && pours m ws (l.drop (k + 1))) by rw [← HR.out, drop_at hx]; unfold pours; rw [List.all_cons])
      have hs := show shut m ws x = decide (m.skin < setN ws x) from rfl
      have HS := Lib.hid hs
      obtain ⟨c0, c1, c2, c3, c4, c5, c6, c7, c8, c9, c10, c11⟩ := HM.out.cells
      clear hx HR hs
      generalize setN ws x = z at *
      by_cases h1 : m.skin < z
      · have H := Lib.hid (show pours m ws l = false by rw [HD.out, HS.out]; simp [h1])
        clear HD HS
        go_wp2_with fail
        go_quiet ((go_at_call 42; exact Calls.quiet_of_same (HC.out _)))
        go_wp2_with fail
        go_ret
        exact ⟨ret_bool H.out.symm, by repeat (first | exact HM.out.b | apply below_drewN')⟩
      · have H := Lib.hid (show pours m ws (l.drop (k + 1)) = pours m ws l by rw [HD.out, HS.out]; simp [h1])
        clear HD HS
        go_wp2_with fail
        go_quiet ((go_at_call 42; exact Calls.quiet_of_same (HC.out _)))
        go_wp2_with fail
        go_roundw
        case rel => exact ⟨k + 1, Nat.succ_le_of_lt hlt, by go_num, H, by repeat (first | exact HM | apply MdBk.drewN | exact HM.out)⟩
        case measure => exact meas_one hlt
    · have H := Lib.hid (show pours m ws l = true by rw [← HR.out, List.drop_eq_nil_of_le (by omega)]; rfl)
      clear HR
      go_wp2_with fail
      go_ret
      exact ⟨ret_bool H.out.symm, HM.out.b⟩
end Go.Proofs.Ytljbjcnfkbmjkaa
