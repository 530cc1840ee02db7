/- ref.Spans, Tables: contracts. -/
import Derived.Test.YthihpggjglghoaaGreatDoorSeq
import Derived.Test.YthihpggjglghoaaGreatDoorRfi
namespace Go.Proofs.YthihpggjglghoaaGreatDoor
open Go.RowKit Go.Shelf

set_option maxRecDepth 100000 in
set_option maxHeartbeats 2000000 in
theorem spans_any {w : World} {A B : Option Addr} {c d : Nat} {l m : List (Int × Int)} (hl : SpansAt w w.heap.size A l) (hll : l.length ≤ 9223372036854775807) (hm : SpansAt w w.heap.size B m) (_hml : m.length ≤ 9223372036854775807) :
    Calls Tryz.prog 25 #[.slice A l.length c, .slice B m.length d] w fun e w' => e = .returned (.bool (decide (l = m))) ∧ ∃ n, w' = w.drewN n := by
  by_cases hlen : m.length = l.length
  · rw [hlen]
    have HLEN := Lib.hid hlen
    clear hlen _hml
    have hg := @run_eqGuard_agg Tryz.prog
    have hgg := span_guard
    go_enter Tryz.func25, Tryz.ntmps25
    go_wp2_with fail
    go_loopw [5] (fun i wr => ∃ k : Nat, k ≤ l.length ∧ i = .int .i64 k ∧ Hid (l.take k = m.take k) ∧ ∃ n, wr = w.drewN n) (fun i _ => l.length - (intOf i).toNat)
    case atStart => exact ⟨0, by omega, rfl, by show _ = _; simp, 0, rfl⟩
    case round =>
      obtain ⟨k, hk, rfl, HT, nd, rfl⟩ := hrel
      have hb : Below w.heap.size w (w.drewN nd) := below_drewN' (Below.refl _ _) nd
      by_cases hlt : k < l.length
      · obtain ⟨x, hx⟩ : ∃ x, l[k]? = some x := ⟨l[k], List.getElem?_eq_getElem hlt⟩
        obtain ⟨y, hy⟩ : ∃ y, m[k]? = some y := ⟨m[k]'(by rw [HLEN.out]; exact hlt), List.getElem?_eq_getElem _⟩
        obtain ⟨b1, o1, rfl, _, hc1, hd1⟩ := spans_at hl hx
        obtain ⟨b2, o2, rfl, _, hc2, hd2⟩ := spans_at hm hy
        have HX := Lib.hid hx
        have HY := Lib.hid hy
        clear hx hy
        have hne := fun (w : World) => span_neq x y w
        by_cases hxy : x = y
        · have hdt : decide (x = y) = true := by simpa using hxy
          have HT' : Hid (l.take (k + 1) = m.take (k + 1)) := by
            show _ = _
            rw [List.take_add_one, List.take_add_one, HT.out, HX.out, HY.out, hxy]
          clear HX HY hxy
          go_wp2_with fail
          go_quiet (fail)
          go_wp2_with fail
          go_roundw
          case rel => exact ⟨k + 1, by omega, by go_num, HT', _, rfl⟩
          case measure => simp [intOf]; omega
        · have hdf : decide (x = y) = false := by simpa using hxy
          have hno : decide (l = m) = false := by
            rw [decide_eq_false_iff_not]
            intro e
            have h1 := HX.out
            rw [e, HY.out] at h1
            exact hxy (by simpa using h1.symm)
          have HNO := Lib.hid hno
          clear hno HX HY hxy
          go_wp2_with fail
          go_quiet (fail)
          go_wp2_with fail
          go_ret
          exact ⟨ret_bool HNO.out.symm, nd + nq, by simp⟩
      · have hke : k = l.length := by omega
        have hyes : decide (l = m) = true := by
          rw [decide_eq_true_eq]
          exact take_eq_len HLEN.out.symm (by rw [← hke]; exact HT.out)
        have HYES := Lib.hid hyes
        clear hyes hke
        go_wp2_with fail
        go_ret
        exact ⟨ret_bool HYES.out.symm, _, rfl⟩
  · have hno : decide (l = m) = false := by
      rw [decide_eq_false_iff_not]
      intro e
      exact hlen (by rw [e])
    have HNO := Lib.hid hno
    have hne : (l.length != m.length) = true := by simpa using fun e => hlen e.symm
    have hne2 : ((l.length : Int) != (m.length : Int)) = true := by
      have h : (l.length : Int) ≠ (m.length : Int) := fun e => hlen (by omega)
      simpa using h
    clear hno hlen
    go_enter Tryz.func25, Tryz.ntmps25
    go_wp2_with fail
    go_ret
    exact ⟨ret_bool HNO.out.symm, 0, rfl⟩

instance : DecidableEq Pr := fun a b => decidable_of_iff (a.nm = b.nm ∧ a.er = b.er) (by cases a; cases b; simp)
/-- Whether two tables are the same; where their ranges lie is none of it. -/
def tabEq (s t : Tab) : Prop := s.ps = t.ps ∧ s.ks.map (fun k => (k.nm, k.rs)) = t.ks.map (fun k => (k.nm, k.rs)) ∧ s.pu = t.pu
instance (s t : Tab) : Decidable (tabEq s t) := inferInstanceAs (Decidable (_ ∧ _ ∧ _))
theorem toList_inj {a b : ByteArray} (h : a.toList = b.toList) : a = b := by
  rw [ByteArray.toList_eq, ByteArray.toList_eq] at h
  cases a; cases b; simp only [ByteArray.mk.injEq]
  exact Array.toList_inj.1 h
end Go.Proofs.YthihpggjglghoaaGreatDoor
