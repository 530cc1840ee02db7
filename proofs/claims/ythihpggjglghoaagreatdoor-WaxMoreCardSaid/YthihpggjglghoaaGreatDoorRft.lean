/- ref.Tables: contract. -/
import Derived.Test.YthihpggjglghoaaGreatDoorRfs
namespace Go.Proofs.YthihpggjglghoaaGreatDoor
open Go.RowKit Go.Shelf

theorem box_two {w : World} {a0 a1 a2 b0 b1 b2 : Value} {T : TypeId} :
    let W := (w.alloc (.cells #[a0, a1, a2] T)).alloc (.cells #[b0, b1, b2] T)
    (W.cell? ⟨w.heap.size, 0, none⟩ = some a0 ∧ W.cell? ⟨w.heap.size, 1, none⟩ = some a1 ∧ W.cell? ⟨w.heap.size, 2, none⟩ = some a2) ∧
    (W.cell? ⟨w.heap.size + 1, 0, none⟩ = some b0 ∧ W.cell? ⟨w.heap.size + 1, 1, none⟩ = some b1 ∧ W.cell? ⟨w.heap.size + 1, 2, none⟩ = some b2) ∧ Below w.heap.size w W := by
  refine ⟨⟨by simp, by simp, by simp⟩, ⟨by simp, by simp, by simp⟩, ((Below.refl _ w).alloc (Nat.le_refl _) _).alloc (by simp) _⟩
theorem neq_of {a b : ByteArray} (h : a ≠ b) : (a.toList == b.toList) = false := by
  rw [beq_eq_false_iff_ne]
  exact fun e => h (toList_inj e)

theorem prop_neq_t {x y : Pr} (h : x ≠ y) (w : World) : (binOp .neq 47 (.agg #[.string x.nm, .int .i64 x.er]) (.agg #[.string y.nm, .int .i64 y.er])).run Tryz.prog w = .ok (.bool true) w := by
  rw [prop_neq]
  congr 2
  rw [Bool.not_eq_true', Bool.and_eq_false_iff]
  by_cases hn : x.nm = y.nm
  · right
    rw [beq_eq_false_iff_ne]
    exact fun e => h (by cases x; cases y; simp_all)
  · exact .inl (neq_of hn)
theorem prop_neq_f {x y : Pr} (h : x = y) (w : World) : (binOp .neq 47 (.agg #[.string x.nm, .int .i64 x.er]) (.agg #[.string y.nm, .int .i64 y.er])).run Tryz.prog w = .ok (.bool false) w := by
  rw [prop_neq, h]
  simp
theorem map_take_succ {α β : Type} (f : α → β) {l : List α} {k : Nat} {x : α} (h : l[k]? = some x) : (l.take (k + 1)).map f = (l.take k).map f ++ [f x] := by
  rw [List.take_add_one, h]; simp

/-- Two tables in boxes of the call's own. -/
structure TwoBox (w W : World) (pa ka pb kb : Option Addr) (pc kc pd kd : Nat) (s t : Tab) : Prop where
  x : W.cell? ⟨w.heap.size, 0, none⟩ = some (.slice pa s.ps.length pc) ∧ W.cell? ⟨w.heap.size, 1, none⟩ = some (.slice ka s.ks.length kc) ∧ W.cell? ⟨w.heap.size, 2, none⟩ = some (.int .i64 s.pu)
  y : W.cell? ⟨w.heap.size + 1, 0, none⟩ = some (.slice pb s.ps.length pd) ∧ W.cell? ⟨w.heap.size + 1, 1, none⟩ = some (.slice kb s.ks.length kd) ∧ W.cell? ⟨w.heap.size + 1, 2, none⟩ = some (.int .i64 s.pu)
  b : Below w.heap.size w W
  s : TabIn W pa ka pc kc s
  t : TabIn W pb kb pd kd t
theorem TwoBox.draws {w W : World} {pa ka pb kb : Option Addr} {pc kc pd kd : Nat} {s t : Tab} (h : TwoBox w W pa ka pb kb pc kc pd kd s t) (n : Nat) : TwoBox w (W.drewN n) pa ka pb kb pc kc pd kd s t :=
  ⟨h.x, h.y, below_drewN' h.b n, h.s.on (below_drewN' (Below.refl _ W) n), h.t.on (below_drewN' (Below.refl _ W) n)⟩

set_option maxRecDepth 100000 in
set_option maxHeartbeats 4000000 in
theorem tables_same {w : World} {pa ka pb kb : Option Addr} {pc kc pd kd : Nat} {s t : Tab} (hs : TabIn w pa ka pc kc s) (ht : TabIn w pb kb pd kd t) (e1 : t.ps.length = s.ps.length) (e2 : t.ks.length = s.ks.length) (e3 : t.pu = s.pu) :
    Calls Tryz.prog 9 #[.agg #[.slice pa s.ps.length pc, .slice ka s.ks.length kc, .int .i64 s.pu], .agg #[.slice pb s.ps.length pd, .slice kb s.ks.length kd, .int .i64 s.pu]] w fun e w' => e = .returned (.bool (decide (tabEq s t))) ∧ Below w.heap.size w w' := by
  have h1 := hs.tab.lp
  have h2 := hs.tab.lk
  have E1 := Lib.hid e1
  have E2 := Lib.hid e2
  have E3 := Lib.hid e3
  clear e1 e2 e3
  have HBX : Hid (TwoBox w ((w.alloc (.cells #[.slice pa s.ps.length pc, .slice ka s.ks.length kc, .int .i64 s.pu] 25)).alloc (.cells #[.slice pb s.ps.length pd, .slice kb s.ks.length kd, .int .i64 s.pu] 25)) pa ka pb kb pc kc pd kd s t) := by
    obtain ⟨hx, hy, hb0⟩ := box_two (w := w) (a0 := .slice pa s.ps.length pc) (a1 := .slice ka s.ks.length kc) (a2 := .int .i64 s.pu) (b0 := .slice pb s.ps.length pd) (b1 := .slice kb s.ks.length kd) (b2 := .int .i64 s.pu) (T := 25)
    exact ⟨hx, hy, hb0, hs.on hb0, ht.on hb0⟩
  clear hs ht
  have hg := @run_eqGuard_agg Tryz.prog
  have hgg := prop_guard
  go_enter Tryz.func9, Tryz.ntmps9
  go_wp2_with fail
  go_loopw [5] (fun i wr => ∃ (k : Nat), k ≤ s.ps.length ∧ i = .int .i64 k ∧ Hid (s.ps.take k = t.ps.take k) ∧ Hid (TwoBox w wr pa ka pb kb pc kc pd kd s t)) (fun i _ => s.ps.length - (intOf i).toNat)
  case atStart => exact ⟨0, by omega, rfl, by show _ = _; simp, HBX⟩
  case round =>
    obtain ⟨k, hk, rfl, HE, HBW⟩ := hrel
    obtain ⟨⟨x0, x1, x2⟩, ⟨y0, y1, y2⟩, hb0, hst, htt⟩ := HBW.out
    have HS := Lib.hid hst
    have HT := Lib.hid htt
    clear hst htt
    by_cases hlt : k < s.ps.length
    · obtain ⟨x, hx⟩ : ∃ x, s.ps[k]? = some x := ⟨s.ps[k], List.getElem?_eq_getElem hlt⟩
      obtain ⟨y, hy⟩ : ∃ y, t.ps[k]? = some y := ⟨t.ps[k]'(by rw [E1.out]; exact hlt), List.getElem?_eq_getElem _⟩
      obtain ⟨b1, o1, rfl, _, hc1, hd1⟩ := props_at HS.out.tab.ps hx
      obtain ⟨b2, o2, rfl, _, hc2, hd2⟩ := props_at HT.out.tab.ps hy
      have HX := Lib.hid hx
      have HY := Lib.hid hy
      clear hx hy
      by_cases hxy : x = y
      · have hne := fun (w : World) => prop_neq_f hxy w
        have HE' : Hid (s.ps.take (k + 1) = t.ps.take (k + 1)) := by
          show _ = _
          rw [List.take_add_one, List.take_add_one, HE.out, HX.out, HY.out, hxy]
        clear HX HY hxy
        go_wp2_with fail
        go_quiet (fail)
        go_wp2_with fail
        go_roundw
        case rel => exact ⟨k + 1, by omega, by go_num, HE', HBW.out.draws _⟩
        case measure => simp [intOf]; omega
      · have hne := fun (w : World) => prop_neq_t hxy w
        have hno : decide (tabEq s t) = false := by
          rw [decide_eq_false_iff_not]
          rintro ⟨e, _⟩
          have h1 := HX.out
          rw [e, HY.out] at h1
          exact hxy (by simpa using h1.symm)
        have HNO := Lib.hid hno
        clear hno HX HY hxy
        go_wp2_with fail
        go_quiet (fail)
        go_wp2_with fail
        go_ret
        exact ⟨ret_bool HNO.out.symm, below_drewN' hb0 _⟩
    · have hke : k = s.ps.length := by omega
      have HP : Hid (s.ps = t.ps) := by
        show _ = _
        exact take_eq_len E1.out.symm (by rw [← hke]; exact HE.out)
      clear hke HE
      go_wp2_with fail
      obtain ⟨wo, rfl⟩ : ∃ wo : World, wo = wr := ⟨_, rfl⟩
      clear x0 x1 x2 y0 y1 y2 HS HT hb0
      go_loopw [6] (fun i wr => ∃ k : Nat, k ≤ s.ks.length ∧ i = .int .i64 k ∧ Hid ((s.ks.take k).map (fun k => (k.nm, k.rs)) = (t.ks.take k).map (fun k => (k.nm, k.rs))) ∧ Hid (TwoBox w wr pa ka pb kb pc kc pd kd s t)) (fun i _ => s.ks.length - (intOf i).toNat)
      case atStart => exact ⟨0, by omega, rfl, by show _ = _; simp, HBW⟩
      case round =>
        obtain ⟨k, hk, rfl, HE, HBW⟩ := hrel
        obtain ⟨⟨x0, x1, x2⟩, ⟨y0, y1, y2⟩, hb0, hst, htt⟩ := HBW.out
        have HS := Lib.hid hst
        have HT := Lib.hid htt
        clear hst htt
        by_cases hlt : k < s.ks.length
        · obtain ⟨x, hx⟩ : ∃ x, s.ks[k]? = some x := ⟨s.ks[k], List.getElem?_eq_getElem hlt⟩
          obtain ⟨y, hy⟩ : ∃ y, t.ks[k]? = some y := ⟨t.ks[k]'(by rw [E2.out]; exact hlt), List.getElem?_eq_getElem _⟩
          obtain ⟨b1, o1, rfl, _, hc1, hd1, hs1, hl1⟩ := kinds_at HS.out.tab.ks hx
          obtain ⟨b2, o2, rfl, _, hc2, hd2, hs2, hl2⟩ := kinds_at HT.out.tab.ks hy
          have HX := Lib.hid hx
          have HY := Lib.hid hy
          have HSP := Lib.hid (fun n : Nat => spans_any (w := wr.drewN n) (c := x.cp) (d := y.cp) (RowAt.below hs1 (below_drewN' (Below.refl _ wr) n) (Nat.le_refl _)) hl1 (RowAt.below hs2 (below_drewN' (Below.refl _ wr) n) (Nat.le_refl _)) hl2)
          clear hx hy hs1 hs2 hl1 hl2
          by_cases hnm : y.nm = x.nm
          · rw [hnm] at hc2
            have hq1 : (x.nm.toList != x.nm.toList) = false := by simp
            have hq2 : (x.nm.toList == x.nm.toList) = true := by simp
            by_cases hrs : x.rs = y.rs
            · have hdt : decide (x.rs = y.rs) = true := by simpa using hrs
              have HE' : Hid ((s.ks.take (k + 1)).map (fun k => (k.nm, k.rs)) = (t.ks.take (k + 1)).map (fun k => (k.nm, k.rs))) := by
                show _ = _
                rw [map_take_succ _ HX.out, map_take_succ _ HY.out, HE.out, hnm, hrs]
              clear HX HY hnm hrs HE
              go_wp2_with fail
              go_quiet ((go_at_call 25; exact Calls.quiet_of (HSP.out _)))
              go_wp2_with fail
              go_roundw
              case rel => exact ⟨k + 1, by omega, by go_num, HE', HBW.out.draws _⟩
              case measure => simp [intOf]; omega
            · have hdf : decide (x.rs = y.rs) = false := by simpa using hrs
              have hno : decide (tabEq s t) = false := by
                rw [decide_eq_false_iff_not]
                rintro ⟨_, e, _⟩
                have h1 : (s.ks.map fun k => (k.nm, k.rs))[k]? = some (x.nm, x.rs) := by rw [List.getElem?_map, HX.out]; rfl
                rw [e, List.getElem?_map, HY.out] at h1
                simp at h1
                exact hrs h1.2.symm
              have HNO := Lib.hid hno
              clear hno HX HY hnm hrs HE
              go_wp2_with fail
              go_quiet ((go_at_call 25; exact Calls.quiet_of (HSP.out _)))
              go_wp2_with fail
              go_ret
              exact ⟨ret_bool HNO.out.symm, below_drewN' hb0 _⟩
          · have hne1 := neq_of (a := x.nm) (b := y.nm) (fun e => hnm e.symm)
            have hne2 : (x.nm.toList != y.nm.toList) = true := by simp [bne, hne1]
            have hno : decide (tabEq s t) = false := by
              rw [decide_eq_false_iff_not]
              rintro ⟨_, e, _⟩
              have h1 : (s.ks.map fun k => (k.nm, k.rs))[k]? = some (x.nm, x.rs) := by rw [List.getElem?_map, HX.out]; rfl
              rw [e, List.getElem?_map, HY.out] at h1
              simp at h1
              exact hnm h1.1
            have HNO := Lib.hid hno
            clear hno HX HY hnm HE
            go_wp2_with fail
            go_quiet (fail)
            go_wp2_with fail
            go_ret
            exact ⟨ret_bool HNO.out.symm, below_drewN' hb0 _⟩
        · have hke : k = s.ks.length := by omega
          have hyes : decide (tabEq s t) = true := by
            rw [decide_eq_true_eq]
            refine ⟨HP.out, ?_, E3.out.symm⟩
            have h1 := HE.out
            rw [hke, List.take_length, ← E2.out, List.take_length] at h1
            exact h1
          have HYES := Lib.hid hyes
          clear hyes hke HE
          go_wp2_with fail
          go_ret
          exact ⟨ret_bool HYES.out.symm, hb0⟩

set_option maxRecDepth 100000 in
set_option maxHeartbeats 4000000 in
theorem tables_any {w : World} {pa ka pb kb : Option Addr} {pc kc pd kd : Nat} {s t : Tab} (hs : TabIn w pa ka pc kc s) (ht : TabIn w pb kb pd kd t) :
    Calls Tryz.prog 9 #[.agg #[.slice pa s.ps.length pc, .slice ka s.ks.length kc, .int .i64 s.pu], .agg #[.slice pb t.ps.length pd, .slice kb t.ks.length kd, .int .i64 t.pu]] w fun e w' => e = .returned (.bool (decide (tabEq s t))) ∧ Below w.heap.size w w' := by
  have h1 := hs.tab.lp
  have h2 := hs.tab.lk
  have h3 := ht.tab.lp
  have h4 := ht.tab.lk
  by_cases he : t.ps.length = s.ps.length ∧ t.ks.length = s.ks.length ∧ t.pu = s.pu
  · obtain ⟨e1, e2, e3⟩ := he
    rw [e1, e2, e3]
    exact tables_same hs ht e1 e2 e3
  · have hno : decide (tabEq s t) = false := by
      rw [decide_eq_false_iff_not]
      rintro ⟨a, b, c⟩
      refine he ⟨by rw [a], ?_, c.symm⟩
      have := congrArg List.length b
      simpa using this.symm
    have HNO := Lib.hid hno
    have HB : Below w.heap.size w ((w.alloc (.cells #[.slice pa s.ps.length pc, .slice ka s.ks.length kc, .int .i64 s.pu] 25)).alloc (.cells #[.slice pb t.ps.length pd, .slice kb t.ks.length kd, .int .i64 t.pu] 25)) := (box_two (a2 := .int .i64 s.pu) (b2 := .int .i64 t.pu)).2.2
    clear hno hs ht
    by_cases e1 : s.ps.length = t.ps.length
    · by_cases e2 : s.ks.length = t.ks.length
      · have e3 : s.pu ≠ t.pu := fun e => he ⟨e1.symm, e2.symm, e.symm⟩
        have n3 : (s.pu != t.pu) = true := by simpa using e3
        rw [e1, e2] at HB ⊢
        clear e1 e2 e3 he h1 h2
        go_enter Tryz.func9, Tryz.ntmps9
        go_wp2_with fail
        go_ret
        exact ⟨ret_bool HNO.out.symm, HB⟩
      · have n2 : (s.ks.length != t.ks.length) = true := by simpa using e2
        have n3 : ((s.ks.length : Int) != (t.ks.length : Int)) = true := by
          have h : (s.ks.length : Int) ≠ (t.ks.length : Int) := fun e => e2 (by omega)
          simpa using h
        rw [e1] at HB ⊢
        clear e1 e2 he h1
        go_enter Tryz.func9, Tryz.ntmps9
        go_wp2_with fail
        go_ret
        exact ⟨ret_bool HNO.out.symm, HB⟩
    · have n2 : (s.ps.length != t.ps.length) = true := by simpa using e1
      have n3 : ((s.ps.length : Int) != (t.ps.length : Int)) = true := by
        have h : (s.ps.length : Int) ≠ (t.ps.length : Int) := fun e => e1 (by omega)
        simpa using h
      clear e1 he
      go_enter Tryz.func9, Tryz.ntmps9
      go_wp2_with fail
      go_ret
      exact ⟨ret_bool HNO.out.symm, HB⟩
end Go.Proofs.YthihpggjglghoaaGreatDoor
