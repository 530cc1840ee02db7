/- ref.Truth: contract. -/
import Derived.Test.YtljbjcnfkbmjkaaGc
namespace Go.Proofs.Ytljbjcnfkbmjkaa
open Go.RowKit Go.Shelf

/-- What lies in memory: the mould, the truth. -/
structure RtB (w : World) (m : Md) (A1 A2 : Option Addr) (c1 c2 : Nat) (ps ws : List Int) (W : World) : Prop where
  b0 : MdBk w w.heap.size 25 m W
  b1 : Blk W (w.heap.size + 1) 28 #[.slice A1 ps.length c1, .slice A2 ws.length c2]
  p : IntsIn W A1 ps
  q : IntsIn W A2 ws
theorem RtB.on {w W W' : World} {m : Md} {A1 A2 : Option Addr} {c1 c2 : Nat} {ps ws : List Int} (h : RtB w m A1 A2 c1 c2 ps ws W) (hb : Below W.heap.size W W') : RtB w m A1 A2 c1 c2 ps ws W' :=
  ⟨h.b0.on hb, h.b1.on hb, h.p.on hb, h.q.on hb⟩
theorem all_drop {p : Int → Bool} {l : List Int} {k : Nat} {x : Int} (hx : l[k]? = some x) : (l.drop k).all p = (p x && (l.drop (k + 1)).all p) := by
  rw [drop_at hx]; rfl
set_option maxRecDepth 100000 in
set_option maxHeartbeats 4000000 in
theorem rtruth_any {w : World} {m : Md} (hm : MdIn m) {A1 A2 : Option Addr} {c1 c2 : Nat} {ps ws : List Int} (hp : IntsIn w A1 ps) (hq : IntsIn w A2 ws) :
    Calls Try.prog 56 #[.agg #[.int .i64 m.rings, .int .i64 m.give, .int .i64 m.plo, .int .i64 m.phi, .int .i64 m.wlo, .int .i64 m.whi, .int .i64 m.st, .int .i64 m.shrink, .int .i64 m.skin, .int .i64 m.fill, .int .i64 m.gap, .int .i64 m.deep], .agg #[.slice A1 ps.length c1, .slice A2 ws.length c2]] w fun e w' => e = .returned (.int .i64 (truthE m ps ws)) ∧ Below w.heap.size w w' := by
  have HM : Hid (RtB w m A1 A2 c1 c2 ps ws ((w.alloc (.cells #[.int .i64 m.rings, .int .i64 m.give, .int .i64 m.plo, .int .i64 m.phi, .int .i64 m.wlo, .int .i64 m.whi, .int .i64 m.st, .int .i64 m.shrink, .int .i64 m.skin, .int .i64 m.fill, .int .i64 m.gap, .int .i64 m.deep] 25)).alloc (.cells #[.slice A1 ps.length c1, .slice A2 ws.length c2] 28))) := by
    have hb0 : Below w.heap.size w ((w.alloc (.cells #[.int .i64 m.rings, .int .i64 m.give, .int .i64 m.plo, .int .i64 m.phi, .int .i64 m.wlo, .int .i64 m.whi, .int .i64 m.st, .int .i64 m.shrink, .int .i64 m.skin, .int .i64 m.fill, .int .i64 m.gap, .int .i64 m.deep] 25)).alloc (.cells #[.slice A1 ps.length c1, .slice A2 ws.length c2] 28)) := ((Below.refl _ w).alloc (Nat.le_refl _) _).alloc (by simp) _
    exact ⟨⟨(Blk.new w _ _).alloc _, hb0⟩, Blk.new1 w _ _ _, hp.on hb0, hq.on hb0⟩
  have hlp := hp.len
  have hlq := hq.len
  have hk := kR_eq hm
  clear hp hq
  by_cases h1 : (ps.length : Int) = m.rings
  · by_cases h2 : 600 < (ws.length : Int)
    · have HE := Lib.hid (show truthE m ps ws = 3 by unfold truthE; rw [if_pos (by omega)])
      go_enter Try.func56, Try.ntmps56
      go_wp2_with fail
      go_ret
      exact ⟨ret_i64 HE.out.symm, HM.out.b0.b⟩
    · have HE := Lib.hid (show truthE m ps ws = if ps.all (fun x => inB x m.plo m.phi) = true then (if ws.all (fun x => inB x m.wlo m.whi) = true then 0 else 7) else 7 by unfold truthE; rw [if_neg (by omega)])
      go_enter Try.func56, Try.ntmps56
      go_wp2_with fail
      have HM2 := HM
      go_loopw [5] (fun i W => ∃ k : Nat, k ≤ ps.length ∧ i = .int .i64 k ∧ Hid ((ps.drop k).all (fun x => inB x m.plo m.phi) = ps.all (fun x => inB x m.plo m.phi)) ∧ Hid (RtB w m A1 A2 c1 c2 ps ws W)) (fun i _ => ps.length - (intOf i).toNat)
      case atStart => exact ⟨0, by omega, rfl, rfl, HM⟩
      case round =>
        obtain ⟨k, hk2, rfl, HR, HB⟩ := hrel
        clear HM HM2
        have y0 := HB.out.b1.cell 0
        have y1 := HB.out.b1.cell 1
        have c2x := HB.out.b0.bk.cell 2
        have c3x := HB.out.b0.bk.cell 3
        have hl0 := HB.out.b0.bk.lt
        have hl1 := HB.out.b1.lt
        by_cases hlt : k < ps.length
        · have hlt' : (k : Int) < ps.length := by omega
          rw [h1] at hlt'
          obtain ⟨x, hx⟩ : ∃ x, ps[k]? = some x := ⟨ps[k], List.getElem?_eq_getElem hlt⟩
          obtain ⟨bb, of, rfl, hbb, cx⟩ := ints_at HB.out.p.at_ hx
          have HD := Lib.hid (all_drop (p := fun x => inB x m.plo m.phi) hx)
          have HC := Lib.hid (fun W => rin_any x m.plo m.phi W)
          clear hx
          cases hb : inB x m.plo m.phi with
          | true =>
            rw [hb] at HC
            have HR2 : Hid ((ps.drop (k + 1)).all (fun x => inB x m.plo m.phi) = ps.all (fun x => inB x m.plo m.phi)) := by
              have h := HD.out
              rw [HR.out, hb, Bool.true_and] at h
              exact h.symm
            clear hb HD HR
            go_wp2_with fail
            go_quiet ((go_at_call 51; exact Calls.quiet_of_same (HC.out _)))
            go_wp2_with fail
            go_roundw
            case rel => exact ⟨k + 1, Nat.succ_le_of_lt hlt, by go_num, HR2, HB.out.on (below_drewN' (Below.refl _ _) _)⟩
            case measure => exact meas_one hlt
          | false =>
            rw [hb] at HC
            have H := Lib.hid (show truthE m ps ws = 7 by
              have h := HD.out
              rw [HR.out, hb, Bool.false_and] at h
              rw [HE.out, h]; rfl)
            clear hb HD HR
            go_wp2_with fail
            go_quiet ((go_at_call 51; exact Calls.quiet_of_same (HC.out _)))
            go_wp2_with fail
            go_ret
            exact ⟨ret_i64 H.out.symm, below_drewN' HB.out.b0.b _⟩
        · obtain rfl : k = ps.length := by omega
          have HE2 := Lib.hid (show truthE m ps ws = if ws.all (fun x => inB x m.wlo m.whi) = true then 0 else 7 by
            have h := HR.out
            rw [List.drop_eq_nil_of_le (Nat.le_refl _)] at h
            rw [HE.out, ← h]; rfl)
          have hn2 : ¬ ((ps.length : Int) < ps.length) := by omega
          have hn3 : ¬ (m.rings < m.rings) := by omega
          have HB0 := HB
          clear HR HE
          go_wp2_with fail
          go_loopw [6] (fun i W => ∃ k : Nat, k ≤ ws.length ∧ i = .int .i64 k ∧ Hid ((ws.drop k).all (fun x => inB x m.wlo m.whi) = ws.all (fun x => inB x m.wlo m.whi)) ∧ Hid (RtB w m A1 A2 c1 c2 ps ws W)) (fun i _ => ws.length - (intOf i).toNat)
          case atStart => exact ⟨0, by omega, rfl, rfl, HB0⟩
          case round =>
            obtain ⟨k, hk2, rfl, HR, HB⟩ := hrel
            clear HB0 y0 y1 c2x c3x hl0 hl1 hn2 hn3
            have y1 := HB.out.b1.cell 1
            have c4x := HB.out.b0.bk.cell 4
            have c5x := HB.out.b0.bk.cell 5
            have hl0 := HB.out.b0.bk.lt
            have hl1 := HB.out.b1.lt
            by_cases hlt : k < ws.length
            · have hlt' : (k : Int) < ws.length := by omega
              obtain ⟨x, hx⟩ : ∃ x, ws[k]? = some x := ⟨ws[k], List.getElem?_eq_getElem hlt⟩
              obtain ⟨bb, of, rfl, hbb, cx⟩ := ints_at HB.out.q.at_ hx
              have HD := Lib.hid (all_drop (p := fun x => inB x m.wlo m.whi) hx)
              have HC := Lib.hid (fun W => rin_any x m.wlo m.whi W)
              clear hx
              cases hb : inB x m.wlo m.whi with
              | true =>
                rw [hb] at HC
                have HR2 : Hid ((ws.drop (k + 1)).all (fun x => inB x m.wlo m.whi) = ws.all (fun x => inB x m.wlo m.whi)) := by
                  have h := HD.out
                  rw [HR.out, hb, Bool.true_and] at h
                  exact h.symm
                clear hb HD HR
                go_wp2_with fail
                go_quiet ((go_at_call 51; exact Calls.quiet_of_same (HC.out _)))
                go_wp2_with fail
                go_roundw
                case rel => exact ⟨k + 1, Nat.succ_le_of_lt hlt, by go_num, HR2, HB.out.on (below_drewN' (Below.refl _ _) _)⟩
                case measure => exact meas_one hlt
              | false =>
                rw [hb] at HC
                have H := Lib.hid (show truthE m ps ws = 7 by
                  have h := HD.out
                  rw [HR.out, hb, Bool.false_and] at h
                  rw [HE2.out, h]; rfl)
                clear hb HD HR
                go_wp2_with fail
                go_quiet ((go_at_call 51; exact Calls.quiet_of_same (HC.out _)))
                go_wp2_with fail
                go_ret
                exact ⟨ret_i64 H.out.symm, below_drewN' HB.out.b0.b _⟩
            · have H := Lib.hid (show truthE m ps ws = 0 by
                have h := HR.out
                rw [List.drop_eq_nil_of_le (by omega)] at h
                rw [HE2.out, ← h]; rfl)
              obtain rfl : k = ws.length := by omega
              have hn2 : ¬ ((ws.length : Int) < ws.length) := by omega
              go_wp2_with fail
              go_ret
              exact ⟨ret_i64 H.out.symm, HB.out.b0.b⟩
  · have HE := Lib.hid (show truthE m ps ws = 3 by unfold truthE; rw [if_pos (by omega)])
    go_enter Try.func56, Try.ntmps56
    go_wp2_with fail
    go_ret
    exact ⟨ret_i64 HE.out.symm, HM.out.b0.b⟩
end Go.Proofs.Ytljbjcnfkbmjkaa
