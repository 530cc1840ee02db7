/- ref.Plan: contract. -/
import Derived.Test.YtljbjcnfkbmjkaaMe5
namespace Go.Proofs.Ytljbjcnfkbmjkaa
open Go.RowKit Go.Shelf

set_option maxRecDepth 100000 in
set_option maxHeartbeats 2000000 in
theorem rplan_any {w : World} (m : Md) {A : Option Addr} {c : Nat} {l : List Int} (h : IntsIn w A l) :
    Calls Try.prog 43 #[.agg #[.int .i64 m.rings, .int .i64 m.give, .int .i64 m.plo, .int .i64 m.phi, .int .i64 m.wlo, .int .i64 m.whi, .int .i64 m.st, .int .i64 m.shrink, .int .i64 m.skin, .int .i64 m.fill, .int .i64 m.gap, .int .i64 m.deep], .slice A l.length c] w fun e w' => e = .returned (.int .i64 (planE m l)) ∧ Below w.heap.size w w' := by
  have HI := Lib.hid h
  have hl := h.len
  have HB := Lib.hid (MdBk.new w 25 m)
  clear h
  by_cases h40 : 40 < (l.length : Int)
  · have HE := Lib.hid (show planE m l = 3 by unfold planE; rw [if_pos (by omega)])
    go_enter Try.func43, Try.ntmps43
    go_wp2_with fail
    go_ret
    exact ⟨ret_i64 HE.out.symm, HB.out.b⟩
  · have HE := Lib.hid (show planE m l = planL m.gap none l by unfold planE; rw [if_neg (by omega)])
    have hle : ¬ 40 < l.length := by omega
    go_enter Try.func43, Try.ntmps43
    go_wp2_with fail
    go_loopw [5] (fun i W => ∃ k : Nat, k ≤ l.length ∧ i = .int .i64 k ∧ Hid (PlI w m l k W)) (fun i _ => l.length - (intOf i).toNat)
    case atStart => exact ⟨0, by omega, rfl, ⟨rfl, fun y hy => by simp [prevL] at hy, HB.out⟩⟩
    case round =>
      obtain ⟨k, hk, rfl, HP⟩ := hrel
      by_cases hlt : k < l.length
      · have hlt' : (k : Int) < l.length := by omega
        obtain ⟨x, hx⟩ : ∃ x, l[k]? = some x := ⟨l[k], List.getElem?_eq_getElem hlt⟩
        obtain ⟨bb, of, rfl, hbb, cx⟩ := ints_at (HI.out.on HP.out.bk.b).at_ hx
        have HT := Lib.hid (planL_take (g := m.gap) hx)
        rw [HP.out.rest] at HT
        have HV := Lib.hid (show prevL l (k + 1) = some x from hx)
        have hcg := HP.out.bk.bk.cell 10
        have hlg := HP.out.bk.bk.lt
        have HC := Lib.hid (fun W => rin_any x 0 600 W)
        by_cases hin : inB x 0 600 = true
        · rw [hin] at HC
          have hin2 := inB_iff.1 hin
          rcases k with _ | k
          · clear hx
            rw [Nat.add_zero] at cx
            have H : Hid (PlI w m l 1 wr) := ⟨by have := HT.out; rw [if_pos hin] at this; exact this.symm, fun y hy => by rw [HV.out] at hy; cases hy; exact hin2, HP.out.bk⟩
            clear HT HV
            go_wp2_with (first | (go_at_call 51; refine (HC.out _).mono ?_; rintro e w1 ⟨rfl, hw1⟩; rw [hw1]; clear hw1) | fail)
            go_quiet (fail)
            go_wp2_with fail
            go_roundw
            case rel => exact ⟨1, Nat.succ_le_of_lt hlt, by go_num, H.out.on (below_drewN' (Below.refl _ _) _)⟩
            case measure => exact meas_one hlt
          · obtain ⟨y, hy⟩ : ∃ y, l[k]? = some y := ⟨l[k], List.getElem?_eq_getElem (by omega)⟩
            obtain ⟨bb2, of2, he2, _, cy⟩ := ints_at (HI.out.on HP.out.bk.b).at_ hy
            cases he2
            have hyb := HP.out.prev y hy
            have hT := HT.out
            rw [if_pos hin, show prevL l (k + 1) = some y from hy] at hT
            dsimp only at hT
            have ew : IntKind.i64.wrap (x - y) = x - y := IntWalk.i64_in _ (by omega)
            have ek : IntKind.i64.wrap (((k + 1 : Nat) : Int) - 1) = (k : Int) := by rw [IntWalk.i64_in _ (by omega)]; omega
            clear hx hy HT
            by_cases hg : x - y < m.gap
            · have H := Lib.hid (show planE m l = 2 by rw [HE.out, hT, if_pos hg])
              clear hT
              go_wp2_with (first | (go_at_call 51; refine (HC.out _).mono ?_; rintro e w1 ⟨rfl, hw1⟩; rw [hw1]; clear hw1) | fail)
              go_quiet (fail)
              go_wp2_with fail
              go_ret
              exact ⟨ret_i64 H.out.symm, below_drewN' HP.out.bk.b _⟩
            · rw [if_neg hg, show prevL l (k + 2) = some x from HV.out] at hT
              have H : Hid (PlI w m l (k + 2) wr) := ⟨by rw [show prevL l (k + 2) = some x from HV.out]; exact hT.symm, fun z hz => by rw [HV.out] at hz; cases hz; exact hin2, HP.out.bk⟩
              clear hT HV
              go_wp2_with (first | (go_at_call 51; refine (HC.out _).mono ?_; rintro e w1 ⟨rfl, hw1⟩; rw [hw1]; clear hw1) | fail)
              go_quiet (fail)
              go_wp2_with fail
              go_roundw
              case rel => exact ⟨k + 2, Nat.succ_le_of_lt hlt, by go_num, H.out.on (below_drewN' (Below.refl _ _) _)⟩
              case measure => exact meas_one hlt
        · have hinf : inB x 0 600 = false := by cases h : inB x 0 600 <;> simp_all
          rw [hinf] at HC
          have H := Lib.hid (show planE m l = 7 by rw [HE.out]; have := HT.out; rwa [if_neg hin] at this)
          clear HT hx
          go_wp2_with (first | (go_at_call 51; refine (HC.out _).mono ?_; rintro e w1 ⟨rfl, hw1⟩; rw [hw1]; clear hw1) | fail)
          go_ret
          exact ⟨ret_i64 H.out.symm, HP.out.bk.b⟩
      · have H := Lib.hid (show planE m l = 0 by rw [HE.out, ← HP.out.rest, List.drop_eq_nil_of_le (by omega)]; cases prevL l k <;> rfl)
        have hge : ¬ ((k : Int) < l.length) := by omega
        go_wp2_with fail
        go_ret
        exact ⟨ret_i64 H.out.symm, HP.out.bk.b⟩
end Go.Proofs.Ytljbjcnfkbmjkaa
