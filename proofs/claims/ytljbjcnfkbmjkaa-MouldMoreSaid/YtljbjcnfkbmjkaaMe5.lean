/- mould.planError: contract. -/
import Derived.Test.YtljbjcnfkbmjkaaGc
import Derived.Test.YtljbjcnfkbmjkaaGa
namespace Go.Proofs.Ytljbjcnfkbmjkaa
open Go.RowKit Go.Shelf

/-- Where the loop over a plan stands. -/
structure PlI (w : World) (m : Md) (l : List Int) (k : Nat) (W : World) : Prop where
  rest : planL m.gap (prevL l k) (l.drop k) = planL m.gap none l
  prev : ∀ y, prevL l k = some y → 0 ≤ y ∧ y ≤ 600
  bk : MdBk w w.heap.size 25 m W
theorem PlI.on {w W W' : World} {m : Md} {l : List Int} {k : Nat} (h : PlI w m l k W) (hb : Below W.heap.size W W') : PlI w m l k W' := ⟨h.rest, h.prev, h.bk.on hb⟩
theorem rangeE_one (x : Int) : rangeE 0 600 [x] = if inB x 0 600 = true then 0 else 7 := by
  simp [rangeE]
set_option maxRecDepth 100000 in
set_option maxHeartbeats 2000000 in
theorem plan_any {w : World} (m : Md) {A : Option Addr} {c : Nat} {l : List Int} (h : IntsIn w A l) :
    Calls Try.prog 73 #[.agg #[.int .i64 m.rings, .int .i64 m.give, .int .i64 m.plo, .int .i64 m.phi, .int .i64 m.wlo, .int .i64 m.whi, .int .i64 m.st, .int .i64 m.shrink, .int .i64 m.skin, .int .i64 m.fill, .int .i64 m.gap, .int .i64 m.deep], .slice A l.length c] w fun e w' => e = .returned (.int .i64 (planE m l)) ∧ Below w.heap.size w w' := by
  have HI := Lib.hid h
  have hl := h.len
  have HB := Lib.hid (MdBk.new w 25 m)
  clear h
  by_cases h40 : 40 < (l.length : Int)
  · have HE := Lib.hid (show planE m l = 3 by unfold planE; rw [if_pos (by omega)])
    go_enter Try.func73, Try.ntmps73
    go_wp2_with fail
    go_ret
    exact ⟨ret_i64 HE.out.symm, HB.out.b⟩
  · have HE := Lib.hid (show planE m l = planL m.gap none l by unfold planE; rw [if_neg (by omega)])
    have hle : ¬ 40 < l.length := by omega
    go_enter Try.func73, Try.ntmps73
    go_wp2_with fail
    go_loopw [13] (fun i W => ∃ k : Nat, k ≤ l.length ∧ i = .int .i64 k ∧ Hid (PlI w m l k W)) (fun i _ => l.length - (intOf i).toNat)
    case atStart => exact ⟨0, by omega, rfl, ⟨rfl, fun y hy => by simp [prevL] at hy, HB.out⟩⟩
    case round =>
      obtain ⟨k, hk, rfl, HP⟩ := hrel
      by_cases hlt : k < l.length
      · obtain ⟨x, hx⟩ : ∃ x, l[k]? = some x := ⟨l[k], List.getElem?_eq_getElem hlt⟩
        obtain ⟨bb, of, rfl, hbb, cx⟩ := ints_at (HI.out.on HP.out.bk.b).at_ hx
        have HT := Lib.hid (planL_take (g := m.gap) hx)
        rw [HP.out.rest] at HT
        have HV := Lib.hid (show prevL l (k + 1) = some x from hx)
        have hcg := HP.out.bk.bk.cell 10
        have hlg := HP.out.bk.bk.lt
        by_cases hin : inB x 0 600 = true
        · have hR := rangeE_one x
          rw [if_pos hin] at hR
          have hin2 := inB_iff.1 hin
          have HM := Lib.hid (fun W => minute_any x W)
          rw [hR] at HM
          clear hR
          rcases k with _ | k
          · clear hx
            rw [Nat.add_zero] at cx
            have H : Hid (PlI w m l 1 wr) := ⟨by have := HT.out; rw [if_pos hin] at this; exact this.symm, fun y hy => by rw [HV.out] at hy; cases hy; exact hin2, HP.out.bk⟩
            clear HT HV
            go_wp2_with (first | (go_at_call 58; refine (HM.out _).mono ?_; rintro e w1 ⟨rfl, hb1⟩; have HB1 : Hid (PlI w m l 1 w1) := ⟨H.out.rest, H.out.prev, H.out.bk.on hb1⟩; clear hb1) | fail)
            go_quiet (fail)
            go_wp2_with fail
            go_roundw
            case rel => exact ⟨1, Nat.succ_le_of_lt hlt, by go_num, HB1.out.on (below_drewN' (Below.refl _ _) _)⟩
            case measure => exact meas_one hlt
          · obtain ⟨y, hy⟩ : ∃ y, l[k]? = some y := ⟨l[k], List.getElem?_eq_getElem (by omega)⟩
            obtain ⟨bb2, of2, he2, _, cy⟩ := ints_at (HI.out.on HP.out.bk.b).at_ hy
            cases he2
            have hyb := HP.out.prev y hy
            have hT := HT.out
            rw [if_pos hin, show prevL l (k + 1) = some y from hy] at hT
            dsimp only at hT
            have ew : IntKind.i64.wrap (x - y) = x - y := IntWalk.i64_in _ (by omega)
            have ek : IntKind.i64.wrap (((k + 1 : Nat) : Int) - 1) = (k : Int) := by rw [IntWalk.i64_in _ (by omega)]; omega
            clear hx hy HT
            by_cases hg : x - y < m.gap
            · have H := Lib.hid (show planE m l = 2 by rw [HE.out, hT, if_pos hg])
              clear hT
              go_wp2_with (first | (go_at_call 58; refine (HM.out _).mono ?_; rintro e w1 ⟨rfl, hb1⟩; have HB1 := Lib.hid (HP.out.bk.on hb1); have cg1 := HB1.out.bk.cell 10; have cy1 := (hb1.cell (p := ⟨bb, of + k, none⟩) hbb).trans cy; clear hb1) | fail)
              go_quiet (fail)
              go_wp2_with fail
              go_ret
              exact ⟨ret_i64 H.out.symm, below_drewN' HB1.out.b _⟩
            · rw [if_neg hg, show prevL l (k + 2) = some x from HV.out] at hT
              have H : Hid (PlI w m l (k + 2) wr) := ⟨by rw [show prevL l (k + 2) = some x from HV.out]; exact hT.symm, fun z hz => by rw [HV.out] at hz; cases hz; exact hin2, HP.out.bk⟩
              clear hT HV
              go_wp2_with (first | (go_at_call 58; refine (HM.out _).mono ?_; rintro e w1 ⟨rfl, hb1⟩; have HB1 : Hid (PlI w m l (k + 2) w1) := ⟨H.out.rest, H.out.prev, H.out.bk.on hb1⟩; have cg1 := HB1.out.bk.bk.cell 10; have cy1 := (hb1.cell (p := ⟨bb, of + k, none⟩) hbb).trans cy; clear hb1) | fail)
              go_quiet (fail)
              go_wp2_with fail
              go_roundw
              case rel => exact ⟨k + 2, Nat.succ_le_of_lt hlt, by go_num, HB1.out.on (below_drewN' (Below.refl _ _) _)⟩
              case measure => exact meas_one hlt
        · have hR := rangeE_one x
          rw [if_neg hin] at hR
          have H := Lib.hid (show planE m l = 7 by rw [HE.out]; have := HT.out; rwa [if_neg hin] at this)
          have HM := Lib.hid (fun W => minute_any x W)
          rw [hR] at HM
          clear hR HT hx
          go_wp2_with (first | (go_at_call 58; refine (HM.out _).mono ?_; rintro e w1 ⟨rfl, hb1⟩; have HB1 := Lib.hid (HP.out.bk.on hb1); clear hb1) | fail)
          go_ret
          exact ⟨ret_i64 H.out.symm, HB1.out.b⟩
      · have H := Lib.hid (show planE m l = 0 by rw [HE.out, ← HP.out.rest, List.drop_eq_nil_of_le (by omega)]; cases prevL l k <;> rfl)
        go_wp2_with fail
        go_ret
        exact ⟨ret_i64 H.out.symm, HP.out.bk.b⟩
end Go.Proofs.Ytljbjcnfkbmjkaa
