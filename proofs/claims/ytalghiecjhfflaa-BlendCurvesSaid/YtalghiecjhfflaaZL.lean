/- ref02.Add: contract. -/
import Derived.Test.YtalghiecjhfflaaZK
import Derived.LoopIn
namespace Go.Proofs.Ytalghiecjhfflaa
open Go.RowKit Go.Shelf Go.Maps
attribute [local go_sem] Oper.semAt_some


theorem pts_cells {w W : World} {C : Option Addr} {cv : List Pt} {cb co k : Nat} {x : Pt} (h : PtsIn w C cv) (hC : C = some ⟨cb, co, none⟩) (hb : Below w.heap.size w W) (hx : cv[k]? = some x) : W.cell? ⟨cb, co + k * 2, none⟩ = some (.int .i64 x.p) ∧ W.cell? ⟨cb, co + k * 2 + 1, none⟩ = some (.int .i64 x.a) := by
  obtain ⟨b1, o1, e1, _, d0, d1⟩ := pts_at (h.on hb).at_ hx
  rw [hC] at e1
  cases e1
  exact ⟨d0, d1⟩
set_option maxRecDepth 100000 in
set_option maxHeartbeats 4000000 in
theorem radd_any {w : World} {C : Option Addr} {cc : Nat} {cv : List Pt} {m : Int} (h : PtsIn w C cv) (hl : cv.length ≤ 6) (hcv : CvIn cv) (up : cv.Pairwise fun a b => a.p < b.p) (hm : 0 ≤ m ∧ m ≤ 20) :
    Calls Try.prog 58 #[.slice C cv.length cc, .int .i64 m] w fun e w' => e = .returned (.int .i64 (addV m cv)) ∧ Below w.heap.size w w' := by
  have HX := Lib.hid h
  have HC := Lib.hid hcv
  have HU := Lib.hid up
  have HM := Lib.hid hm
  clear h hcv up hm
  rcases Nat.eq_zero_or_pos cv.length with h0 | h0
  · have H := Lib.hid (addV_none (n := m) h0)
    have h0i : (cv.length : Int) = 0 := by omega
    go_enter Try.func58, Try.ntmps58
    go_wp2_with fail
    go_ret
    exact ⟨ret_i64 H.out.symm, Below.refl _ _⟩
  · have h0i : ¬ (cv.length : Int) = 0 := by omega
    have h0p : (0 : Int) < (cv.length : Int) := by omega
    obtain ⟨f, hf⟩ : ∃ f, cv[0]? = some f := ⟨cv[0], List.getElem?_eq_getElem h0⟩
    obtain ⟨cb, co, hA, _, p0, p1⟩ := pts_at HX.out.at_ hf
    have HF := Lib.hid hf
    have HA := Lib.hid hA
    have q0 : w.cell? ⟨cb, co, none⟩ = some (.int .i64 f.p) := by simpa using p0
    have q1 : w.cell? ⟨cb, co + 1, none⟩ = some (.int .i64 f.a) := by simpa using p1
    rw [hA]
    have hd1 : cv = f :: cv.drop 1 := by have := drop_at hf; simpa using this
    clear p0 p1 hA hf
    by_cases h1 : m ≤ f.p
    · have H := Lib.hid (show addV m cv = f.a by rw [hd1, addV, if_pos h1])
      clear hd1
      go_enter Try.func58, Try.ntmps58
      go_wp2_with fail
      go_ret
      exact ⟨ret_i64 H.out.symm, Below.refl _ _⟩
    · have H0 := Lib.hid (show addV m cv = addW m f (cv.drop 1) by rw [hd1, addV, if_neg h1]; rfl)
      clear hd1
      go_enter Try.func58, Try.ntmps58
      go_wp2_with fail
      clear q0 q1
      go_loopw [5] (fun i W => ∃ (k jj : Nat) (a : Pt), k ≤ cv.length ∧ i = .int .i64 k ∧ k = jj + 1 ∧ Hid (cv[jj]? = some a) ∧ Hid (addV m cv = addW m a (cv.drop k)) ∧ Hid (Bx w [] W)) (fun i _ => cv.length - (intOf i).toNat)
      case atStart => exact ⟨1, 0, f, by omega, rfl, rfl, HF.out, H0.out, Bx.nil _⟩
      case round =>
        obtain ⟨k, jj, a, hk, rfl, hkj, HA1, HW, HB⟩ := hrel
        have hjl : jj < cv.length := by omega
        have hw : IntKind.i64.wrap ((k : Int) - 1) = (jj : Int) := by rw [IntWalk.i64_in _ (by omega)]; omega
        by_cases hlt : k < cv.length
        · obtain ⟨d, hd⟩ : ∃ d, cv[k]? = some d := ⟨cv[k], List.getElem?_eq_getElem hlt⟩
          have HD := Lib.hid hd
          have HW2 := Lib.hid (show addV m cv = addW m a (d :: cv.drop (k + 1)) by rw [HW.out, drop_at hd])
          have hki : (k : Int) < (cv.length : Int) := by omega
          have hji : (jj : Int) < (cv.length : Int) := by omega
          have hia := HC.out a (List.mem_of_getElem? HA1.out)
          have hid := HC.out d (List.mem_of_getElem? hd)
          have hup : a.p < d.p := by
            have := List.pairwise_iff_getElem.1 HU.out jj k hjl hlt (by omega)
            rw [← (List.getElem?_eq_some_iff.1 HA1.out).2, ← (List.getElem?_eq_some_iff.1 hd).2]; exact this
          have HI := Lib.hid (mid_in hia.2 hid.2 HM.out hia.1)
          have HDN := Lib.hid (rdown_any (a := (d.a - a.a) * (m - a.p)) (b := d.p - a.p) (by omega) (by have := HI.out.1; omega))
          have w1 : IntKind.i64.wrap (d.a - a.a) = d.a - a.a := IntWalk.i64_in _ (by omega)
          have w2 : IntKind.i64.wrap (m - a.p) = m - a.p := IntWalk.i64_in _ (by have := HM.out; omega)
          have w3 : IntKind.i64.wrap ((d.a - a.a) * (m - a.p)) = (d.a - a.a) * (m - a.p) := IntWalk.i64_in _ (by have := HI.out.1; omega)
          have w4 : IntKind.i64.wrap (d.p - a.p) = d.p - a.p := IntWalk.i64_in _ (by omega)
          have w5 : IntKind.i64.wrap (a.a + flo ((d.a - a.a) * (m - a.p)) (d.p - a.p)) = midV a d m := IntWalk.i64_in _ (by have := HI.out.2.2; unfold midV at this; omega)
          clear hd HW hia hid hup h0i h0p
          go_wp2_with fail
          refine wp_of_eq (rad8_region (S := Bx w []) (cb := cb) (co := co) (cn := cv.length) (cc := cc) (e := jj) (f := k) (N := w.heap.size) (y1 := a) (y2 := d) hw hji hki (fun W h => pts_cells HX.out HA.out h.b HA1.out) (fun W h => pts_cells HX.out HA.out h.b HD.out)
            (fun _ _ h hb => h.on hb) (fun W W' G h hg hG => h.put hg hG (fun q hq => by cases hq)) (fun W h => h.b.size) HB (Lib.hid fun u2 G0 G1 W2 hS2 hG0 hG1 hB0 hB1 => ?_)) (by kernel_rfl)
          have HS2 := Lib.hid hS2
          have a0 := hB0.cell 0
          have a1 := hB0.cell 1
          have d0 := hB1.cell 0
          have d1 := hB1.cell 1
          clear hS2 hB0 hB1 hG0 hG1
          by_cases h3 : m ≤ d.p
          · have H := Lib.hid (show addV m cv = midV a d m by rw [HW2.out, addW, if_pos h3])
            clear HW2 hw
            go_wp2_with fail
            go_quiet ((go_at_call 77; exact Calls.quiet_of_same (HDN.out _)))
            go_wp2_with fail
            go_ret
            exact ⟨ret_i64 H.out.symm, below_drewN' HS2.out.b _⟩
          · have H := Lib.hid (show addV m cv = addW m d (cv.drop (k + 1)) by rw [HW2.out, addW, if_neg h3])
            clear HW2 hw
            go_wp2_with fail
            go_roundw
            case rel => exact ⟨k + 1, k, d, by omega, by go_num, rfl, HD.out, H.out, HS2.out⟩
            case measure => simp [intOf]; omega
        · have hke : k = cv.length := by omega
          have H := Lib.hid (show addV m cv = a.a by rw [HW.out, hke, List.drop_length]; rfl)
          obtain ⟨-, r1⟩ := pts_cells HX.out HA.out HB.out.b HA1.out
          have hjj : jj = cv.length - 1 := by omega
          have hw2 : IntKind.i64.wrap ((cv.length : Int) - 1) = ((cv.length - 1 : Nat) : Int) := by rw [IntWalk.i64_in _ (by omega)]; omega
          have hji : ((cv.length - 1 : Nat) : Int) < (cv.length : Int) := by omega
          rw [hjj] at r1
          clear HW hw hjj hkj hjl HA1
          subst hke
          go_wp2_with fail
          go_ret
          exact ⟨ret_i64 H.out.symm, HB.out.b⟩
end Go.Proofs.Ytalghiecjhfflaa
