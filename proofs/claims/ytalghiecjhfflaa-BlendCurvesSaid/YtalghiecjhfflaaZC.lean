/- ref02.curve: contract. -/
import Derived.Test.YtalghiecjhfflaaZB
import Derived.LoopIn
namespace Go.Proofs.Ytalghiecjhfflaa
open Go.RowKit Go.Shelf Go.Maps
attribute [local go_sem] Oper.semAt_some


theorem kept2 {w W : World} (hb : Below w.heap.size w W) {l : List Pt} {A : Option Addr} (h : PtsIn w A l) {b o k jj : Nat} {x y : Pt} (hA : A = some ⟨b, o, none⟩) (hx : l[k]? = some x) (hy : l[jj]? = some y) : W.cell? ⟨b, o + k * 2, none⟩ = some (.int .i64 x.p) ∧ W.cell? ⟨b, o + jj * 2, none⟩ = some (.int .i64 y.p) := by
  obtain ⟨b1, o1, e1, _, d1, _⟩ := pts_at (h.on hb).at_ hx
  obtain ⟨b2, o2, e2, _, d2, _⟩ := pts_at (h.on hb).at_ hy
  rw [hA] at e1 e2
  cases e1
  cases e2
  exact ⟨d1, d2⟩
set_option maxRecDepth 100000 in
set_option maxHeartbeats 2000000 in
theorem rcurve_any {w : World} {A : Option Addr} {c : Nat} {l : List Pt} (h : PtsIn w A l) :
    Calls Try.prog 53 #[.slice A l.length c] w fun e w' => e = .returned (.int .i64 (cvE l)) ∧ Below w.heap.size w w' := by
  have HI := Lib.hid h
  have hl := h.len
  clear h
  by_cases h6 : 6 < l.length
  · have H := Lib.hid (show cvE l = 3 by unfold cvE; rw [if_pos h6])
    go_enter Try.func53, Try.ntmps53
    go_wp2_with fail
    go_ret
    exact ⟨ret_i64 H.out.symm, Below.refl _ _⟩
  · have H0 := Lib.hid (show cvE l = curveE (-1) l by unfold cvE; rw [if_neg h6])
    rw [H0.out]
    go_enter Try.func53, Try.ntmps53
    go_wp2_with fail
    go_loopw [3] (fun i W => ∃ (k : Nat) (bef : Int), k ≤ l.length ∧ i = .int .i64 k ∧ Hid ((k = 0 ∧ bef = -1) ∨ ∃ (jj : Nat) (y : Pt), k = jj + 1 ∧ l[jj]? = some y ∧ bef = y.p) ∧ Hid (curveE bef (l.drop k) = curveE (-1) l) ∧ Hid (Below w.heap.size w W)) (fun i _ => l.length - (intOf i).toNat)
    case atStart => exact ⟨0, -1, by omega, rfl, .inl ⟨rfl, rfl⟩, rfl, Below.refl _ _⟩
    case round =>
      obtain ⟨k, bef, hk, rfl, HK, HR, HB⟩ := hrel
      by_cases hlt : k < l.length
      · obtain ⟨x, hx⟩ : ∃ x, l[k]? = some x := ⟨l[k], List.getElem?_eq_getElem hlt⟩
        obtain ⟨bb, o, hA, _, c0, c1⟩ := pts_at (HI.out.on HB.out).at_ hx
        have HA := Lib.hid hA
        rw [hA]
        clear hA
        have HX := Lib.hid hx
        have HD := Lib.hid (show curveE bef (x :: l.drop (k + 1)) = curveE (-1) l by rw [← HR.out, drop_at hx])
        clear hx HR
        cases hz1 : inB x.p 0 20 with
        | false =>
          have H := Lib.hid (show curveE (-1) l = 7 by rw [← HD.out, curveE_7a hz1])
          have HZ1 := Lib.hid hz1
          clear HD hz1
          go_wp2_with (first
            | (go_at_call 50; (with_reducible refine (rinB_any _ _ _ _).mono ?_); rintro e w' ⟨rfl, rfl⟩; first | rw [HZ1.out] | rw [HZ2.out])
            | fail)
          go_ret
          exact ⟨ret_i64 H.out.symm, HB.out⟩
        | true =>
          have HZ1 := Lib.hid hz1
          cases hz2 : inB x.a (-300) 300 with
          | false =>
            have H := Lib.hid (show curveE (-1) l = 7 by rw [← HD.out, curveE_7b hz2])
            have HZ2 := Lib.hid hz2
            clear HD hz1 hz2
            go_wp2_with (first
              | (go_at_call 50; (with_reducible refine (rinB_any _ _ _ _).mono ?_); rintro e w' ⟨rfl, rfl⟩; first | rw [HZ1.out] | rw [HZ2.out])
              | fail)
            go_ret
            exact ⟨ret_i64 H.out.symm, HB.out⟩
          | true =>
            have HZ2 := Lib.hid hz2
            rcases HK.out with ⟨rfl, rfl⟩ | ⟨jj, y, rfl, hy, rfl⟩
            · have hn : ¬ x.p ≤ -1 := by have := inB_iff.1 hz1; omega
              have H := Lib.hid (show curveE x.p (l.drop (0 + 1)) = curveE (-1) l by rw [← HD.out, curveE_0 hz1 hz2 hn])
              clear HD hz1 hz2 HK
              simp only [Nat.zero_mul, Nat.add_zero] at c0 c1
              go_wp2_with (first
                | (go_at_call 50; (with_reducible refine (rinB_any _ _ _ _).mono ?_); rintro e w' ⟨rfl, rfl⟩; first | rw [HZ1.out] | rw [HZ2.out])
                | fail)
              refine wp_of_eq (rc0_region (S := Below w.heap.size w) (fun W W' h hb => h.trans (hb.mono h.size))  HB (Lib.hid fun u W h => ?_)) (by kernel_rfl)
              have HG := Lib.hid h
              clear h
              clear HB
              go_wp2_with fail
              go_roundw
              case rel => exact ⟨1, x.p, by omega, by go_num, .inr ⟨0, x, rfl, HX.out, rfl⟩, H.out, HG.out⟩
              case measure => simp [intOf]; omega
            · have hsub : IntKind.i64.wrap (((jj + 1 : Nat) : Int) - 1) = (jj : Int) := by rw [show ((jj + 1 : Nat) : Int) - 1 = (jj : Int) by omega]; exact IntWalk.i64_in _ (by omega)
              by_cases h3 : x.p ≤ y.p
              · have H := Lib.hid (show curveE (-1) l = 2 by rw [← HD.out, curveE_2 hz1 hz2 h3])
                clear HD hz1 hz2 HK
                generalize hkk : jj + 1 = k at *
                go_wp2_with (first
                  | (go_at_call 50; (with_reducible refine (rinB_any _ _ _ _).mono ?_); rintro e w' ⟨rfl, rfl⟩; first | rw [HZ1.out] | rw [HZ2.out])
                  | fail)
                refine wp_of_eq (rct_region (S := Below w.heap.size w) (fun W W' h hb => h.trans (hb.mono h.size)) (k := k) (jj := jj) (p := x.p) (q := y.p) (by omega) (by omega) (by omega) hsub (by simpa using h3) (fun W hW => kept2 hW HI.out HA.out HX.out hy) HB (Lib.hid fun u W h => ?_)) (by kernel_rfl)
                have HG := Lib.hid h
                clear h
                clear HB hsub
                go_wp2_with fail
                go_ret
                exact ⟨ret_i64 H.out.symm, HG.out⟩
              · have H := Lib.hid (show curveE x.p (l.drop (jj + 1 + 1)) = curveE (-1) l by rw [← HD.out, curveE_0 hz1 hz2 h3])
                clear HD hz1 hz2 HK
                generalize hkk : jj + 1 = k at *
                go_wp2_with (first
                  | (go_at_call 50; (with_reducible refine (rinB_any _ _ _ _).mono ?_); rintro e w' ⟨rfl, rfl⟩; first | rw [HZ1.out] | rw [HZ2.out])
                  | fail)
                refine wp_of_eq (rcf_region (S := Below w.heap.size w) (fun W W' h hb => h.trans (hb.mono h.size)) (k := k) (jj := jj) (p := x.p) (q := y.p) (by omega) (by omega) (by omega) hsub (by simpa using h3) (fun W hW => kept2 hW HI.out HA.out HX.out hy) HB (Lib.hid fun u W h => ?_)) (by kernel_rfl)
                have HG := Lib.hid h
                clear h
                clear HB hsub
                go_wp2_with fail
                go_roundw
                case rel => exact ⟨k + 1, x.p, by omega, by go_num, .inr ⟨k, x, rfl, HX.out, rfl⟩, H.out, HG.out⟩
                case measure => simp [intOf]; omega
      · obtain rfl : k = l.length := by omega
        have H := Lib.hid (show curveE (-1) l = 0 by rw [← HR.out, List.drop_length]; rfl)
        go_wp2_with fail
        go_ret
        exact ⟨ret_i64 H.out.symm, HB.out⟩
end Go.Proofs.Ytalghiecjhfflaa
