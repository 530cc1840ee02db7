/- BlendCurves: the law. -/
import Derived.Test.YtalghiecjhfflaaZR0
import Derived.Test.YtalghiecjhfflaaZR1
import Derived.Test.YtalghiecjhfflaaZR2
import Derived.Test.YtalghiecjhfflaaZR3
import Derived.LoopIn
import Derived.Lib.MinMax
namespace Go.Proofs.Ytalghiecjhfflaa
open Go.RowKit Go.Shelf Go.Maps
attribute [local go_sem] Oper.semAt_some


set_option maxRecDepth 100000 in
set_option maxHeartbeats 8000000 in
theorem lcurves_any {w : World} {A : Option Addr} {c : Nat} {l : List Bw} (h : BwsIn w A l) (hc : l.length ≤ c) {z : Int} (hz8 : 0 ≤ z ∧ z ≤ 255) :
    Calls Try.prog 13 #[.slice A l.length c, .int .u8 z] w fun e w' => e = .returned (.bool true) ∧ Below w.heap.size w w' := by
  have HV := Lib.hid (lvalid_any (c := c) h)
  by_cases hz : bdE l = 0
  · have hok := bd_ok hz
    have HZ := Lib.hid (show (bdE l == 0) = true by rw [hz]; rfl)
    have hm1 : 1 ≤ l.length := hok.1.1
    have m1 := Int.emod_nonneg z (show (l.length : Int) ≠ 0 by omega)
    have m2 := Int.emod_lt_of_pos z (show (0 : Int) < l.length by omega)
    have q0 : IntKind.i64.wrap z = z := IntWalk.i64_in _ (by omega)
    have q1 : z.tmod (l.length : Int) = z % (l.length : Int) := Int.tmod_eq_emod_of_nonneg hz8.1
    have q2 : IntKind.i64.wrap (z % (l.length : Int)) = z % (l.length : Int) := IntWalk.i64_in _ (by have := h.len; omega)
    have q3 : ¬ (l.length : Int) = 0 := by omega
    have q4 : ¬ l = [] := by intro e; rw [e] at hm1; simp at hm1
    obtain ⟨kk, hkk⟩ : ∃ kk : Nat, z % (l.length : Int) = (kk : Int) := ⟨(z % (l.length : Int)).toNat, by omega⟩
    rw [hkk] at q1 q2 m1 m2
    have hk : kk < l.length := by omega
    obtain ⟨x, hx⟩ : ∃ x, l[kk]? = some x := ⟨l[kk], List.getElem?_eq_getElem hk⟩
    have ok := hok.2 x (List.mem_of_getElem? hx)
    have HU := Lib.hid ok.up
    have h6 := ok.len
    have HP := Lib.hid (h.cv x (List.mem_of_getElem? hx))
    have HR : Hid (∀ (W : World) (n : Nat), n ≤ 20 → Below w.heap.size w W → Calls Try.prog 17 #[.slice A l.length c, .int .i64 (kk : Int), .int .i64 (n : Int)] W fun e w' => e = .returned (.tuple #[.int .i64 (addV n x.cv), .int .i64 0]) ∧ Below W.heap.size W w') := fun W n hn hb => by
      have := praise_any (i := (kk : Int)) (n := (n : Int)) (h.on hb) hc
      have e1 : orE [bdE l, idxE l.length kk] = 0 := by unfold idxE; rw [hz, inB_t (by omega) (by omega)]; rfl
      rwa [show raiseV l kk n = (addV n x.cv, 0) by unfold raiseV; rw [e1, if_neg (by decide), if_neg (by rw [inB_t (by omega) (by omega)]; decide)]; simp [hx]] at this
    have HC6 := Lib.hid (fun (W : World) (hb : Below w.heap.size w W) (b o : Nat) (hA : A = some ⟨b, o, none⟩) => (wax_at (h.on hb) hA hx).2.2.2.2.2.2)
    obtain ⟨b, o, rfl, _⟩ := h.get hx
    clear hz hok hz8 hkk hx ok h m1 hm1
    go_enter Try.func13, Try.ntmps13
    go_wp2_with (first
      | (go_at_call 36; (with_reducible refine HV.out.mono ?_); rintro e w1 ⟨rfl, hb⟩; rw [HZ.out]; have HB0 := Lib.hid hb; have c6 := HC6.out _ hb _ _ rfl; clear hb)
      | fail)
    go_loopw [9] (fun j W => ∃ n : Nat, n ≤ 21 ∧ j = .int .i64 n ∧ Hid (Below w.heap.size w W)) (fun j _ => 21 - (intOf j).toNat)
    case atStart => exact ⟨0, by omega, rfl, HB0.out⟩
    case round =>
      obtain ⟨n, hn, rfl, HBn⟩ := hrel
      by_cases hn20 : n ≤ 20
      · have hni : (n : Int) ≤ 20 := by omega
        obtain ⟨v, hv⟩ : ∃ v, addV n x.cv = v := ⟨_, rfl⟩
        have HRn := Lib.hid (HR.out _ n hn20 HBn.out)
        have G0 := Lib.hid (fun h0 => (addV_none (n := (n : Int)) h0 : addV n x.cv = 0))
        have G1 := Lib.hid (fun i q hq hnq => (addV_pt HU.out (n := (n : Int)) (i := i) (q := q) hq hnq : addV n x.cv = q.a))
        have G2 := Lib.hid (fun e a b ha hb h1 h2 => (addV_btw HU.out (n := (n : Int)) (e := e) (a := a) (b := b) ha hb h1 h2 : min a.a b.a ≤ addV n x.cv ∧ addV n x.cv ≤ max a.a b.a))
        have G3 := Lib.hid (fun q hq h1 => (addV_lo (n := (n : Int)) (q := q) hq h1 : addV n x.cv = q.a))
        have G4 := Lib.hid (fun e q hq he h1 => (addV_hi HU.out (n := (n : Int)) (e := e) (q := q) hq he h1 : addV n x.cv = q.a))
        rw [hv] at HRn G0 G1 G2 G3 G4
        clear hv
        rcases Nat.eq_zero_or_pos x.cv.length with h0 | h0
        · have hv0 : (v != 0) = false := by simpa using G0.out h0
          clear G0 G1 G2 G3 G4
          generalize x.cv.length = m at *
          subst h0
          go_wp2_with (first
            | (go_at_call 17; (with_reducible refine HRn.out.mono ?_); rintro e w2 ⟨rfl, hb⟩; have HB1 := Lib.hid (HBn.out.trans (hb.mono HBn.out.size)); clear hb)
            | fail)
          go_loopw [12] (fun j W => ∃ i : Nat, i ≤ 0 ∧ j = .int .i64 i ∧ Hid (Below w.heap.size w W)) (fun j _ => 0 - (intOf j).toNat)
          case atStart => exact ⟨0, by omega, rfl, HB1.out⟩
          case round =>
            obtain ⟨i, hi, rfl, HB⟩ := hrel
            obtain rfl : i = 0 := by omega
            go_wp2_with fail
            go_roundw
            case rel => exact ⟨n + 1, by omega, by go_num, HB.out⟩
            case measure => simp [intOf]; omega
        · obtain ⟨f, hf⟩ : ∃ f, x.cv[0]? = some f := ⟨x.cv[0], List.getElem?_eq_getElem h0⟩
          obtain ⟨cb, co, hca, _⟩ := pts_at HP.out.at_ hf
          have HCA := Lib.hid hca
          have h0i : ¬ (x.cv.length : Int) = 0 := by omega
          have h0n : ¬ x.cv = [] := by intro e; rw [e] at h0; simp at h0
          rw [hca]
          clear hca
          go_wp2_with (first
            | (go_at_call 17; (with_reducible refine HRn.out.mono ?_); rintro e w2 ⟨rfl, hb⟩; have HB1 := Lib.hid (HBn.out.trans (hb.mono HBn.out.size)); clear hb)
            | fail)
          go_loopw [12] (fun j W => ∃ i : Nat, i ≤ x.cv.length ∧ j = .int .i64 i ∧ Hid (Below w.heap.size w W)) (fun j _ => x.cv.length - (intOf j).toNat)
          case atStart => exact ⟨0, by omega, rfl, HB1.out⟩
          case round =>
            obtain ⟨i, hi, rfl, HB⟩ := hrel
            obtain ⟨wi, rfl⟩ : ∃ wi : World, wi = wr := ⟨_, rfl⟩
            by_cases hil : i < x.cv.length
            · obtain ⟨q, hq⟩ : ∃ q, x.cv[i]? = some q := ⟨x.cv[i], List.getElem?_eq_getElem hil⟩
              have hii : (i : Int) < (x.cv.length : Int) := by omega
              have HCQ := Lib.hid (fun (W : World) (hW : Below w.heap.size w W) => pts_cells HP.out HCA.out hW hq)
              obtain ⟨c0, c1⟩ := HCQ.out wi HB.out
              rcases Nat.eq_zero_or_pos i with rfl | hpos
              · simp only [Nat.zero_mul, Nat.add_zero] at c0 c1
                by_cases heq : ((n : Nat) : Int) = q.p
                · have e1 : (((n : Nat) : Int) == q.p) = true := by simpa using heq
                  have e2 : (v != q.a) = false := by simpa using G1.out _ q hq heq
                  clear heq
                  clear hq
                  go_wp2_with fail
                  refine wp_of_eq (lc0_region (S := Below wi.heap.size wi) (fun W W' h hb => h.trans (hb.mono h.size)) (Lib.hid (Below.refl _ _)) (Lib.hid fun u W hW => ?_)) (by kernel_rfl)
                  have HB2 := Lib.hid (HB.out.trans (hW.mono HB.out.size))
                  clear hW HB
                  go_wp2_with fail
                  go_roundw
                  case rel => exact ⟨0 + 1, by omega, by go_num, HB2.out⟩
                  case measure => simp [intOf]; omega
                · have e1 : (((n : Nat) : Int) == q.p) = false := by simpa using heq
                  clear heq
                  clear hq
                  go_wp2_with fail
                  refine wp_of_eq (lc0_region (S := Below wi.heap.size wi) (fun W W' h hb => h.trans (hb.mono h.size)) (Lib.hid (Below.refl _ _)) (Lib.hid fun u W hW => ?_)) (by kernel_rfl)
                  have HB2 := Lib.hid (HB.out.trans (hW.mono HB.out.size))
                  clear hW HB
                  go_wp2_with fail
                  go_roundw
                  case rel => exact ⟨0 + 1, by omega, by go_num, HB2.out⟩
                  case measure => simp [intOf]; omega
              · obtain ⟨jj, hjj⟩ : ∃ jj, i = jj + 1 := ⟨i - 1, by omega⟩
                obtain ⟨y, hy⟩ : ∃ y, x.cv[jj]? = some y := ⟨x.cv[jj]'(by omega), List.getElem?_eq_getElem _⟩
                have hji : (jj : Int) < (x.cv.length : Int) := by omega
                have hsub : IntKind.i64.wrap ((i : Int) - 1) = (jj : Int) := by rw [IntWalk.i64_in _ (by omega)]; omega
                have HCY := Lib.hid (fun (W : World) (hW : Below w.heap.size w W) => pts_cells HP.out HCA.out hW hy)
                have hyq := pts_lt HU.out (show jj < i by omega) hy hq
                by_cases h1 : y.p < (n : Int)
                · by_cases h2 : (n : Int) < q.p
                  · have G := G2.out jj y q hy (by rw [← hjj]; exact hq) h1 h2
                    have heq : ¬ ((n : Nat) : Int) = q.p := by omega
                    have k3 : decide (v < min y.a q.a) = false := decide_eq_false (by omega)
                    have k4 : decide (v > max y.a q.a) = false := decide_eq_false (by omega)
                    have k1 : decide ((n : Int) > y.p) = true := decide_eq_true h1
                    have k2 : decide ((n : Int) < q.p) = true := decide_eq_true h2
                    clear G hjj hy hyq h1 h2
                    have e1 : (((n : Nat) : Int) == q.p) = false := by simpa using heq
                    clear heq
                    clear hq
                    go_wp2_with fail
                    refine wp_of_eq (lc3_region (S := Below wi.heap.size wi) (fun W W' h hb => h.trans (hb.mono h.size)) (k := i) (jj := jj) (y := y) (x := q) hpos hii hji hsub (fun W hW => HCQ.out W (HB.out.trans (hW.mono HB.out.size))) (fun W hW => HCY.out W (HB.out.trans (hW.mono HB.out.size))) k1 k2 k3 k4 (Lib.hid (Below.refl _ _)) (Lib.hid fun u W hW => ?_)) (by kernel_rfl)
                    have HB2 := Lib.hid (HB.out.trans (hW.mono HB.out.size))
                    clear hW HB
                    go_wp2_with fail
                    go_roundw
                    case rel => exact ⟨i + 1, by omega, by go_num, HB2.out⟩
                    case measure => simp [intOf]; omega
                  · have k1 : decide ((n : Int) > y.p) = true := decide_eq_true h1
                    have k2 : decide ((n : Int) < q.p) = false := decide_eq_false h2
                    clear hjj hy hyq h1 h2
                    by_cases heq : ((n : Nat) : Int) = q.p
                    · have e1 : (((n : Nat) : Int) == q.p) = true := by simpa using heq
                      have e2 : (v != q.a) = false := by simpa using G1.out _ q hq heq
                      clear heq
                      clear hq
                      go_wp2_with fail
                      refine wp_of_eq (lc2_region (S := Below wi.heap.size wi) (fun W W' h hb => h.trans (hb.mono h.size)) (k := i) (jj := jj) (y := y) (x := q) hpos hii hji hsub (fun W hW => HCQ.out W (HB.out.trans (hW.mono HB.out.size))) (fun W hW => HCY.out W (HB.out.trans (hW.mono HB.out.size))) k1 k2 (Lib.hid (Below.refl _ _)) (Lib.hid fun u W hW => ?_)) (by kernel_rfl)
                      have HB2 := Lib.hid (HB.out.trans (hW.mono HB.out.size))
                      clear hW HB
                      go_wp2_with fail
                      go_roundw
                      case rel => exact ⟨i + 1, by omega, by go_num, HB2.out⟩
                      case measure => simp [intOf]; omega
                    · have e1 : (((n : Nat) : Int) == q.p) = false := by simpa using heq
                      clear heq
                      clear hq
                      go_wp2_with fail
                      refine wp_of_eq (lc2_region (S := Below wi.heap.size wi) (fun W W' h hb => h.trans (hb.mono h.size)) (k := i) (jj := jj) (y := y) (x := q) hpos hii hji hsub (fun W hW => HCQ.out W (HB.out.trans (hW.mono HB.out.size))) (fun W hW => HCY.out W (HB.out.trans (hW.mono HB.out.size))) k1 k2 (Lib.hid (Below.refl _ _)) (Lib.hid fun u W hW => ?_)) (by kernel_rfl)
                      have HB2 := Lib.hid (HB.out.trans (hW.mono HB.out.size))
                      clear hW HB
                      go_wp2_with fail
                      go_roundw
                      case rel => exact ⟨i + 1, by omega, by go_num, HB2.out⟩
                      case measure => simp [intOf]; omega
                · have heq : ¬ ((n : Nat) : Int) = q.p := by omega
                  have k1 : decide ((n : Int) > y.p) = false := decide_eq_false (by omega)
                  clear hjj hy hyq h1
                  have e1 : (((n : Nat) : Int) == q.p) = false := by simpa using heq
                  clear heq
                  clear hq
                  go_wp2_with fail
                  refine wp_of_eq (lc1_region (S := Below wi.heap.size wi) (fun W W' h hb => h.trans (hb.mono h.size)) (k := i) (jj := jj) (y := y) (x := q) hpos hii hji hsub (fun W hW => HCQ.out W (HB.out.trans (hW.mono HB.out.size))) (fun W hW => HCY.out W (HB.out.trans (hW.mono HB.out.size))) k1 (Lib.hid (Below.refl _ _)) (Lib.hid fun u W hW => ?_)) (by kernel_rfl)
                  have HB2 := Lib.hid (HB.out.trans (hW.mono HB.out.size))
                  clear hW HB
                  go_wp2_with fail
                  go_roundw
                  case rel => exact ⟨i + 1, by omega, by go_num, HB2.out⟩
                  case measure => simp [intOf]; omega
            · obtain rfl : i = x.cv.length := by omega
              have hw : IntKind.i64.wrap ((x.cv.length : Int) - 1) = ((x.cv.length - 1 : Nat) : Int) := by rw [IntWalk.i64_in _ (by omega)]; omega
              have hwl : ((x.cv.length - 1 : Nat) : Int) < (x.cv.length : Int) := by omega
              obtain ⟨g, hg⟩ : ∃ g, x.cv[x.cv.length - 1]? = some g := ⟨x.cv[x.cv.length - 1]'(by omega), List.getElem?_eq_getElem _⟩
              obtain ⟨f0, f1⟩ := pts_cells HP.out HCA.out HB.out hf
              obtain ⟨l0, l1⟩ := pts_cells HP.out HCA.out HB.out hg
              simp only [Nat.zero_mul, Nat.add_zero] at f0 f1
              have h0p : (0 : Int) < (x.cv.length : Int) := by omega
              have hfg : f.p ≤ g.p := by
                rcases Nat.eq_zero_or_pos (x.cv.length - 1) with e | e
                · rw [e, hf] at hg; cases hg; exact Int.le_refl _
                · exact Int.le_of_lt (pts_lt HU.out e hf hg)
              by_cases h1 : (n : Int) < f.p
              · have k1 : (v != f.a) = false := by simpa using G3.out f hf h1
                have k2 : ¬ g.p < (n : Int) := by omega
                clear hf hg hfg
                go_wp2_with fail
                go_roundw
                case rel => exact ⟨n + 1, by omega, by go_num, HB.out⟩
                case measure => simp [intOf]; omega
              · by_cases h2 : g.p < (n : Int)
                · have k1 : (v != g.a) = false := by simpa using G4.out _ g hg (by omega) h2
                  clear hf hg hfg
                  go_wp2_with fail
                  go_roundw
                  case rel => exact ⟨n + 1, by omega, by go_num, HB.out⟩
                  case measure => simp [intOf]; omega
                · clear hf hg hfg
                  go_wp2_with fail
                  go_roundw
                  case rel => exact ⟨n + 1, by omega, by go_num, HB.out⟩
                  case measure => simp [intOf]; omega
      · obtain rfl : n = 21 := by omega
        go_wp2_with (first
          | (go_at_call 19; (with_reducible refine (lawake_any _).mono ?_); rintro e w4 ⟨rfl, hb⟩; have HBA := Lib.hid (HBn.out.trans (hb.mono HBn.out.size)); clear hb)
          | fail)
        go_ret
        exact ⟨rfl, HBA.out⟩
  · have HZ := Lib.hid (show (bdE l == 0) = false by simpa using hz)
    have hz1 : (bdE l != 0) = true := by simpa using hz
    have HR := Lib.hid (fun (W : World) (hb : Below w.heap.size w W) => praise_any (i := 0) (n := 0) (h.on hb) hc)
    rw [show raiseV l 0 0 = (0, bdE l) by
      have e1 : orE [bdE l, idxE l.length 0] = bdE l := by simp only [orE]; rw [if_pos hz]
      unfold raiseV; rw [e1, if_pos hz]] at HR
    clear h hz
    generalize bdE l = y at *
    go_enter Try.func13, Try.ntmps13
    go_wp2_with (first
      | (go_at_call 36; (with_reducible refine HV.out.mono ?_); rintro e w1 ⟨rfl, hb⟩; rw [HZ.out]; have HB0 := Lib.hid hb; clear hb)
      | (go_at_call 17; (with_reducible refine (HR.out _ HB0.out).mono ?_); rintro e w2 ⟨rfl, hb⟩; have HB1 := Lib.hid (HB0.out.trans (hb.mono HB0.out.size)); clear hb)
      | (go_at_call 19; (with_reducible refine (lawake_any _).mono ?_); rintro e w4 ⟨rfl, hb⟩; have HBA := Lib.hid (HB1.out.trans (hb.mono HB1.out.size)); clear hb)
      | fail)
    go_ret
    exact ⟨rfl, HBA.out⟩
end Go.Proofs.Ytalghiecjhfflaa
