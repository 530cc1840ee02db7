/- BlendWeighed: the law. -/
import Derived.Test.YtalghiecjhfflaaZG
import Derived.LoopIn
namespace Go.Proofs.Ytalghiecjhfflaa
open Go.RowKit Go.Shelf Go.Maps
attribute [local go_sem] Oper.semAt_some


set_option maxRecDepth 100000 in
set_option maxHeartbeats 4000000 in
theorem lweighed_any {w : World} {A X : Option Addr} {c xc : Nat} {l : List Bw} {t : List Int} (h : BwsIn w A l) (hc : l.length ≤ c) (ht : U16In w X t) {gr : Int} (hg : 0 ≤ gr ∧ gr ≤ 4294967295) :
    Calls Try.prog 11 #[.slice A l.length c, .slice X t.length xc, .int .u32 gr] w fun e w' => e = .returned (.bool true) ∧ Below w.heap.size w w' := by
  have m1 := Int.emod_nonneg gr (show (1000001 : Int) ≠ 0 by omega)
  have m2 := Int.emod_lt_of_pos gr (show (0 : Int) < 1000001 by omega)
  have q1 : gr.tmod 1000001 = gr % 1000001 := Int.tmod_eq_emod_of_nonneg hg.1
  have q2 : IntKind.u32.wrap (gr % 1000001) = gr % 1000001 := IntWalk.u32_in _ (by omega)
  have q3 : IntKind.i64.wrap (gr % 1000001) = gr % 1000001 := IntWalk.i64_in _ (by omega)
  have HV := Lib.hid (lvalid_any (c := c) h)
  have HI := Lib.hid h
  have HT := Lib.hid ht
  have HN := Lib.hid (And.intro m1 m2)
  by_cases hz : bdE l = 0
  · have hok := bd_ok hz
    have hm1 : 1 ≤ l.length := hok.1.1
    have hm5 : l.length ≤ 5 := hok.1.2
    have HP := Lib.hid (fun (W : World) (hb : Below w.heap.size w W) => lparted_any (c := xc) (ht.on hb) hm1 (by omega))
    have HRK := Lib.hid (parL_ok ht.rng hm1)
    have HZ := Lib.hid (show (bdE l == 0) = true by rw [hz]; rfl)
    have HWV := Lib.hid (show weighV l (parL l.length t) (gr % 1000001) = (wgL (gr % 1000001) (parL l.length t) (parL l.length t).length, 0) by
      have e1 : orE [bdE l, recE l.length (parL l.length t)] = 0 := by rw [hz, rec_ok.2 HRK.out]; rfl
      unfold weighV
      rw [if_neg (by rw [e1]; decide), if_neg (by rw [inB_t (by omega) (by omega)]; decide)])
    have HW : Hid (∀ (W : World) (R : Option Addr) (rc : Nat), Below w.heap.size w W → IntsIn W R (parL l.length t) → Calls Try.prog 24 #[.slice A l.length c, .slice R (parL l.length t).length rc, .int .i64 (gr % 1000001)] W fun e w' => ∃ v, e = .returned (.tuple #[v, .int .i64 0]) ∧ IntsOut W.heap.size w' v (wgL (gr % 1000001) (parL l.length t) (parL l.length t).length) ∧ Below W.heap.size W w') := fun W R rc hb hr => by
      have := weigh_any (c := c) (rc := rc) (n := gr % 1000001) (h.on hb) hc hr
      rw [HWV.out] at this
      exact this
    clear h ht hz hok m1 m2 HWV
    generalize gr % 1000001 = n at *
    generalize parL l.length t = r at *
    have hrl := HRK.out.len
    rw [hrl] at HW
    go_enter Try.func11, Try.ntmps11
    go_wp2_with (first
      | (go_at_call 36; (with_reducible refine HV.out.mono ?_); rintro e w1 ⟨rfl, hb⟩; rw [HZ.out]; have HB1 := Lib.hid hb; clear hb)
      | (go_at_call 37; (with_reducible refine (HP.out _ HB1.out).mono ?_); rintro e w2 ⟨v, rfl, hv, hb⟩; obtain ⟨R, rc, rfl, hi⟩ := hv.in_; have HR := Lib.hid hi; have HB2 := Lib.hid (HB1.out.trans (hb.mono HB1.out.size)); clear hv hi hb)
      | (go_at_call 24; (with_reducible refine Calls.mono (HW.out _ R rc HB2.out HR.out) ?_); rintro e w3 ⟨v, rfl, hv, hb⟩; obtain ⟨B, bc, rfl, hi⟩ := hv.in_; have HA := Lib.hid hi; have HR3 := Lib.hid (HR.out.on hb); have HB3 := Lib.hid (HB2.out.trans (hb.mono HB2.out.size)); clear hv hi hb; rw [wgL_len])
      | fail)
    go_loopw [13, 14] (fun s i W => ∃ k : Nat, k ≤ l.length ∧ i = .int .i64 k ∧ s = .int .i64 (n * sumL (r.take k) / 20) ∧ Hid (IntsIn W B (wgL n r l.length)) ∧ Hid (IntsIn W R r) ∧ Hid (Below w.heap.size w W)) (fun _ i _ => l.length - (intOf i).toNat)
    case atStart => exact ⟨0, by omega, rfl, by simp [sumL], HA.out, HR3.out, HB3.out⟩
    case round =>
      obtain ⟨k, hk, rfl, rfl, HA, HR, HB⟩ := hrel
      by_cases hlt : k < l.length
      · have hki : (k : Int) < l.length := by omega
        have hkr : k < r.length := by omega
        obtain ⟨y, hy⟩ : ∃ y, r[k]? = some y := ⟨r[k], List.getElem?_eq_getElem hkr⟩
        have hx := wg_at (g := n) (r := r) hlt
        have s1 := HRK.out.take k
        have s2 := HRK.out.take (k + 1)
        have hyi := HRK.out.in_ y (List.mem_of_getElem? hy)
        have hs := sum_at hy
        have t1 := wg_in (g := n) (by have := HN.out; omega) s1
        have t2 := wg_in (g := n) (by have := HN.out; omega) s2
        have HS := Lib.hid hs
        rw [hs] at t2 s2 hx
        generalize sumL (r.take k) = sa at *
        obtain ⟨b1, o1, eA, _, c1⟩ := ints_at HA.out.at_ hx
        obtain ⟨b2, o2, eR, _, c2⟩ := ints_at HR.out.at_ hy
        have HC := Lib.hid (fun (W : World) (hb : Below wr.heap.size wr W) => cells2 (HA.out.on hb) (HR.out.on hb) eA eR hx hy)
        have hmul : n * (sa + y) = n * sa + n * y := Int.mul_add _ _ _
        have hny : 0 ≤ n * y ∧ n * y ≤ 20000000 := (wg_in (g := n) (by have := HN.out; omega) hyi).1
        obtain ⟨u1, hu1⟩ : ∃ z, n * sa / 20 = z := ⟨_, rfl⟩
        obtain ⟨u2, hu2⟩ : ∃ z, n * (sa + y) / 20 = z := ⟨_, rfl⟩
        rw [hu1] at t1
        rw [hu2] at t2
        rw [hu1, hu2] at HC c1
        have hd1 : u1 ≤ u2 ∧ -20 < 20 * (u2 - u1) - n * y ∧ 20 * (u2 - u1) - n * y < 20 := by omega
        have g4 : IntKind.i64.wrap (u1 + (u2 - u1)) = u2 := by rw [show u1 + (u2 - u1) = u2 by omega]; exact IntWalk.i64_in _ (by omega)
        have HU2 := Lib.hid hu2
        obtain ⟨x, hxe⟩ : ∃ z, u2 - u1 = z := ⟨_, rfl⟩
        rw [hxe] at HC c1 hd1 g4
        have hx0 : 0 ≤ x := by omega
        have hx1 : x ≤ 1000000 := by omega
        have g1 : IntKind.i64.wrap (20 * x) = 20 * x := IntWalk.i64_in _ (by omega)
        have g2 : IntKind.i64.wrap (n * y) = n * y := IntWalk.i64_in _ (by omega)
        have g3 : IntKind.i64.wrap (20 * x - n * y) = 20 * x - n * y := IntWalk.i64_in _ (by omega)
        rw [hu1]
        rw [eA, eR]
        clear hx hy hs s1 s2 t1 t2 c1 c2 hu1 hu2 hmul hny hxe
        go_wp2_with fail
        refine wp_of_eq (lw13_region (S := Below wr.heap.size wr) (fun W W' h hb => h.trans (hb.mono h.size)) (x := x) (y := y) (nn := n) hki g1 g2 g3 (fun W hW => HC.out W hW) (Lib.hid (Below.refl _ _)) (Lib.hid fun u W h => ?_)) (by kernel_rfl)
        obtain ⟨d1, -⟩ := HC.out W h
        have HA2 := Lib.hid (HA.out.on h)
        have HR2 := Lib.hid (HR.out.on h)
        have HB2 := Lib.hid (HB.out.trans (h.mono HB.out.size))
        have f2 := hd1.2.1
        have f3 := hd1.2.2
        clear h HA HR HB HC g1 g2 g3 hd1
        generalize 20 * x - n * y = f at *
        have k0 : ¬ x < 0 := by omega
        have k1 : ¬ 20 ≤ f := by omega
        have k2 : ¬ f ≤ -20 := by omega
        go_wp2_with fail
        go_roundw
        case rel => exact ⟨k + 1, by omega, by go_num, by rw [HS.out, HU2.out], by rw [← eA]; exact HA2.out, by rw [← eR]; exact HR2.out, HB2.out⟩
        case measure => simp [intOf]; omega
      · obtain rfl : k = l.length := by omega
        have e0 : n * sumL (r.take l.length) / 20 = n := by
          rw [List.take_of_length_le (by omega), HRK.out.sum]; omega
        rw [e0]
        clear e0
        go_wp2_with (first
          | (go_at_call 19; (with_reducible refine (lawake_any _).mono ?_); rintro e w4 ⟨rfl, hb⟩; have HBA := Lib.hid (HB.out.trans (hb.mono HB.out.size)); clear hb)
          | fail)
        go_ret
        exact ⟨rfl, HBA.out⟩
  · have HZ := Lib.hid (show (bdE l == 0) = false by simpa using hz)
    have HWV : Hid (∃ e, weighV l [] (gr % 1000001) = ([], e) ∧ (e != 0) = true) := by
      have e1 : orE [bdE l, recE l.length []] = bdE l := by simp only [orE]; rw [if_pos hz]
      refine ⟨bdE l, ?_, by simpa using hz⟩
      unfold weighV
      rw [e1, if_pos hz]
    obtain ⟨z, hz1, hz2⟩ := HWV
    have HW : Hid (∀ (W : World), Below w.heap.size w W → Calls Try.prog 24 #[.slice A l.length c, .slice none 0 0, .int .i64 (gr % 1000001)] W fun e w' => ∃ v, e = .returned (.tuple #[v, .int .i64 z]) ∧ IntsOut W.heap.size w' v [] ∧ Below W.heap.size W w') := fun W hb => by
      have := weigh_any (c := c) (rc := 0) (R := none) (r := []) (n := gr % 1000001) (h.on hb) hc ⟨fun h => absurd h (by decide), by decide⟩
      rw [hz1] at this
      exact this
    clear h ht hz m1 m2 hz1
    generalize gr % 1000001 = n at *
    go_enter Try.func11, Try.ntmps11
    go_wp2_with (first
      | (go_at_call 36; (with_reducible refine HV.out.mono ?_); rintro e w1 ⟨rfl, hb⟩; rw [HZ.out]; have HB1 := Lib.hid hb; clear hb)
      | (go_at_call 24; (with_reducible refine Calls.mono (HW.out _ HB1.out) ?_); rintro e w3 ⟨v, rfl, hv, hb⟩; obtain ⟨B, bc, rfl, hi⟩ := hv.in_; have HB3 := Lib.hid (HB1.out.trans (hb.mono HB1.out.size)); clear hv hi hb; rw [show ([] : List Int).length = 0 from rfl])
      | (go_at_call 19; (with_reducible refine (lawake_any _).mono ?_); rintro e w4 ⟨rfl, hb⟩; have HBA := Lib.hid (HB3.out.trans (hb.mono HB3.out.size)); clear hb)
      | fail)
    go_ret
    exact ⟨rfl, HBA.out⟩
end Go.Proofs.Ytalghiecjhfflaa
