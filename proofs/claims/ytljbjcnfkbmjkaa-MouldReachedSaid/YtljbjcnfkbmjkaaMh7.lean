/- MouldReached: the law. -/
import Derived.Test.YtljbjcnfkbmjkaaGh
namespace Go.Proofs.Ytljbjcnfkbmjkaa
open Go.RowKit Go.Shelf Go.Maps
attribute [local go_sem] Oper.semAt_some

/-- What lies in memory: the mould, what Warm and Skin returned. -/
structure LrA (w : World) (m : Md) (K : Nat) (Aw : Option Addr) (wl : List (Int × Int)) (p0 p1 : Int) (W : World) : Prop where
  bm : MdBk w w.heap.size 25 m W
  v : SpansIn W Aw wl
  bk : Blk W K 23 #[.int .i64 p0, .int .i64 p1]
theorem LrA.on {w W W' : World} {m : Md} {K : Nat} {Aw : Option Addr} {wl : List (Int × Int)} {p0 p1 : Int} (h : LrA w m K Aw wl p0 p1 W) (hb : Below W.heap.size W W') : LrA w m K Aw wl p0 p1 W' := ⟨h.bm.on hb, h.v.on hb, h.bk.on hb⟩
/-- .. and the rings in both truths. -/
structure LrB (w : World) (m : Md) (K : Nat) (Aw : Option Addr) (wl : List (Int × Int)) (p0 p1 : Int) (Ac : Option Addr) (cl : List Int) (Ah : Option Addr) (hl : List Int) (Af : Option Addr) (a : List Int) (Al : Option Addr) (b : List Int) (W : World) : Prop where
  a_ : LrA w m K Aw wl p0 p1 W
  c : IntsIn W Ac cl
  h : IntsIn W Ah hl
  f : IntsIn W Af a
  l : IntsIn W Al b
theorem LrB.on {w W W' : World} {m : Md} {K : Nat} {Aw : Option Addr} {wl : List (Int × Int)} {p0 p1 : Int} {Ac Ah Af Al : Option Addr} {cl hl a b : List Int} (h : LrB w m K Aw wl p0 p1 Ac cl Ah hl Af a Al b W) (hb : Below W.heap.size W W') : LrB w m K Aw wl p0 p1 Ac cl Ah hl Af a Al b W' := ⟨h.a_.on hb, h.c.on hb, h.h.on hb, h.f.on hb, h.l.on hb⟩
set_option maxRecDepth 100000 in
set_option maxHeartbeats 8000000 in
theorem lreached_any (m : Md) (x : Int) (hx : 0 ≤ x ∧ x ≤ 65535) (w : World) :
    Calls Try.prog 8 #[.agg #[.int .i64 m.rings, .int .i64 m.give, .int .i64 m.plo, .int .i64 m.phi, .int .i64 m.wlo, .int .i64 m.whi, .int .i64 m.st, .int .i64 m.shrink, .int .i64 m.skin, .int .i64 m.fill, .int .i64 m.gap, .int .i64 m.deep], .int .u16 x] w fun e w' => e = .returned (.bool true) ∧ Below w.heap.size w w' := by
  have HM := Lib.hid (MdBk.new w 25 m)
  obtain ⟨N, hN⟩ : ∃ N : Nat, x % 601 = (N : Int) := ⟨(x % 601).toNat, by omega⟩
  have hN6 := Lib.hid (show N ≤ 600 by omega)
  have HC := Lib.hid (fun W => rcheck_any m W)
  by_cases hck : checkM m = 0
  · rw [hck] at HC
    have hok := Lib.hid (checkM_ok.1 hck)
    obtain ⟨a, ha⟩ : ∃ a, wh m false = a := ⟨_, rfl⟩
    obtain ⟨b, hb⟩ : ∃ b, wh m true = b := ⟨_, rfl⟩
    obtain ⟨N2, hN2⟩ : ∃ N2 : Nat, N2 = 600 := ⟨_, rfl⟩
    have hla : Hid (a.length = kR m) := by rw [← ha]; exact wh_length m false
    have hlb : Hid (b.length = kR m) := by rw [← hb]; exact wh_length m true
    have HWm := Lib.hid (fun W => warm_law hck hN6.out W)
    have HSk := Lib.hid (fun W => skin_law hck ha hb hN6.out W)
    have HC0 := Lib.hid (cool_law hok.out false hN6.out)
    have HC1 := Lib.hid (cool_law hok.out true hN6.out)
    have HS0 := Lib.hid (fun W => same_n hok.out false hN2 W)
    have HS1 := Lib.hid (fun W => same_n hok.out true hN2 W)
    have HW := Lib.hid (fun (e : Bool) (W : World) (A1 A2 : Option Addr) (d1 d2 : Nat) (h1 : IntsIn W A1 (samP m e)) (h2 : IntsIn W A2 (samW m e N2)) => when_same (c1 := d1) (c2 := d2) hok.out e (by omega) h1 h2)
    have HE0 : Hid (whN m false N2 = a) := by show whN m false N2 = a; rw [hN2]; exact ha
    have HE1 : Hid (whN m true N2 = b) := by show whN m true N2 = b; rw [hN2]; exact hb
    have HZg := Lib.hid (fun hn => sets_good hck ha hb hn)
    have HZn := Lib.hid (fun hn => sets_never hck hb hn)
    have HR : Hid (m.rings = ((kR m : Nat) : Int)) := (kR_eq hok.out.toMdIn).symm
    have hk8 : kR m ≤ 8 := (kR_le hok.out.toMdIn).2
    have hlc := Lib.hid (warmL_length m false N)
    have hlh := Lib.hid (warmL_length m true N)
    generalize warmL m false N = cl at *
    generalize warmL m true N = hl at *
    clear hck hN2 ha hb
    go_enter Try.func8, Try.ntmps8
    obtain ⟨c0, c1, c2, c3, c4, c5, c6, c7, c8, c9, c10, c11⟩ := HM.out.cells
    go_wp2_with (first
      | (go_at_call 23; (with_reducible refine (HWm.out _).mono ?_); rintro e w1 ⟨Aw, cw, rfl, hv1, hb1⟩; have HM1 := Lib.hid (HM.out.on hb1); have HV1 := Lib.hid hv1; clear c0 c1 c2 c3 c4 c5 c6 c7 c8 c9 c10 c11; obtain ⟨c0, c1, c2, c3, c4, c5, c6, c7, c8, c9, c10, c11⟩ := HM1.out.cells; clear hb1 hv1)
      | (go_at_call 29; (with_reducible refine (HSk.out _).mono ?_); rintro e w2 ⟨rfl, hb2⟩; have HM2 := Lib.hid (HM1.out.on hb2); have HV2 := Lib.hid (HV1.out.on hb2); have hv2 := HM2.out.bk.lt; clear c0 c1 c2 c3 c4 c5 c6 c7 c8 c9 c10 c11; obtain ⟨c0, c1, c2, c3, c4, c5, c6, c7, c8, c9, c10, c11⟩ := HM2.out.cells; clear hb2)
      | (go_at_call 19; (with_reducible refine (HC.out _).mono ?_); rintro e w3 ⟨rfl, hb3⟩; have HB2 := Lib.hid ((Below.refl _ w2).alloc (Nat.le_refl _) (.cells #[.int .i64 (setN b N), .int .i64 (setN a N)] 23)); have HL : Hid (LrA w m w2.heap.size Aw (zipS cl hl) (setN b N) (setN a N) w3) := ⟨(HM2.out.on HB2.out).on hb3, (HV2.out.on HB2.out).on hb3, (Blk.new w2 _ _).on hb3⟩; clear c0 c1 c2 c3 c4 c5 c6 c7 c8 c9 c10 c11; clear hb3)
      | fail)
    refine wp_of_eq (lr6_region (S := LrA w m w2.heap.size Aw (zipS cl hl) (setN b N) (setN a N)) (fun W W' h hb => h.on hb) (fun W h => h.bm) hok.out hN6.out HC0 HL (Lib.hid fun u6 Ac cc W6 i6 h6 => ?_)) (by kernel_rfl)
    have H6 : Hid (LrA w m w2.heap.size Aw (zipS cl hl) (setN b N) (setN a N) W6 ∧ IntsIn W6 Ac cl) := ⟨h6, i6⟩
    clear h6 i6 HL HC0
    go_wp2_with fail
    refine wp_of_eq (lr7_region (S := fun W => LrA w m w2.heap.size Aw (zipS cl hl) (setN b N) (setN a N) W ∧ IntsIn W Ac cl) (fun W W' h hb => ⟨h.1.on hb, h.2.on hb⟩) (fun W h => h.1.bm) hok.out hN6.out HC1 H6 (Lib.hid fun u7 Ah ch W7 i7 h7 => ?_)) (by kernel_rfl)
    have H7 : Hid (LrA w m w2.heap.size Aw (zipS cl hl) (setN b N) (setN a N) W7 ∧ IntsIn W7 Ac cl ∧ IntsIn W7 Ah hl) := ⟨h7.1, h7.2, i7⟩
    clear h7 i7 H6 HC1
    go_wp2_with fail
    refine wp_of_eq (lr8_region (S := fun W => LrA w m w2.heap.size Aw (zipS cl hl) (setN b N) (setN a N) W ∧ IntsIn W Ac cl ∧ IntsIn W Ah hl) (fun W W' h hb => ⟨h.1.on hb, h.2.1.on hb, h.2.2.on hb⟩) (fun W h => h.1.bm) HW HS0 HS1 H7 (Lib.hid fun u8 Af ca Al cb W8 i8 j8 h8 => ?_)) (by kernel_rfl)
    rw [HE0.out] at i8
    rw [HE1.out] at j8
    have H8 : Hid (LrB w m w2.heap.size Aw (zipS cl hl) (setN b N) (setN a N) Ac cl Ah hl Af a Al b W8) := ⟨h8.1, h8.2.1, h8.2.2, i8, j8⟩
    clear h8 i8 j8 H7 HW HS0 HS1
    go_wp2_with fail
    have HTa := Lib.hid (show ∀ (W : World) (A : Option Addr) (c : Nat) (_ : IntsIn W A a), Calls Try.prog 42 #[.slice A (kR m) c, .int .i64 N] W fun e w' => e = .returned (.int .i64 (setN a N)) ∧ w' = W from fun W A c h => by rw [← hla.out]; exact rset_any N h)
    have HTb := Lib.hid (show ∀ (W : World) (A : Option Addr) (c : Nat) (_ : IntsIn W A b), Calls Try.prog 42 #[.slice A (kR m) c, .int .i64 N] W fun e w' => e = .returned (.int .i64 (setN b N)) ∧ w' = W from fun W A c h => by rw [← hlb.out]; exact rset_any N h)
    refine wp_of_eq (lr9_region (S := LrB w m w2.heap.size Aw (zipS cl hl) (setN b N) (setN a N) Ac cl Ah hl Af a Al b) (fun W W' h hb => h.on hb) (fun W h => h.a_.bm) (fun W h => h.a_.bk) (fun W h => h.f) (fun W h => h.l) HR HTa HTb (spn_same _ _) H8 (Lib.hid fun u9 W9 h9 => ?_)) (by kernel_rfl)
    have H9 := Lib.hid h9
    clear h9 H8 HTa HTb hN
    obtain ⟨c0, c1, c2, c3, c4, c5, c6, c7, c8, c9, c10, c11⟩ := H9.out.a_.bm.cells
    by_cases hnv : never b = true
    · have HZ := Lib.hid (HZn.out hnv)
      clear HZn HZg
      go_wp2_with (first
        | (go_at_call 27; (with_reducible refine (HZ.out _).mono ?_); rintro e w3 ⟨As, cs, rfl, hb3⟩; have H10 := Lib.hid (H9.out.on hb3); clear hb3; clear c0 c1 c2 c3 c4 c5 c6 c7 c8 c9 c10 c11)
        | fail)
      clear H9
      go_loopw [17, 18] (fun v i W => ∃ (k : Nat) (nv : Bool), k ≤ kR m ∧ i = .int .i64 k ∧ v = .bool nv ∧ Hid (nv = never (b.take k)) ∧ Hid (LrB w m w2.heap.size Aw (zipS cl hl) (setN b N) (setN a N) Ac cl Ah hl Af a Al b W)) (fun _ i _ => kR m - (intOf i).toNat)
      case atStart => exact ⟨0, false, Nat.zero_le _, rfl, rfl, rfl, H10⟩
      case round =>
        obtain ⟨k, nv, hk, rfl, rfl, HV, HS⟩ := hrel
        clear H10
        have c0 := HS.out.a_.bm.bk.cell 0
        rw [show m.rings = ((kR m : Nat) : Int) from HR.out] at c0
        by_cases hlt : k < kR m
        · have hlt' : (k : Int) < kR m := by omega
          obtain ⟨xx, hx1⟩ : ∃ x, cl[k]? = some x := ⟨cl[k]'(by rw [hlc.out]; exact hlt), List.getElem?_eq_getElem _⟩
          obtain ⟨yy, hy1⟩ : ∃ y, hl[k]? = some y := ⟨hl[k]'(by rw [hlh.out]; exact hlt), List.getElem?_eq_getElem _⟩
          obtain ⟨q, hq1⟩ : ∃ y, b[k]? = some y := ⟨b[k]'(by rw [hlb.out]; exact hlt), List.getElem?_eq_getElem _⟩
          obtain ⟨b1, o1, rfl, _, _, _⟩ := spans_at HS.out.a_.v.at_ (zip_get hx1 hy1)
          obtain ⟨b2, o2, rfl, _, _⟩ := ints_at HS.out.c.at_ hx1
          obtain ⟨b3, o3, rfl, _, _⟩ := ints_at HS.out.h.at_ hy1
          obtain ⟨b5, o5, rfl, _, d5⟩ := ints_at HS.out.l.at_ hq1
          have HV1 := Lib.hid (never_step hq1)
          have HX := Lib.hid hx1
          have HY := Lib.hid hy1
          clear hx1 hy1 hq1
          have HN : Hid ((nv || decide (q < 0)) = never (b.take (k + 1))) := by show _ = _; rw [HV1.out, ← HV.out]
          have H1 := Lib.hid (show ∀ W, LrB w m w2.heap.size (some ⟨b1, o1, none⟩) (zipS cl hl) (setN b N) (setN a N) (some ⟨b2, o2, none⟩) cl (some ⟨b3, o3, none⟩) hl Af a (some ⟨b5, o5, none⟩) b W → W.cell? ⟨b1, o1 + k * 2, none⟩ = some (.int .i64 xx) ∧ W.cell? ⟨b1, o1 + k * 2 + 1, none⟩ = some (.int .i64 yy) from fun W h => by
            obtain ⟨_, _, e, _, d1, d2⟩ := spans_at h.a_.v.at_ (zip_get HX.out HY.out); cases e; exact ⟨d1, d2⟩)
          have H2 := Lib.hid (show ∀ W, LrB w m w2.heap.size (some ⟨b1, o1, none⟩) (zipS cl hl) (setN b N) (setN a N) (some ⟨b2, o2, none⟩) cl (some ⟨b3, o3, none⟩) hl Af a (some ⟨b5, o5, none⟩) b W → W.cell? ⟨b2, o2 + k, none⟩ = some (.int .i64 xx) from fun W h => by
            obtain ⟨_, _, e, _, d1⟩ := ints_at h.c.at_ HX.out; cases e; exact d1)
          have H3 := Lib.hid (show ∀ W, LrB w m w2.heap.size (some ⟨b1, o1, none⟩) (zipS cl hl) (setN b N) (setN a N) (some ⟨b2, o2, none⟩) cl (some ⟨b3, o3, none⟩) hl Af a (some ⟨b5, o5, none⟩) b W → W.cell? ⟨b3, o3 + k, none⟩ = some (.int .i64 yy) from fun W h => by
            obtain ⟨_, _, e, _, d1⟩ := ints_at h.h.at_ HY.out; cases e; exact d1)
          clear HV1 HX HY HV
          rcases nv with _ | _
          · by_cases hq : q < 0
            · go_wp2_with fail
              refine wp_of_eq (lr17b_region (fun W W' h hb => h.on hb) hlt' H1.out H2.out H3.out HS (Lib.hid fun u17 W17 h17 => ?_)) (by kernel_rfl)
              have H17 := Lib.hid h17
              clear h17
              go_wp2_with fail
              go_roundw
              case rel => exact ⟨k + 1, true, Nat.succ_le_of_lt hlt, by go_num, rfl, by show _ = _; rw [← HN.out]; simp [hq], H17⟩
              case measure => exact meas_one hlt
            · go_wp2_with fail
              refine wp_of_eq (lr17b_region (fun W W' h hb => h.on hb) hlt' H1.out H2.out H3.out HS (Lib.hid fun u17 W17 h17 => ?_)) (by kernel_rfl)
              have H17 := Lib.hid h17
              clear h17
              go_wp2_with fail
              go_roundw
              case rel => exact ⟨k + 1, false, Nat.succ_le_of_lt hlt, by go_num, rfl, by show _ = _; rw [← HN.out]; simp [hq], H17⟩
              case measure => exact meas_one hlt
          · go_wp2_with fail
            refine wp_of_eq (lr17b_region (fun W W' h hb => h.on hb) hlt' H1.out H2.out H3.out HS (Lib.hid fun u17 W17 h17 => ?_)) (by kernel_rfl)
            have H17 := Lib.hid h17
            clear h17
            go_wp2_with fail
            go_roundw
            case rel => exact ⟨k + 1, true, Nat.succ_le_of_lt hlt, by go_num, rfl, by show _ = _; rw [← HN.out]; simp, H17⟩
            case measure => exact meas_one hlt
        · obtain rfl : k = kR m := by omega
          have hn2 : ¬ ((kR m : Int) < (kR m : Int)) := by omega
          obtain rfl : nv = true := by rw [HV.out, List.take_of_length_le (by rw [hlb.out]; exact Nat.le_refl _)]; exact hnv
          clear HV
          go_wp2_with (first
            | (go_at_call 26; refine (awake_any _).mono ?_; rintro e w5 ⟨rfl, hb⟩; have H11 := Lib.hid (HS.out.on hb); clear hb)
            | fail)
          go_ret
          exact ⟨rfl, H11.out.a_.bm.b⟩
    · have hnf : never b = false := by simpa using hnv
      have HZ := Lib.hid (HZg.out hnf)
      clear HZn HZg hnv
      go_wp2_with (first
        | (go_at_call 27; (with_reducible refine (HZ.out _).mono ?_); rintro e w3 ⟨As, cs, rfl, hs3, hb3⟩; have H10 := Lib.hid (show LrB w m w2.heap.size Aw (zipS cl hl) (setN b N) (setN a N) Ac cl Ah hl Af a Al b w3 ∧ SpansIn w3 As (zipS a b) from ⟨H9.out.on hb3, hs3⟩); clear hb3 hs3; clear c0 c1 c2 c3 c4 c5 c6 c7 c8 c9 c10 c11)
        | fail)
      clear H9
      have HNN := Lib.hid (never_get hnf)
      clear hnf
      go_loopw [17, 18] (fun v i W => ∃ (k : Nat), k ≤ kR m ∧ i = .int .i64 k ∧ v = .bool false ∧ Hid (LrB w m w2.heap.size Aw (zipS cl hl) (setN b N) (setN a N) Ac cl Ah hl Af a Al b W ∧ SpansIn W As (zipS a b))) (fun _ i _ => kR m - (intOf i).toNat)
      case atStart => exact ⟨0, Nat.zero_le _, rfl, rfl, H10⟩
      case round =>
        obtain ⟨k, hk, rfl, rfl, HS⟩ := hrel
        clear H10
        have c0 := HS.out.1.a_.bm.bk.cell 0
        rw [show m.rings = ((kR m : Nat) : Int) from HR.out] at c0
        by_cases hlt : k < kR m
        · have hlt' : (k : Int) < kR m := by omega
          obtain ⟨xx, hx1⟩ : ∃ x, cl[k]? = some x := ⟨cl[k]'(by rw [hlc.out]; exact hlt), List.getElem?_eq_getElem _⟩
          obtain ⟨yy, hy1⟩ : ∃ y, hl[k]? = some y := ⟨hl[k]'(by rw [hlh.out]; exact hlt), List.getElem?_eq_getElem _⟩
          obtain ⟨p, hp1⟩ : ∃ y, a[k]? = some y := ⟨a[k]'(by rw [hla.out]; exact hlt), List.getElem?_eq_getElem _⟩
          obtain ⟨q, hq1⟩ : ∃ y, b[k]? = some y := ⟨b[k]'(by rw [hlb.out]; exact hlt), List.getElem?_eq_getElem _⟩
          obtain ⟨b1, o1, rfl, _, _, _⟩ := spans_at HS.out.1.a_.v.at_ (zip_get hx1 hy1)
          obtain ⟨b2, o2, rfl, _, _⟩ := ints_at HS.out.1.c.at_ hx1
          obtain ⟨b3, o3, rfl, _, _⟩ := ints_at HS.out.1.h.at_ hy1
          obtain ⟨b4, o4, rfl, _, _⟩ := ints_at HS.out.1.f.at_ hp1
          obtain ⟨b5, o5, rfl, _, d5⟩ := ints_at HS.out.1.l.at_ hq1
          obtain ⟨b6, o6, rfl, _, _, _⟩ := spans_at HS.out.2.at_ (zip_get hp1 hq1)
          have hq0 : ¬ q < 0 := by have := HNN.out q (List.mem_of_getElem? hq1); omega
          have HX := Lib.hid hx1
          have HY := Lib.hid hy1
          have HP := Lib.hid hp1
          have HQ := Lib.hid hq1
          clear hx1 hy1 hp1 hq1
          have H1 := Lib.hid (show ∀ W, (LrB w m w2.heap.size (some ⟨b1, o1, none⟩) (zipS cl hl) (setN b N) (setN a N) (some ⟨b2, o2, none⟩) cl (some ⟨b3, o3, none⟩) hl (some ⟨b4, o4, none⟩) a (some ⟨b5, o5, none⟩) b W ∧ SpansIn W (some ⟨b6, o6, none⟩) (zipS a b)) → W.cell? ⟨b1, o1 + k * 2, none⟩ = some (.int .i64 xx) ∧ W.cell? ⟨b1, o1 + k * 2 + 1, none⟩ = some (.int .i64 yy) from fun W h => by
            obtain ⟨_, _, e, _, d1, d2⟩ := spans_at h.1.a_.v.at_ (zip_get HX.out HY.out); cases e; exact ⟨d1, d2⟩)
          have H2 := Lib.hid (show ∀ W, (LrB w m w2.heap.size (some ⟨b1, o1, none⟩) (zipS cl hl) (setN b N) (setN a N) (some ⟨b2, o2, none⟩) cl (some ⟨b3, o3, none⟩) hl (some ⟨b4, o4, none⟩) a (some ⟨b5, o5, none⟩) b W ∧ SpansIn W (some ⟨b6, o6, none⟩) (zipS a b)) → W.cell? ⟨b2, o2 + k, none⟩ = some (.int .i64 xx) from fun W h => by
            obtain ⟨_, _, e, _, d1⟩ := ints_at h.1.c.at_ HX.out; cases e; exact d1)
          have H3 := Lib.hid (show ∀ W, (LrB w m w2.heap.size (some ⟨b1, o1, none⟩) (zipS cl hl) (setN b N) (setN a N) (some ⟨b2, o2, none⟩) cl (some ⟨b3, o3, none⟩) hl (some ⟨b4, o4, none⟩) a (some ⟨b5, o5, none⟩) b W ∧ SpansIn W (some ⟨b6, o6, none⟩) (zipS a b)) → W.cell? ⟨b3, o3 + k, none⟩ = some (.int .i64 yy) from fun W h => by
            obtain ⟨_, _, e, _, d1⟩ := ints_at h.1.h.at_ HY.out; cases e; exact d1)
          have H4 := Lib.hid (show ∀ W, (LrB w m w2.heap.size (some ⟨b1, o1, none⟩) (zipS cl hl) (setN b N) (setN a N) (some ⟨b2, o2, none⟩) cl (some ⟨b3, o3, none⟩) hl (some ⟨b4, o4, none⟩) a (some ⟨b5, o5, none⟩) b W ∧ SpansIn W (some ⟨b6, o6, none⟩) (zipS a b)) → W.cell? ⟨b4, o4 + k, none⟩ = some (.int .i64 p) from fun W h => by
            obtain ⟨_, _, e, _, d1⟩ := ints_at h.1.f.at_ HP.out; cases e; exact d1)
          have H5 := Lib.hid (show ∀ W, (LrB w m w2.heap.size (some ⟨b1, o1, none⟩) (zipS cl hl) (setN b N) (setN a N) (some ⟨b2, o2, none⟩) cl (some ⟨b3, o3, none⟩) hl (some ⟨b4, o4, none⟩) a (some ⟨b5, o5, none⟩) b W ∧ SpansIn W (some ⟨b6, o6, none⟩) (zipS a b)) → W.cell? ⟨b5, o5 + k, none⟩ = some (.int .i64 q) from fun W h => by
            obtain ⟨_, _, e, _, d1⟩ := ints_at h.1.l.at_ HQ.out; cases e; exact d1)
          have H6 := Lib.hid (show ∀ W, (LrB w m w2.heap.size (some ⟨b1, o1, none⟩) (zipS cl hl) (setN b N) (setN a N) (some ⟨b2, o2, none⟩) cl (some ⟨b3, o3, none⟩) hl (some ⟨b4, o4, none⟩) a (some ⟨b5, o5, none⟩) b W ∧ SpansIn W (some ⟨b6, o6, none⟩) (zipS a b)) → W.cell? ⟨b6, o6 + k * 2, none⟩ = some (.int .i64 p) ∧ W.cell? ⟨b6, o6 + k * 2 + 1, none⟩ = some (.int .i64 q) from fun W h => by
            obtain ⟨_, _, e, _, d1, d2⟩ := spans_at h.2.at_ (zip_get HP.out HQ.out); cases e; exact ⟨d1, d2⟩)
          clear HX HY HP HQ
          go_wp2_with fail
          refine wp_of_eq (lr17a_region (fun W W' h hb => ⟨h.1.on hb, h.2.on hb⟩) hlt' (fun W h => h.1.a_.bm) HR H1.out H2.out H3.out H4.out H5.out H6.out HS (Lib.hid fun u17 W17 h17 => ?_)) (by kernel_rfl)
          have H17 := Lib.hid h17
          clear h17
          go_wp2_with fail
          go_roundw
          case rel => exact ⟨k + 1, Nat.succ_le_of_lt hlt, by go_num, rfl, H17⟩
          case measure => exact meas_one hlt
        · obtain rfl : k = kR m := by omega
          have hn2 : ¬ ((kR m : Int) < (kR m : Int)) := by omega
          go_wp2_with (first
            | (go_at_call 26; refine (awake_any _).mono ?_; rintro e w5 ⟨rfl, hb⟩; have H11 := Lib.hid (HS.out.1.on hb); clear hb)
            | fail)
          go_ret
          exact ⟨rfl, H11.out.a_.bm.b⟩
  · have HWm := Lib.hid (fun W => mwarm_any m N W)
    rw [show warmR m (N : Int) = ([], checkM m) from if_pos hck] at HWm
    have HSk := Lib.hid (fun W => mskin_any m N W)
    rw [show skinR m (N : Int) = ((0, 0), checkM m) from if_pos hck] at HSk
    have hz : (checkM m != 0) = true := by simpa using hck
    have hz2 : (checkM m == checkM m) = true := by simp
    generalize checkM m = z at *
    go_enter Try.func8, Try.ntmps8
    obtain ⟨c0, c1, c2, c3, c4, c5, c6, c7, c8, c9, c10, c11⟩ := HM.out.cells
    go_wp2_with (first
      | (go_at_call 23; (with_reducible refine (HWm.out _).mono ?_); rintro e w1 ⟨v, rfl, hv1, hb1⟩; obtain ⟨Aw, cw, rfl, _⟩ := SpansOut.in_ hv1; have HM1 := Lib.hid (HM.out.on hb1); clear c0 c1 c2 c3 c4 c5 c6 c7 c8 c9 c10 c11; obtain ⟨c0, c1, c2, c3, c4, c5, c6, c7, c8, c9, c10, c11⟩ := HM1.out.cells; clear hb1 hv1)
      | (go_at_call 29; (with_reducible refine (HSk.out _).mono ?_); rintro e w2 ⟨rfl, hb2⟩; have HM2 := Lib.hid (HM1.out.on hb2); have hv2 := HM2.out.bk.lt; clear c0 c1 c2 c3 c4 c5 c6 c7 c8 c9 c10 c11; obtain ⟨c0, c1, c2, c3, c4, c5, c6, c7, c8, c9, c10, c11⟩ := HM2.out.cells; clear hb2)
      | (go_at_call 19; (with_reducible refine (HC.out _).mono ?_); rintro e w3 ⟨rfl, hb3⟩; have HB2 := Lib.hid ((Below.refl _ w2).alloc (Nat.le_refl _) (.cells #[.int .i64 0, .int .i64 0] 23)); have HM3 := Lib.hid ((HM2.out.on HB2.out).on hb3); clear c0 c1 c2 c3 c4 c5 c6 c7 c8 c9 c10 c11; clear hb3)
      | (go_at_call 26; refine (awake_any _).mono ?_; rintro e w5 ⟨rfl, hb⟩; have HM5 := Lib.hid (HM3.out.on hb); clear hb)
      | fail)
    go_ret
    exact ⟨rfl, HM5.out.b⟩
end Go.Proofs.Ytljbjcnfkbmjkaa
