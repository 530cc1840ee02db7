/- ref.When: contract. -/
import Derived.Test.YtljbjcnfkbmjkaaMg8
import Derived.Deep.OwnRows
namespace Go.Proofs.Ytljbjcnfkbmjkaa
open Go.RowKit Go.Shelf Go.Deep
attribute [local go_sem] Oper.semAt_some

theorem made_ints (n : Nat) : madeCells #[Value.int .i64 0] n = ((List.replicate n (0 : Int)).map (Value.int .i64)).toArray := by
  apply Array.ext
  · simp [madeCells]
  · intro i h1 h2
    simp [madeCells, Nat.mod_one]
/-- -1 for the rings that were walked through. -/
def negs (n k : Nat) : List Int := List.replicate k (-1) ++ List.replicate (n - k) 0
theorem negs_at {n k : Nat} (h : k < n) : (negs n k)[k]? = some 0 := by
  unfold negs
  rw [List.getElem?_append_right (by simp), List.length_replicate, Nat.sub_self, List.getElem?_replicate, if_pos (by omega)]
theorem negs_step {n k : Nat} (h : k < n) : (negs n k).set k (-1) = negs n (k + 1) := by
  unfold negs
  obtain ⟨r, hr⟩ : ∃ r, n - k = r + 1 := ⟨n - k - 1, by omega⟩
  rw [List.set_append_right _ _ (by simp), List.length_replicate, Nat.sub_self, hr, List.replicate_succ, List.set_cons_zero, show n - (k + 1) = r by omega, List.replicate_succ', List.append_assoc]
  rfl
theorem negs_end (n : Nat) : negs n n = neg1 n := by unfold negs neg1; simp
set_option maxRecDepth 100000 in
set_option maxHeartbeats 8000000 in
theorem rwhen_any {w : World} (m : Md) (hm : MdIn m) {A1 A2 : Option Addr} {c1 c2 : Nat} {ps ws : List Int} (hp : IntsIn w A1 ps) (hq : IntsIn w A2 ws) (h0 : 0 < ps.length) (h8 : ps.length ≤ 8) (h600 : ws.length ≤ 600) (hpr : ∀ x ∈ ps, 0 ≤ x ∧ x ≤ 2000) (hwr : ∀ x ∈ ws, 0 ≤ x ∧ x ≤ 2000) :
    Calls Try.prog 40 #[.agg #[.int .i64 m.rings, .int .i64 m.give, .int .i64 m.plo, .int .i64 m.phi, .int .i64 m.wlo, .int .i64 m.whi, .int .i64 m.st, .int .i64 m.shrink, .int .i64 m.skin, .int .i64 m.fill, .int .i64 m.gap, .int .i64 m.deep], .agg #[.slice A1 ps.length c1, .slice A2 ws.length c2]] w fun e w' => ∃ A c, e = .returned (.slice A (whenM m ps ws).length c) ∧ IntsIn w' A (whenM m ps ws) ∧ Below w.heap.size w w' := by
  have HM : Hid (RtB w m A1 A2 c1 c2 ps ws ((w.alloc (.cells #[.int .i64 m.rings, .int .i64 m.give, .int .i64 m.plo, .int .i64 m.phi, .int .i64 m.wlo, .int .i64 m.whi, .int .i64 m.st, .int .i64 m.shrink, .int .i64 m.skin, .int .i64 m.fill, .int .i64 m.gap, .int .i64 m.deep] 25)).alloc (.cells #[.slice A1 ps.length c1, .slice A2 ws.length c2] 28))) := by
    have hb0 : Below w.heap.size w ((w.alloc (.cells #[.int .i64 m.rings, .int .i64 m.give, .int .i64 m.plo, .int .i64 m.phi, .int .i64 m.wlo, .int .i64 m.whi, .int .i64 m.st, .int .i64 m.shrink, .int .i64 m.skin, .int .i64 m.fill, .int .i64 m.gap, .int .i64 m.deep] 25)).alloc (.cells #[.slice A1 ps.length c1, .slice A2 ws.length c2] 28)) := ((Below.refl _ w).alloc (Nat.le_refl _) _).alloc (by simp) _
    exact ⟨⟨(Blk.new w _ _).alloc _, hb0⟩, Blk.new1 w _ _ _, hp.on hb0, hq.on hb0⟩
  have HQ0 : Hid (IntsAt w w.heap.size A2 ws) := hq.at_
  have hmk : ∀ W, (Instr.makeSlice 26 (.int .i64 (ps.length : Int)) (.int .i64 (ps.length : Int))).run Try.prog W = .ok (.slice (some ⟨W.heap.size, 0, none⟩) ps.length ps.length) (W.alloc (.cells (madeCells #[.int .i64 0] ps.length) 3)) := fun W => run_make_row' 26 3 (.int .i64 0) 8 und_ints infoInt rfl .i64 .i64 ps.length (by omega) (by omega) W
  have HE : Hid (IntsOut (w.heap.size + 2) (((w.alloc (.cells #[.int .i64 m.rings, .int .i64 m.give, .int .i64 m.plo, .int .i64 m.phi, .int .i64 m.wlo, .int .i64 m.whi, .int .i64 m.st, .int .i64 m.shrink, .int .i64 m.skin, .int .i64 m.fill, .int .i64 m.gap, .int .i64 m.deep] 25)).alloc (.cells #[.slice A1 ps.length c1, .slice A2 ws.length c2] 28)).alloc (.cells #[] 3)) (.slice (some ⟨w.heap.size + 1 + 1, 0, none⟩) 0 0) []) := by
    have h := own_empty ((w.alloc (.cells #[.int .i64 m.rings, .int .i64 m.give, .int .i64 m.plo, .int .i64 m.phi, .int .i64 m.wlo, .int .i64 m.whi, .int .i64 m.st, .int .i64 m.shrink, .int .i64 m.skin, .int .i64 m.fill, .int .i64 m.gap, .int .i64 m.deep] 25)).alloc (.cells #[.slice A1 ps.length c1, .slice A2 ws.length c2] 28)) (w.heap.size + 2) (by simp)
    rw [show ((w.alloc (.cells #[.int .i64 m.rings, .int .i64 m.give, .int .i64 m.plo, .int .i64 m.phi, .int .i64 m.wlo, .int .i64 m.whi, .int .i64 m.st, .int .i64 m.shrink, .int .i64 m.skin, .int .i64 m.fill, .int .i64 m.gap, .int .i64 m.deep] 25)).alloc (.cells #[.slice A1 ps.length c1, .slice A2 ws.length c2] 28)).heap.size = w.heap.size + 1 + 1 by simp] at h
    exact h
  obtain ⟨F, hF⟩ : ∃ F, F = whenM m ps ws := ⟨_, rfl⟩
  have HF0 : Hid (WhF m.give m.st ws F 0 ps (neg1 ps.length)) := by rw [hF]; exact WhF.start m ps ws
  have HFL : Hid (F.length = ps.length) := by rw [hF]; exact whenM_length _ _ _
  have HFE := Lib.hid hF
  have HWR := Lib.hid hwr
  have HPR := Lib.hid hpr
  have HMI := Lib.hid hm
  clear hp hq hF hwr hpr hm
  have y0 := HM.out.b1.cell 0
  go_enter Try.func40, Try.ntmps40
  go_wp2_with (first
    | (at_builtin; go_must (refine app_many rfl _ _ rfl (l := []) (l2 := ps) rfl HE.out rfl (HM.out.p.on ((Below.refl _ _).alloc (Nat.le_refl _) _)) h0 (by simp; omega) (by simp) ?_); intro g1 cap1 w4 h1 h2 h3 h4)
    | fail)
  simp only [List.nil_append, List.length_nil, Nat.zero_add] at h1
  have hsz : ((w.alloc (.cells #[.int .i64 m.rings, .int .i64 m.give, .int .i64 m.plo, .int .i64 m.phi, .int .i64 m.wlo, .int .i64 m.whi, .int .i64 m.st, .int .i64 m.shrink, .int .i64 m.skin, .int .i64 m.fill, .int .i64 m.gap, .int .i64 m.deep] 25)).alloc (.cells #[.slice A1 ps.length c1, .slice A2 ws.length c2] 28)).heap.size = w.heap.size + 1 + 1 := by simp
  have hb : Below (w.heap.size + 2) ((w.alloc (.cells #[.int .i64 m.rings, .int .i64 m.give, .int .i64 m.plo, .int .i64 m.phi, .int .i64 m.wlo, .int .i64 m.whi, .int .i64 m.st, .int .i64 m.shrink, .int .i64 m.skin, .int .i64 m.fill, .int .i64 m.gap, .int .i64 m.deep] 25)).alloc (.cells #[.slice A1 ps.length c1, .slice A2 ws.length c2] 28)) w4 := ((Below.refl _ ((w.alloc (.cells #[.int .i64 m.rings, .int .i64 m.give, .int .i64 m.plo, .int .i64 m.phi, .int .i64 m.wlo, .int .i64 m.whi, .int .i64 m.st, .int .i64 m.shrink, .int .i64 m.skin, .int .i64 m.fill, .int .i64 m.gap, .int .i64 m.deep] 25)).alloc (.cells #[.slice A1 ps.length c1, .slice A2 ws.length c2] 28))).alloc (by rw [hsz]; exact Nat.le_refl _) _).trans h2
  have hgs : w.heap.size + 2 ≤ w4.heap.size := by have := hb.size; omega
  have hlt1 : g1 < w4.heap.size := (World.ownsRow.lt h1 g1 rfl).2
  have HW : Hid (WhB w m A1 A2 c1 c2 ps ws w4.heap.size (some ⟨g1, 0, none⟩) ps (negs ps.length 0) (w4.alloc (.cells (madeCells #[.int .i64 0] ps.length) 3))) := by
    obtain ⟨A, c, e, hi⟩ := h1.in_
    cases e
    have hm4 : MdBk w w.heap.size 25 m w4 := ⟨HM.out.b0.bk.below hb (by omega), HM.out.b0.b.trans (hb.mono (by omega))⟩
    have hba : Below w4.heap.size w4 (w4.alloc (.cells (madeCells #[.int .i64 0] ps.length) 3)) := (Below.refl _ _).alloc (Nat.le_refl _) _
    have hnew : BlkL (w4.alloc (.cells (madeCells #[.int .i64 0] ps.length) 3)) w4.heap.size (negs ps.length 0) := by
      unfold BlkL negs
      rw [List.replicate_zero, List.nil_append, Nat.sub_zero, ← made_ints]
      exact Blk.new w4 3 _
    exact ⟨hm4.on hba, (HM.out.b1.below hb (by omega)).on hba, RowAt.below HQ0.out (hm4.on hba).b (Nat.le_refl _), hnew, by omega, hi.on hba, fun a e => by cases e; exact Nat.ne_of_lt hlt1⟩
  clear h1 h2 h3 h4 hb hsz hlt1 hgs HM HE HQ0 y0 hmk
  generalize w4.heap.size = g at *
  generalize w4.alloc (.cells (madeCells #[.int .i64 0] ps.length) 3) = W4 at *
  go_loopw [7] (fun i W => ∃ k : Nat, k ≤ ps.length ∧ i = .int .i64 k ∧ Hid (WhB w m A1 A2 c1 c2 ps ws g (some ⟨g1, 0, none⟩) ps (negs ps.length k) W)) (fun i _ => ps.length - (intOf i).toNat)
  case atStart => exact ⟨0, by omega, rfl, HW⟩
  case round =>
    obtain ⟨k, hk, rfl, HI⟩ := hrel
    clear HW
    by_cases hlt : k < ps.length
    · have hlt' : (k : Int) < ps.length := by omega
      have kx := HI.out.ol.at_ (negs_at hlt)
      have fx := Blk.frozen HI.out.ol k
      have gx := Blk.lt HI.out.ol
      have HW2 := Lib.hid (HI.out.set k (-1))
      rw [negs_step hlt] at HW2
      go_wp2_with fail
      go_roundw
      case rel => exact ⟨k + 1, by omega, by go_num, HW2⟩
      case measure => exact meas_one hlt
    · obtain rfl : k = ps.length := by omega
      have hn2 : ¬ ((ps.length : Int) < ps.length) := by omega
      rw [negs_end] at HI
      go_wp2_with fail
      go_loopw [5, 8, 9] (fun v n _ W => ∃ (k : Nat) (o l : List Int) (Al : Option Addr) (cl : Nat), k ≤ ws.length + 1 ∧ v = .slice Al ps.length cl ∧ n = .int .i64 k ∧ o.length = ps.length ∧ l.length = ps.length ∧ Hid (∀ x ∈ l, 0 ≤ x ∧ x ≤ 2000) ∧ Hid (WhF m.give m.st ws F k l o) ∧ Hid (WhB w m A1 A2 c1 c2 ps ws g Al l o W)) (fun _ n _ _ => ws.length + 1 - (intOf n).toNat)
      case atStart => exact ⟨0, neg1 ps.length, ps, some ⟨g1, 0, none⟩, cap1, by omega, rfl, rfl, by simp [neg1], rfl, HPR, HF0, HI⟩
      case round =>
        obtain ⟨k, o, l, Al, cl, hk1, rfl, rfl, hol, hll, HR, HF, HO⟩ := hrel
        clear HI HF0 HPR
        have y1 := HO.out.b1.cell 1
        by_cases hkw : k ≤ ws.length
        · have hkw' : (k : Int) ≤ ws.length := by omega
          have HF2 := Lib.hid (HF.out.step hkw)
          by_cases hk0 : k = 0
          · have hk0' : ¬ ((0 : Int) < (k : Int)) := by omega
            rw [if_pos hk0] at HF2
            have HX := HO
            have HLEN := Lib.hid hll
            have HR2 := HR
            clear HO hll HF HR
            have hllen : l.length = ps.length := HLEN.out
            clear HLEN
            go_wp2_with fail
            go_loopw [9] (fun i W => ∃ q : Nat, q ≤ ps.length ∧ i = .int .i64 q ∧ Hid (WhB w m A1 A2 c1 c2 ps ws g Al l (mixL m.st k o l q) W)) (fun i _ => ps.length - (intOf i).toNat)
            case atStart => exact ⟨0, by omega, rfl, by rw [mix_zero]; exact HX⟩
            case round =>
              obtain ⟨q, hq, rfl, HI⟩ := hrel
              clear HX
              by_cases hlq : q < ps.length
              · have hlq' : (q : Int) < ps.length := by omega
                obtain ⟨x, hx⟩ : ∃ x, o[q]? = some x := ⟨o[q]'(by omega), List.getElem?_eq_getElem _⟩
                obtain ⟨y, hy⟩ : ∃ y, l[q]? = some y := ⟨l[q]'(by omega), List.getElem?_eq_getElem _⟩
                have hol : o.length = l.length := by omega
                have kx := HI.out.ol.at_ (mix_at hol hx)
                have fx := Blk.frozen HI.out.ol q
                have gx := Blk.lt HI.out.ol
                have c6 := HI.out.b0.bk.cell 6
                obtain ⟨bl, ol, rfl, hbl, ky⟩ := ints_at HI.out.l.at_ hy
                by_cases hx0 : x < 0
                · by_cases hys : y ≤ m.st
                  · have HS := Lib.hid (mix_step (st := m.st) (n := (k : Int)) hol hx hy)
                    rw [show upd m.st (k : Int) x y = (k : Int) from if_pos ⟨hx0, hys⟩] at HS
                    clear hx hy
                    go_wp2_with fail
                    go_quiet (fail)
                    have HW2 := Lib.hid ((HI.out.on (below_drewN' (Below.refl _ _) nq)).set q (k : Int))
                    rw [HS.out] at HW2
                    clear HS
                    go_wp2_with fail
                    go_roundw
                    case rel => first | exact ⟨q + 1, by omega, by go_num, HW2⟩ | exact ⟨q + 1, by omega, by go_num, by have h := HW2; rw [hk0] at h ⊢; exact h⟩
                    case measure => exact meas_one hlq
                  · have HS := Lib.hid (mix_same (st := m.st) (n := (k : Int)) hol hx hy (if_neg (fun h => hys h.2)))
                    have hd : decide (y ≤ m.st) = false := decide_eq_false hys
                    clear hx hy
                    go_wp2_with fail
                    go_quiet (fail)
                    have HW2 := Lib.hid (HI.out.on (below_drewN' (Below.refl _ _) nq))
                    rw [HS.out] at HW2
                    clear HS
                    go_wp2_with fail
                    go_roundw
                    case rel => first | exact ⟨q + 1, by omega, by go_num, HW2⟩ | exact ⟨q + 1, by omega, by go_num, by have h := HW2; rw [hk0] at h ⊢; exact h⟩
                    case measure => exact meas_one hlq
                · have HS := Lib.hid (mix_same (st := m.st) (n := (k : Int)) hol hx hy (if_neg (fun h => hx0 h.1)))
                  have hd : decide (x < 0) = false := decide_eq_false hx0
                  clear hx hy
                  go_wp2_with fail
                  go_quiet (fail)
                  have HW2 := Lib.hid (HI.out.on (below_drewN' (Below.refl _ _) nq))
                  rw [HS.out] at HW2
                  clear HS
                  go_wp2_with fail
                  go_roundw
                  case rel => first | exact ⟨q + 1, by omega, by go_num, HW2⟩ | exact ⟨q + 1, by omega, by go_num, by have h := HW2; rw [hk0] at h ⊢; exact h⟩
                  case measure => exact meas_one hlq
              · obtain rfl : q = ps.length := by omega
                have hnq : ¬ ((ps.length : Int) < ps.length) := by omega
                have HI2 := HI
                rw [← hllen, mix_end (by omega)] at HI2
                go_wp2_with fail
                go_roundw
                case rel => exact ⟨k + 1, updL m.st k o l, l, Al, _, by omega, rfl, by go_num, by rw [updL_length (by omega)]; omega, by omega, HR2, HF2, HI2⟩
                case measure => first | exact meas_one (by omega) | (simp [intOf, hk0]; done) | (simp [intOf]; omega)
          · obtain ⟨j, rfl⟩ : ∃ j, k = j + 1 := ⟨k - 1, by omega⟩
            have hj : j < ws.length := by omega
            have ej : (((j + 1 : Nat)) : Int) = (j : Int) + 1 := by omega
            have hk0' : (0 : Int) < (j : Int) + 1 := by omega
            rw [if_neg hk0, Nat.add_sub_cancel, ej] at HF2
            rw [ej] at hkw'
            rw [ej]
            go_wp2_with fail
            refine wp_of_eq (wn_r11 hll HMI.out HR.out (by omega) HWR.out hj h600 HO (fun _ _ _ _ _ _ _ _ _ Ax cx W2 hx2 => ?_)) (by kernel_rfl)
            have HX := Lib.hid hx2
            have HLEN : Hid ((nextL m.give (ws.getD j 0) l).length = ps.length) := by
              show _ = _
              rw [nextL_length]; exact hll
            have HR2 : Hid (∀ x ∈ nextL m.give (ws.getD j 0) l, 0 ≤ x ∧ x ≤ 2000) := nextL_in HMI.out.give (HWR.out _ (by rw [List.getD_eq_getElem?_getD, List.getElem?_eq_getElem hj]; exact List.getElem_mem _)) HR.out
            clear hx2 HO HR HF y1
            generalize nextL m.give (ws.getD j 0) l = l2 at *
            clear hll
            have hl2len : l2.length = ps.length := HLEN.out
            clear HLEN
            go_wp2_with fail
            go_loopw [9] (fun i W => ∃ q : Nat, q ≤ ps.length ∧ i = .int .i64 q ∧ Hid (WhB w m A1 A2 c1 c2 ps ws g Ax l2 (mixL m.st ((j : Int) + 1) o l2 q) W)) (fun i _ => ps.length - (intOf i).toNat)
            case atStart => exact ⟨0, by omega, rfl, by rw [mix_zero]; exact HX⟩
            case round =>
              obtain ⟨q, hq, rfl, HI⟩ := hrel
              clear HX
              by_cases hlq : q < ps.length
              · have hlq' : (q : Int) < ps.length := by omega
                obtain ⟨x, hx⟩ : ∃ x, o[q]? = some x := ⟨o[q]'(by omega), List.getElem?_eq_getElem _⟩
                obtain ⟨y, hy⟩ : ∃ y, l2[q]? = some y := ⟨l2[q]'(by omega), List.getElem?_eq_getElem _⟩
                have hol2 : o.length = l2.length := by omega
                have kx := HI.out.ol.at_ (mix_at hol2 hx)
                have fx := Blk.frozen HI.out.ol q
                have gx := Blk.lt HI.out.ol
                have c6 := HI.out.b0.bk.cell 6
                obtain ⟨bl, ol, rfl, hbl, ky⟩ := ints_at HI.out.l.at_ hy
                by_cases hx0 : x < 0
                · by_cases hys : y ≤ m.st
                  · have HS := Lib.hid (mix_step (st := m.st) (n := ((j : Int) + 1)) hol2 hx hy)
                    rw [show upd m.st ((j : Int) + 1) x y = ((j : Int) + 1) from if_pos ⟨hx0, hys⟩] at HS
                    clear hx hy
                    go_wp2_with fail
                    go_quiet (fail)
                    have HW2 := Lib.hid ((HI.out.on (below_drewN' (Below.refl _ _) nq)).set q ((j : Int) + 1))
                    rw [HS.out] at HW2
                    clear HS
                    go_wp2_with fail
                    go_roundw
                    case rel => first | exact ⟨q + 1, by omega, by go_num, HW2⟩ | exact ⟨q + 1, by omega, by go_num, by have h := HW2; rw [hk0] at h ⊢; exact h⟩
                    case measure => exact meas_one hlq
                  · have HS := Lib.hid (mix_same (st := m.st) (n := ((j : Int) + 1)) hol2 hx hy (if_neg (fun h => hys h.2)))
                    have hd : decide (y ≤ m.st) = false := decide_eq_false hys
                    clear hx hy
                    go_wp2_with fail
                    go_quiet (fail)
                    have HW2 := Lib.hid (HI.out.on (below_drewN' (Below.refl _ _) nq))
                    rw [HS.out] at HW2
                    clear HS
                    go_wp2_with fail
                    go_roundw
                    case rel => first | exact ⟨q + 1, by omega, by go_num, HW2⟩ | exact ⟨q + 1, by omega, by go_num, by have h := HW2; rw [hk0] at h ⊢; exact h⟩
                    case measure => exact meas_one hlq
                · have HS := Lib.hid (mix_same (st := m.st) (n := ((j : Int) + 1)) hol2 hx hy (if_neg (fun h => hx0 h.1)))
                  have hd : decide (x < 0) = false := decide_eq_false hx0
                  clear hx hy
                  go_wp2_with fail
                  go_quiet (fail)
                  have HW2 := Lib.hid (HI.out.on (below_drewN' (Below.refl _ _) nq))
                  rw [HS.out] at HW2
                  clear HS
                  go_wp2_with fail
                  go_roundw
                  case rel => first | exact ⟨q + 1, by omega, by go_num, HW2⟩ | exact ⟨q + 1, by omega, by go_num, by have h := HW2; rw [hk0] at h ⊢; exact h⟩
                  case measure => exact meas_one hlq
              · obtain rfl : q = ps.length := by omega
                have hnq : ¬ ((ps.length : Int) < ps.length) := by omega
                have HI2 := HI
                rw [← hl2len, mix_end (by omega)] at HI2
                go_wp2_with fail
                go_roundw
                case rel => exact ⟨j + 1 + 1, updL m.st ((j : Int) + 1) o l2, l2, Ax, _, by omega, rfl, by go_num, by rw [updL_length (by omega)]; omega, by omega, HR2, HF2, HI2⟩
                case measure => first | exact meas_one (by omega) | (simp [intOf]; done) | (simp [intOf]; omega)
        · have hkn : ¬ ((k : Int) ≤ ws.length) := by omega
          have he := HF.out.2 (by omega)
          go_wp2_with fail
          refine bodyPost_ret (v := .slice (some ⟨g, 0, none⟩) ps.length ps.length) (by simp [results, Try.results40, go_sem]) rfl ⟨some ⟨g, 0, none⟩, ⟨ps.length, by rw [← HFE.out, HFL.out]⟩, by rw [← HFE.out, he]; exact HO.out.ol.ints (by omega), HO.out.b0.b⟩
end Go.Proofs.Ytljbjcnfkbmjkaa
