/- Layer wick, a part: questions of a shop. No statement is proved here. -/
import Derived.Test.YtkjfommdeljefaaGa
import Derived.Defers
import Derived.Recover
namespace Go.Proofs.Ytkjfommdeljefaa
open Go.RowKit Go.Shelf

set_option maxRecDepth 100000 in
set_option maxHeartbeats 2000000 in
theorem bounds_any {w : World} {p : Sp} (h : ShIn w p) :
    Calls Try.prog 42 #[.agg #[.slice p.ka p.s.ks.length p.kc, .slice p.xa p.s.xs.length p.xc, .int .i64 p.s.flo, .int .i64 p.s.fhi, .int .i64 p.s.plo, .int .i64 p.s.phi]] w fun e w' => e = .returned (.int .i64 (boundE p.s)) ∧ Below w.heap.size w w' := by
  have hk := h.ks.len
  have hx := h.xs.len
  have W1 := Lib.hid (fun (W : World) (A : Option Addr) (hI : IntsIn W A [(p.s.ks.length : Int)]) => within_one (c := 1) 1 12 p.s.ks.length hI)
  have W2 := Lib.hid (fun (W : World) (A : Option Addr) (hI : IntsIn W A [(p.s.xs.length : Int)]) => within_one (c := 1) 1 6 p.s.xs.length hI)
  have HE : Hid (boundE p.s = if inB p.s.ks.length 1 12 = true ∧ inB p.s.xs.length 1 6 = true then orE [rangeE 0 2000 [p.s.flo, p.s.fhi, p.s.plo, p.s.phi], orderE [(p.s.flo, p.s.fhi), (p.s.plo, p.s.phi)]] else 3) := rfl
  have HB := Lib.hid ((Bx.nil w).alloc #[.slice p.ka p.s.ks.length p.kc, .slice p.xa p.s.xs.length p.xc, .int .i64 p.s.flo, .int .i64 p.s.fhi, .int .i64 p.s.plo, .int .i64 p.s.phi] 27)
  generalize inB p.s.ks.length 1 12 = z1 at *
  generalize inB p.s.xs.length 1 6 = z2 at *
  clear h
  cases z1 with
  | false =>
    have H := Lib.hid (show boundE p.s = 3 by rw [HE.out, if_neg (by simp)])
    go_enter Try.func42, Try.ntmps42
    go_wp2_with (first
      | ((with_reducible refine (W1.out _ _ (ione1_in _ _ _)).mono ?_); rintro e w' ⟨rfl, hw⟩; have HB1 := Lib.hid (HB.out.alloc #[.int .i64 (p.s.ks.length : Int)] 3); rw [← hw] at HB1; clear hw)
      | fail)
    go_ret
    exact ⟨ret_i64 H.out.symm, HB1.out.b⟩
  | true =>
    cases z2 with
    | false =>
      have H := Lib.hid (show boundE p.s = 3 by rw [HE.out, if_neg (by simp)])
      go_enter Try.func42, Try.ntmps42
      go_wp2_with (first
        | ((with_reducible refine (W1.out _ _ (ione1_in _ _ _)).mono ?_); rintro e w1 ⟨rfl, hw⟩; have HB1 := Lib.hid (HB.out.alloc #[.int .i64 (p.s.ks.length : Int)] 3); rw [← hw] at HB1; clear hw; have c0 := (HB1.out.get (g := w.heap.size) (cs := #[.slice p.ka p.s.ks.length p.kc, .slice p.xa p.s.xs.length p.xc, .int .i64 p.s.flo, .int .i64 p.s.fhi, .int .i64 p.s.plo, .int .i64 p.s.phi]) (T := 27) (by simp)).cell 1)
        | ((with_reducible refine (W2.out _ _ (ione_in _ _)).mono ?_); rintro e w2 ⟨rfl, hw⟩; have HB2 := Lib.hid (HB1.out.alloc #[.int .i64 (p.s.xs.length : Int)] 3); rw [← hw] at HB2; clear hw)
        | fail)
      go_ret
      exact ⟨ret_i64 H.out.symm, HB2.out.b⟩
    | true =>
      have H := Lib.hid (show boundE p.s = orE [rangeE 0 2000 [p.s.flo, p.s.fhi, p.s.plo, p.s.phi], orderE [(p.s.flo, p.s.fhi), (p.s.plo, p.s.phi)]] by rw [HE.out, if_pos ⟨rfl, rfl⟩])
      go_enter Try.func42, Try.ntmps42
      go_wp2_with (first
        | ((with_reducible refine (W1.out _ _ (ione1_in _ _ _)).mono ?_); rintro e w1 ⟨rfl, hw⟩; have HB1 := Lib.hid (HB.out.alloc #[.int .i64 (p.s.ks.length : Int)] 3); rw [← hw] at HB1; clear hw; have c0 := (HB1.out.get (g := w.heap.size) (cs := #[.slice p.ka p.s.ks.length p.kc, .slice p.xa p.s.xs.length p.xc, .int .i64 p.s.flo, .int .i64 p.s.fhi, .int .i64 p.s.plo, .int .i64 p.s.phi]) (T := 27) (by simp)).cell 1)
        | ((with_reducible refine (W2.out _ _ (ione_in _ _)).mono ?_); rintro e w2 ⟨rfl, hw⟩; have HB2 := Lib.hid (HB1.out.alloc #[.int .i64 (p.s.xs.length : Int)] 3); rw [← hw] at HB2; clear hw)
        | fail)
      refine wp_of_eq (bd_region (S := fun W => Blk W w.heap.size 27 #[.slice p.ka p.s.ks.length p.kc, .slice p.xa p.s.xs.length p.xc, .int .i64 p.s.flo, .int .i64 p.s.fhi, .int .i64 p.s.plo, .int .i64 p.s.phi] ∧ Below w.heap.size w W) (fun _ _ h hb => ⟨h.1.on hb, h.2.trans (hb.mono h.2.size)⟩) (P := w.heap.size) (p := p) (fun W h => h.1) (Lib.hid ⟨HB2.out.get (by simp), HB2.out.b⟩) (Lib.hid fun u W hS => ?_)) (by kernel_rfl)
      have HS := Lib.hid hS
      clear hS
      go_wp2_with fail
      go_ret
      exact ⟨ret_i64 H.out.symm, HS.out.2⟩
end Go.Proofs.Ytkjfommdeljefaa

namespace Go.Proofs.Ytkjfommdeljefaa
open Go.RowKit Go.Shelf

theorem ret_check {s : Sh} {a b c : Int} (h : checkS s = (a, b, c)) : Ending.returned (.tuple #[.int .i64 a, .int .i64 b, .int .i64 c]) = .returned (.tuple #[.int .i64 (checkS s).1, .int .i64 (checkS s).2.1, .int .i64 (checkS s).2.2]) := by rw [h]
theorem checkS_b {s : Sh} (h : boundE s ≠ 0) : checkS s = (1, 0, boundE s) := by unfold checkS checkOf; rw [if_pos h]
theorem checkS_k {s : Sh} (h : boundE s = 0) (k : Nat) (hk : k < s.ks.length) (h0 : ∀ j, j < k → wickE s.ks j = 0) (hz : wickE s.ks k ≠ 0) : checkS s = (2, (k : Int), wickE s.ks k) := by
  unfold checkS checkOf
  rw [if_neg (by simpa using h), firstAt_hit h0 hk hz]
theorem checkS_x {s : Sh} (h : boundE s = 0) (h1 : ∀ j, j < s.ks.length → wickE s.ks j = 0) (k : Nat) (hk : k < s.xs.length) (h0 : ∀ j, j < k → waxE s.xs j = 0) (hz : waxE s.xs k ≠ 0) : checkS s = (3, (k : Int), waxE s.xs k) := by
  unfold checkS checkOf
  rw [if_neg (by simpa using h), firstAt_none h1, firstAt_hit h0 hk hz]
theorem checkS_ok {s : Sh} (h : boundE s = 0) (h1 : ∀ j, j < s.ks.length → wickE s.ks j = 0) (h2 : ∀ j, j < s.xs.length → waxE s.xs j = 0) : checkS s = (0, 0, 0) := by
  unfold checkS checkOf
  rw [if_neg (by simpa using h), firstAt_none h1, firstAt_none h2]
set_option maxRecDepth 100000 in
set_option maxHeartbeats 4000000 in
theorem check_any {w : World} {p : Sp} (h : ShIn w p) :
    Calls Try.prog 14 #[.agg #[.slice p.ka p.s.ks.length p.kc, .slice p.xa p.s.xs.length p.xc, .int .i64 p.s.flo, .int .i64 p.s.fhi, .int .i64 p.s.plo, .int .i64 p.s.phi]] w fun e w' => e = .returned (.tuple #[.int .i64 (checkS p.s).1, .int .i64 (checkS p.s).2.1, .int .i64 (checkS p.s).2.2]) ∧ Below w.heap.size w w' := by
  have hk1 := h.ks.len
  have hx1 := h.xs.len
  have HH := Lib.hid h
  have HB0 := Lib.hid ((Bx.nil w).alloc #[.slice p.ka p.s.ks.length p.kc, .slice p.xa p.s.xs.length p.xc, .int .i64 p.s.flo, .int .i64 p.s.fhi, .int .i64 p.s.plo, .int .i64 p.s.phi] 27)
  have HBd := Lib.hid (bounds_any (h.on HB0.out.b))
  clear h
  by_cases hz0 : boundE p.s = 0
  · rw [hz0] at HBd
    have HZ0 := Lib.hid hz0
    clear hz0
    go_enter Try.func14, Try.ntmps14
    go_wp2_with (first | (refine HBd.out.mono ?_; rintro e w1 ⟨rfl, hb⟩; have HB := Lib.hid (HB0.out.on hb); have hc0 := (HB.out.get (g := w.heap.size) (cs := #[.slice p.ka p.s.ks.length p.kc, .slice p.xa p.s.xs.length p.xc, .int .i64 p.s.flo, .int .i64 p.s.fhi, .int .i64 p.s.plo, .int .i64 p.s.phi]) (T := 27) (by simp)).cell 0; clear hb) | fail)
    clear hc0
    go_loopw [18] (fun i W => ∃ k : Nat, k ≤ p.s.ks.length ∧ i = .int .i64 k ∧ Hid (∀ j, j < k → wickE p.s.ks j = 0) ∧ Hid (Bx w [(w.heap.size, 27, #[.slice p.ka p.s.ks.length p.kc, .slice p.xa p.s.xs.length p.xc, .int .i64 p.s.flo, .int .i64 p.s.fhi, .int .i64 p.s.plo, .int .i64 p.s.phi])] W)) (fun i _ => p.s.ks.length - (intOf i).toNat)
    case atStart => exact ⟨0, by omega, rfl, fun j hj => absurd hj (by omega), HB⟩
    case round =>
      obtain ⟨k, hk, rfl, HZ, HB⟩ := hrel
      have hc0 := (HB.out.get (g := w.heap.size) (cs := #[.slice p.ka p.s.ks.length p.kc, .slice p.xa p.s.xs.length p.xc, .int .i64 p.s.flo, .int .i64 p.s.fhi, .int .i64 p.s.plo, .int .i64 p.s.phi]) (T := 27) (by simp)).cell 0
      by_cases hlt : k < p.s.ks.length
      · have HC := Lib.hid (errWk_any ((HH.out.on HB.out.b).ks) hlt)
        by_cases hz : wickE p.s.ks k = 0
        · rw [hz] at HC
          have HZ2 : Hid (∀ j, j < k + 1 → wickE p.s.ks j = 0) := by
            intro j hj
            by_cases hjk : j = k
            · subst hjk; exact hz
            · exact HZ.out j (by omega)
          clear hz
          go_wp2_with (first | (refine HC.out.mono ?_; rintro e w1 ⟨rfl, hb⟩; have HB1 := Lib.hid (HB.out.on hb); clear hb) | fail)
          go_roundw
          case rel => exact ⟨k + 1, Nat.succ_le_of_lt hlt, by go_num, HZ2, HB1⟩
          case measure => exact meas_one hlt
        · have HR := Lib.hid (show checkS p.s = (2, (k : Int), wickE p.s.ks k) from checkS_k HZ0.out k hlt HZ.out hz)
          have hz2 : (wickE p.s.ks k != 0) = true := by simpa using hz
          generalize wickE p.s.ks k = z at *
          clear hz
          go_wp2_with (first | (refine HC.out.mono ?_; rintro e w1 ⟨rfl, hb⟩; have HB1 := Lib.hid (HB.out.on hb); clear hb) | fail)
          go_ret3
          exact ⟨ret_check HR.out, HB1.out.b⟩
      · have HK : Hid (∀ j, j < p.s.ks.length → wickE p.s.ks j = 0) := fun j hj => HZ.out j (by omega)
        clear HZ
        have hc1 := (HB.out.get (g := w.heap.size) (cs := #[.slice p.ka p.s.ks.length p.kc, .slice p.xa p.s.xs.length p.xc, .int .i64 p.s.flo, .int .i64 p.s.fhi, .int .i64 p.s.plo, .int .i64 p.s.phi]) (T := 27) (by simp)).cell 1
        go_wp2_with fail
        clear HB0 hc1
        go_loopw [33] (fun i W => ∃ k : Nat, k ≤ p.s.xs.length ∧ i = .int .i64 k ∧ Hid (∀ j, j < k → waxE p.s.xs j = 0) ∧ Hid (Bx w [(w.heap.size, 27, #[.slice p.ka p.s.ks.length p.kc, .slice p.xa p.s.xs.length p.xc, .int .i64 p.s.flo, .int .i64 p.s.fhi, .int .i64 p.s.plo, .int .i64 p.s.phi])] W)) (fun i _ => p.s.xs.length - (intOf i).toNat)
        case atStart => exact ⟨0, by omega, rfl, fun j hj => absurd hj (by omega), HB⟩
        case round =>
          obtain ⟨k, hk, rfl, HZ, HB⟩ := hrel
          have hc0 := (HB.out.get (g := w.heap.size) (cs := #[.slice p.ka p.s.ks.length p.kc, .slice p.xa p.s.xs.length p.xc, .int .i64 p.s.flo, .int .i64 p.s.fhi, .int .i64 p.s.plo, .int .i64 p.s.phi]) (T := 27) (by simp)).cell 1
          by_cases hlt : k < p.s.xs.length
          · have HC := Lib.hid (errWx_any ((HH.out.on HB.out.b).xs) hlt)
            by_cases hz : waxE p.s.xs k = 0
            · rw [hz] at HC
              have HZ2 : Hid (∀ j, j < k + 1 → waxE p.s.xs j = 0) := by
                intro j hj
                by_cases hjk : j = k
                · subst hjk; exact hz
                · exact HZ.out j (by omega)
              clear hz
              go_wp2_with (first | (refine HC.out.mono ?_; rintro e w1 ⟨rfl, hb⟩; have HB1 := Lib.hid (HB.out.on hb); clear hb) | fail)
              go_roundw
              case rel => exact ⟨k + 1, Nat.succ_le_of_lt hlt, by go_num, HZ2, HB1⟩
              case measure => exact meas_one hlt
            · have HR := Lib.hid (show checkS p.s = (3, (k : Int), waxE p.s.xs k) from checkS_x HZ0.out HK.out k hlt HZ.out hz)
              have hz2 : (waxE p.s.xs k != 0) = true := by simpa using hz
              generalize waxE p.s.xs k = z at *
              clear hz
              go_wp2_with (first | (refine HC.out.mono ?_; rintro e w1 ⟨rfl, hb⟩; have HB1 := Lib.hid (HB.out.on hb); clear hb) | fail)
              go_ret3
              exact ⟨ret_check HR.out, HB1.out.b⟩
          · have HK2 : Hid (∀ j, j < p.s.xs.length → waxE p.s.xs j = 0) := fun j hj => HZ.out j (by omega)
            clear HZ
            go_wp2_with fail
            go_ret3
            exact ⟨ret_check (checkS_ok HZ0.out HK.out HK2.out), HB.out.b⟩
  · have HR := Lib.hid (checkS_b hz0)
    have hz2 : (boundE p.s != 0) = true := by simpa using hz0
    generalize boundE p.s = z at *
    go_enter Try.func14, Try.ntmps14
    go_wp2_with (first | (refine HBd.out.mono ?_; rintro e w1 ⟨rfl, hb⟩; have HB := Lib.hid (HB0.out.on hb); clear hb) | fail)
    go_ret3
    exact ⟨ret_check HR.out, HB.out.b⟩
theorem shopE_any {w : World} {p : Sp} (h : ShIn w p) :
    Calls Try.prog 60 #[.agg #[.slice p.ka p.s.ks.length p.kc, .slice p.xa p.s.xs.length p.xc, .int .i64 p.s.flo, .int .i64 p.s.fhi, .int .i64 p.s.plo, .int .i64 p.s.phi]] w fun e w' => e = .returned (.int .i64 (shopE p.s)) ∧ Below w.heap.size w w' := by
  have HB0 := Lib.hid ((Bx.nil w).alloc #[.slice p.ka p.s.ks.length p.kc, .slice p.xa p.s.xs.length p.xc, .int .i64 p.s.flo, .int .i64 p.s.fhi, .int .i64 p.s.plo, .int .i64 p.s.phi] 27)
  have HC := Lib.hid (check_any (h.on HB0.out.b))
  unfold shopE
  generalize (checkS p.s).1 = a at *
  generalize (checkS p.s).2.1 = b at *
  generalize (checkS p.s).2.2 = c at *
  clear h
  go_enter Try.func60, Try.ntmps60
  go_wp2_with (first | (refine HC.out.mono ?_; rintro e w1 ⟨rfl, hb⟩; have HB := Lib.hid (HB0.out.on hb); clear hb) | fail)
  go_ret
  exact ⟨rfl, HB.out.b⟩
end Go.Proofs.Ytkjfommdeljefaa

namespace Go.Proofs.Ytkjfommdeljefaa
open Go.RowKit Go.Shelf Go.Maps
attribute [local go_sem] Oper.semAt_some

theorem need_0 (w : World) : Calls Try.prog 88 #[.int .i64 0] w fun e w' => e = .returned (.tuple #[]) ∧ w' = w := by
  go_enter Try.func88, Try.ntmps88
  go_wp2_with fail
  go_end0
  exact ⟨rfl, rfl⟩
theorem need_z {z : Int} (hz : z ≠ 0) (w : World) : Calls Try.prog 88 #[.int .i64 z] w fun e w' => e = .panicked [{ v := .iface 28 (.int .i64 z), recovered := false }] ∧ w' = w := by
  have h : (z != 0) = true := by simpa using hz
  go_enter Try.func88, Try.ntmps88
  go_wp2_with fail
  exact ⟨rfl, rfl, rfl⟩
theorem cat_idle (p : Option Addr) (w : World) :
    CallsD Try.prog 87 #[.pointer p] .returning w fun e u' w' => e = .returned (.tuple #[]) ∧ u' = .returning ∧ w' = w := by
  refine callsD_of_wpS Try.func87 rfl fun c₀ cs hu => ?_
  apply wpS_seq
  apply wpS_region
  simp [wpOpsS, go_sem, recoverD, hu, Try.ntmps87, Exit.thenS]
  apply wpS_seq
  apply wpS_region
  simp [wpOpsS, go_sem, Exit.thenS]
  refine wpS_cond (t := false) (by simp [Act.eval, Array.replicate]) ?_
  simp only [Bool.false_eq_true, if_false]
  refine wpS_of_wp (wp_skip ?_)
  cases c₀
  simp_all [bodyPostS, results, Try.results87]
theorem ta_errno (v : Value) (w : World) : (Instr.typeAssert (.iface 28 v) 20 28 false).run Try.prog w = .ok v w := by
  kernel_rfl
theorem cat_catch {E : Nat} {d : Value} {w : World} (hE : Blk w E 28 #[d]) (z : Int) (older : List PanicEntry) :
    CallsD Try.prog 87 #[.pointer (some ⟨E, 0, none⟩)] (.panicking ({ v := .iface 28 (.int .i64 z), recovered := false } :: older)) w fun e u' w' =>
      e = .returned (.tuple #[]) ∧ u' = .panicking ({ v := .iface 28 (.int .i64 z), recovered := true } :: older) ∧ w' = w.setCell ⟨E, 0, none⟩ (.int .i64 z) := by
  obtain ⟨o0, o1, o2⟩ := hE.one
  refine callsD_of_wpS Try.func87 rfl fun c₀ cs hu => ?_
  apply wpS_seq
  apply wpS_region
  simp [wpOpsS, go_sem, recoverD, hu, Try.ntmps87, Exit.thenS]
  apply wpS_seq
  apply wpS_region
  simp [wpOpsS, go_sem, Exit.thenS]
  refine wpS_cond (t := true) (by simp [Act.eval, Array.replicate]) ?_
  simp only [if_true]
  apply wpS_region
  simp [wpOpsS, go_sem, ta_errno, o0, o1, bodyPostS, results, Try.results87]
end Go.Proofs.Ytkjfommdeljefaa

namespace Go.Proofs.Ytkjfommdeljefaa
open Go.RowKit Go.Shelf Go.Maps
attribute [local go_sem] Oper.semAt_some


abbrev BLc (w : World) (p : Sp) (c : Cd) (z : Int) : List (Nat × TypeId × Array Value) := [(w.heap.size + 1 + 1, 28, #[.int .i64 z]), (w.heap.size + 1, 34, #[.int .i64 c.wax, .int .i64 c.dia, .int .i64 c.dra, .int .i64 c.clo, .int .i64 c.chi]), (w.heap.size, 27, #[.slice p.ka p.s.ks.length p.kc, .slice p.xa p.s.xs.length p.xc, .int .i64 p.s.flo, .int .i64 p.s.fhi, .int .i64 p.s.plo, .int .i64 p.s.phi])]
theorem Bx.alloc_ {w W : World} {l : List (Nat × TypeId × Array Value)} (h : Bx w l W) (cs : Array Value) (T : TypeId) : Bx w l (W.alloc (.cells cs T)) := h.on ((Below.refl _ W).alloc (Nat.le_refl _) _)
theorem Bx.cand {w W : World} {p : Sp} {c : Cd} {z : Int} (h : Bx w (BLc w p c z) W) : W.cell? ⟨w.heap.size + 1, 0, none⟩ = some (.int .i64 c.wax) ∧ W.cell? ⟨w.heap.size + 1, 1, none⟩ = some (.int .i64 c.dia) ∧ W.cell? ⟨w.heap.size + 1, 2, none⟩ = some (.int .i64 c.dra) ∧ W.cell? ⟨w.heap.size + 1, 3, none⟩ = some (.int .i64 c.clo) ∧ W.cell? ⟨w.heap.size + 1, 4, none⟩ = some (.int .i64 c.chi) ∧ w.heap.size + 1 + 1 < W.heap.size ∧ W.frozen? ⟨w.heap.size + 1 + 1, 0, none⟩ = false ∧ W.cell? ⟨w.heap.size + 1 + 1, 0, none⟩ = some (.int .i64 z) := by
  have hb : Blk W (w.heap.size + 1) 34 #[.int .i64 c.wax, .int .i64 c.dia, .int .i64 c.dra, .int .i64 c.clo, .int .i64 c.chi] := h.get (by simp)
  have he : Blk W (w.heap.size + 1 + 1) 28 #[.int .i64 z] := h.get (by simp)
  exact ⟨hb.cell 0, hb.cell 1, hb.cell 2, hb.cell 3, hb.cell 4, he.lt, he.frozen 0, he.cell 0⟩
theorem Bx.err {w W : World} {p : Sp} {c : Cd} {z : Int} (h : Bx w (BLc w p c z) W) : Blk W (w.heap.size + 1 + 1) 28 #[.int .i64 z] := h.get (by simp)
theorem itwo_in (w : World) (a b : Int) : IntsIn (w.alloc (.cells #[.int .i64 a, .int .i64 b] 3)) (some ⟨w.heap.size, 0, none⟩) [a, b] := ints_blk (Blk.new w 3 #[.int .i64 a, .int .i64 b]) rfl (by simp)
theorem sone_in (w : World) (a b : Int) : SpansIn (w.alloc (.cells #[.int .i64 a, .int .i64 b] 25)) (some ⟨w.heap.size, 0, none⟩) [(a, b)] := spans_blk (l := [(a, b)]) (Blk.new w _ #[.int .i64 a, .int .i64 b]) rfl (by simp)
theorem range_one {w : World} (a b x : Int) {A : Option Addr} {c : Nat} (h : IntsIn w A [x]) :
    Calls Try.prog 66 #[.int .i64 a, .int .i64 b, .slice A 1 c] w fun e w' => e = .returned (.int .i64 (rangeE a b [x])) ∧ w' = w := range_any (c := c) a b h
theorem range_two {w : World} (a b x y : Int) {A : Option Addr} {c : Nat} (h : IntsIn w A [x, y]) :
    Calls Try.prog 66 #[.int .i64 a, .int .i64 b, .slice A 2 c] w fun e w' => e = .returned (.int .i64 (rangeE a b [x, y])) ∧ w' = w := range_any (c := c) a b h
theorem order_one {w : World} (x y : Int) {A : Option Addr} {c : Nat} (h : SpansIn w A [(x, y)]) :
    Calls Try.prog 67 #[.slice A 1 c] w fun e w' => e = .returned (.int .i64 (orderE [(x, y)])) ∧ Below w.heap.size w w' := order_any (c := c) h
set_option maxRecDepth 100000 in
set_option maxHeartbeats 4000000 in
theorem candE_any {w : World} {p : Sp} {c : Cd} (h : ShIn w p) :
    Calls Try.prog 61 #[.agg #[.slice p.ka p.s.ks.length p.kc, .slice p.xa p.s.xs.length p.xc, .int .i64 p.s.flo, .int .i64 p.s.fhi, .int .i64 p.s.plo, .int .i64 p.s.phi], .agg #[.int .i64 c.wax, .int .i64 c.dia, .int .i64 c.dra, .int .i64 c.clo, .int .i64 c.chi]] w fun e w' => e = .returned (.int .i64 (candE p.s c)) ∧ Below w.heap.size w w' := by
  have hx1 := h.xs.len
  have hmf : ∀ (fn : Fn) (first cap : Array Value) (w : World), (Instr.makeFunc fn first cap).run Try.prog w = .ok (.func fn first cap) w := fun _ _ _ _ => rfl
  have hb0 := ((Bx.nil w).alloc #[.slice p.ka p.s.ks.length p.kc, .slice p.xa p.s.xs.length p.xc, .int .i64 p.s.flo, .int .i64 p.s.fhi, .int .i64 p.s.plo, .int .i64 p.s.phi] 27).alloc #[.int .i64 c.wax, .int .i64 c.dia, .int .i64 c.dra, .int .i64 c.clo, .int .i64 c.chi] 34 |>.alloc #[.int .i64 0] 28
  simp only [World.size_alloc] at hb0
  have HB : Hid (Bx w (BLc w p c 0) _) := Lib.hid hb0
  have C0 := Lib.hid (fun (W : World) => index_any p.s.xs.length c.wax W hx1)
  have C1 := Lib.hid (fun (W : World) (A : Option Addr) (hI : IntsIn W A [c.dia]) => range_one (c := 1) 1 2000 c.dia hI)
  have C2 := Lib.hid (fun (W : World) (A : Option Addr) (hI : IntsIn W A [c.dra]) => range_one (c := 1) 0 90 c.dra hI)
  have C3 := Lib.hid (fun (W : World) (A : Option Addr) (hI : IntsIn W A [c.clo, c.chi]) => range_two (c := 2) 0 300 c.clo c.chi hI)
  have C4 := Lib.hid (fun (W : World) (A : Option Addr) (hI : SpansIn W A [(c.clo, c.chi)]) => order_one (c := 1) c.clo c.chi hI)
  have HR : Hid (candE p.s c = orE [idxE p.s.xs.length c.wax, rangeE 1 2000 [c.dia], rangeE 0 90 [c.dra], rangeE 0 300 [c.clo, c.chi], orderE [(c.clo, c.chi)]]) := rfl
  obtain ⟨q0, q1, q2, q3, q4, q5, q6, q7⟩ := HB.out.cand
  clear hb0 h
  by_cases hz : idxE p.s.xs.length c.wax = 0
  · rw [hz] at HR C0
    clear hz
    by_cases hz : rangeE 1 2000 [c.dia] = 0
    · rw [hz] at HR C1
      clear hz
      by_cases hz : rangeE 0 90 [c.dra] = 0
      · rw [hz] at HR C2
        clear hz
        by_cases hz : rangeE 0 300 [c.clo, c.chi] = 0
        · rw [hz] at HR C3
          clear hz
          by_cases hz : orderE [(c.clo, c.chi)] = 0
          · rw [hz] at HR C4
            clear hz
            replace HR := Lib.hid (HR.out.trans (by simp [orE] : _ = (0 : Int)))
            go_enter_defers Try.func61, Try.ntmps61
            go_wp2_with (first
              | (go_at_call 74; (with_reducible refine (C0.out _).mono ?_); rintro e wn ⟨rfl, hb⟩; have NEW := Lib.hid (HB.out.on hb); clear hb HB; have HB := NEW; clear NEW; clear q0 q1 q2 q3 q4 q5 q6 q7; obtain ⟨q0, q1, q2, q3, q4, q5, q6, q7⟩ := HB.out.cand)
              | (go_at_call 66; (with_reducible refine (C1.out _ _ (ione_in _ _)).mono ?_); rintro e wn ⟨rfl, hw⟩; have NEW := Lib.hid (HB.out.alloc_ #[.int .i64 c.dia] 3); rw [← hw] at NEW; clear hw HB; have HB := NEW; clear NEW; clear q0 q1 q2 q3 q4 q5 q6 q7; obtain ⟨q0, q1, q2, q3, q4, q5, q6, q7⟩ := HB.out.cand)
              | (go_at_call 66; (with_reducible refine (C2.out _ _ (ione_in _ _)).mono ?_); rintro e wn ⟨rfl, hw⟩; have NEW := Lib.hid (HB.out.alloc_ #[.int .i64 c.dra] 3); rw [← hw] at NEW; clear hw HB; have HB := NEW; clear NEW; clear q0 q1 q2 q3 q4 q5 q6 q7; obtain ⟨q0, q1, q2, q3, q4, q5, q6, q7⟩ := HB.out.cand)
              | (go_at_call 66; (with_reducible refine (C3.out _ _ (itwo_in _ _ _)).mono ?_); rintro e wn ⟨rfl, hw⟩; have NEW := Lib.hid (HB.out.alloc_ #[.int .i64 c.clo, .int .i64 c.chi] 3); rw [← hw] at NEW; clear hw HB; have HB := NEW; clear NEW; clear q0 q1 q2 q3 q4 q5 q6 q7; obtain ⟨q0, q1, q2, q3, q4, q5, q6, q7⟩ := HB.out.cand)
              | (go_at_call 67; (with_reducible refine (C4.out _ _ (sone_in _ _ _)).mono ?_); rintro e wn ⟨rfl, hb⟩; have NEW := Lib.hid ((HB.out.alloc_ #[.int .i64 c.clo, .int .i64 c.chi] 25).on hb); clear hb HB; have HB := NEW; clear NEW; clear q0 q1 q2 q3 q4 q5 q6 q7; obtain ⟨q0, q1, q2, q3, q4, q5, q6, q7⟩ := HB.out.cand)
              | (go_at_call 88; first | ((with_reducible refine (need_0 _).mono ?_); rintro e w2 ⟨rfl, hw⟩; rw [hw]; clear hw))
              | fail)
            refine leaves_cons (f := 87) (args := #[.pointer (some ⟨w.heap.size + 1 + 1, 0, none⟩)]) (by simp) (by simp [go_sem]) ?_
            refine (cat_idle _ _).mono ?_
            rintro e u' w'' ⟨rfl, rfl, rfl⟩
            have hE := (HB.out.err.set_ 0 (.int .i64 0)).cell 0
            simp only [List.setIfInBounds_toArray, List.set_cons_zero] at hE
            have hf : Below w.heap.size w _ := HB.out.b.setCell (p := ⟨w.heap.size + 1 + 1, 0, none⟩) (by simp; omega) (.int .i64 0)
            have HE := Lib.hid hE
            have HF := Lib.hid hf
            clear hE hf
            rw [HR.out]
            simp [Leaves, settle, results, Try.results61, go_sem, HE.out]
            exact HF.out
          · replace HR := Lib.hid (HR.out.trans (by simp [orE, hz] : _ = orderE [(c.clo, c.chi)]))
            generalize orderE [(c.clo, c.chi)] = z at *
            go_enter_defers Try.func61, Try.ntmps61
            go_wp2_with (first
              | (go_at_call 74; (with_reducible refine (C0.out _).mono ?_); rintro e wn ⟨rfl, hb⟩; have NEW := Lib.hid (HB.out.on hb); clear hb HB; have HB := NEW; clear NEW; clear q0 q1 q2 q3 q4 q5 q6 q7; obtain ⟨q0, q1, q2, q3, q4, q5, q6, q7⟩ := HB.out.cand)
              | (go_at_call 66; (with_reducible refine (C1.out _ _ (ione_in _ _)).mono ?_); rintro e wn ⟨rfl, hw⟩; have NEW := Lib.hid (HB.out.alloc_ #[.int .i64 c.dia] 3); rw [← hw] at NEW; clear hw HB; have HB := NEW; clear NEW; clear q0 q1 q2 q3 q4 q5 q6 q7; obtain ⟨q0, q1, q2, q3, q4, q5, q6, q7⟩ := HB.out.cand)
              | (go_at_call 66; (with_reducible refine (C2.out _ _ (ione_in _ _)).mono ?_); rintro e wn ⟨rfl, hw⟩; have NEW := Lib.hid (HB.out.alloc_ #[.int .i64 c.dra] 3); rw [← hw] at NEW; clear hw HB; have HB := NEW; clear NEW; clear q0 q1 q2 q3 q4 q5 q6 q7; obtain ⟨q0, q1, q2, q3, q4, q5, q6, q7⟩ := HB.out.cand)
              | (go_at_call 66; (with_reducible refine (C3.out _ _ (itwo_in _ _ _)).mono ?_); rintro e wn ⟨rfl, hw⟩; have NEW := Lib.hid (HB.out.alloc_ #[.int .i64 c.clo, .int .i64 c.chi] 3); rw [← hw] at NEW; clear hw HB; have HB := NEW; clear NEW; clear q0 q1 q2 q3 q4 q5 q6 q7; obtain ⟨q0, q1, q2, q3, q4, q5, q6, q7⟩ := HB.out.cand)
              | (go_at_call 67; (with_reducible refine (C4.out _ _ (sone_in _ _ _)).mono ?_); rintro e wn ⟨rfl, hb⟩; have NEW := Lib.hid ((HB.out.alloc_ #[.int .i64 c.clo, .int .i64 c.chi] 25).on hb); clear hb HB; have HB := NEW; clear NEW; clear q0 q1 q2 q3 q4 q5 q6 q7; obtain ⟨q0, q1, q2, q3, q4, q5, q6, q7⟩ := HB.out.cand)
              | (go_at_call 88; first | ((with_reducible refine (need_0 _).mono ?_); rintro e w2 ⟨rfl, hw⟩; rw [hw]; clear hw) | ((with_reducible refine (need_z hz _).mono ?_); rintro e w2 ⟨rfl, hw⟩; rw [hw]; clear hw))
              | fail)
            refine leaves_cons (f := 87) (args := #[.pointer (some ⟨w.heap.size + 1 + 1, 0, none⟩)]) (by simp) (by simp [go_sem]) ?_
            refine (cat_catch HB.out.err _ []).mono ?_
            rintro e u' w'' ⟨rfl, rfl, rfl⟩
            have hE := (HB.out.err.set_ 0 (.int .i64 z)).cell 0
            simp only [List.setIfInBounds_toArray, List.set_cons_zero] at hE
            have hf : Below w.heap.size w _ := HB.out.b.setCell (p := ⟨w.heap.size + 1 + 1, 0, none⟩) (by simp; omega) (.int .i64 z)
            have HE := Lib.hid hE
            have HF := Lib.hid hf
            clear hE hf
            rw [HR.out]
            simp [Leaves, settle, results, Try.results61, go_sem, HE.out]
            exact HF.out
        · replace HR := Lib.hid (HR.out.trans (by simp [orE, hz] : _ = rangeE 0 300 [c.clo, c.chi]))
          generalize rangeE 0 300 [c.clo, c.chi] = z at *
          go_enter_defers Try.func61, Try.ntmps61
          go_wp2_with (first
            | (go_at_call 74; (with_reducible refine (C0.out _).mono ?_); rintro e wn ⟨rfl, hb⟩; have NEW := Lib.hid (HB.out.on hb); clear hb HB; have HB := NEW; clear NEW; clear q0 q1 q2 q3 q4 q5 q6 q7; obtain ⟨q0, q1, q2, q3, q4, q5, q6, q7⟩ := HB.out.cand)
            | (go_at_call 66; (with_reducible refine (C1.out _ _ (ione_in _ _)).mono ?_); rintro e wn ⟨rfl, hw⟩; have NEW := Lib.hid (HB.out.alloc_ #[.int .i64 c.dia] 3); rw [← hw] at NEW; clear hw HB; have HB := NEW; clear NEW; clear q0 q1 q2 q3 q4 q5 q6 q7; obtain ⟨q0, q1, q2, q3, q4, q5, q6, q7⟩ := HB.out.cand)
            | (go_at_call 66; (with_reducible refine (C2.out _ _ (ione_in _ _)).mono ?_); rintro e wn ⟨rfl, hw⟩; have NEW := Lib.hid (HB.out.alloc_ #[.int .i64 c.dra] 3); rw [← hw] at NEW; clear hw HB; have HB := NEW; clear NEW; clear q0 q1 q2 q3 q4 q5 q6 q7; obtain ⟨q0, q1, q2, q3, q4, q5, q6, q7⟩ := HB.out.cand)
            | (go_at_call 66; (with_reducible refine (C3.out _ _ (itwo_in _ _ _)).mono ?_); rintro e wn ⟨rfl, hw⟩; have NEW := Lib.hid (HB.out.alloc_ #[.int .i64 c.clo, .int .i64 c.chi] 3); rw [← hw] at NEW; clear hw HB; have HB := NEW; clear NEW; clear q0 q1 q2 q3 q4 q5 q6 q7; obtain ⟨q0, q1, q2, q3, q4, q5, q6, q7⟩ := HB.out.cand)
            | (go_at_call 88; first | ((with_reducible refine (need_0 _).mono ?_); rintro e w2 ⟨rfl, hw⟩; rw [hw]; clear hw) | ((with_reducible refine (need_z hz _).mono ?_); rintro e w2 ⟨rfl, hw⟩; rw [hw]; clear hw))
            | fail)
          refine leaves_cons (f := 87) (args := #[.pointer (some ⟨w.heap.size + 1 + 1, 0, none⟩)]) (by simp) (by simp [go_sem]) ?_
          refine (cat_catch HB.out.err _ []).mono ?_
          rintro e u' w'' ⟨rfl, rfl, rfl⟩
          have hE := (HB.out.err.set_ 0 (.int .i64 z)).cell 0
          simp only [List.setIfInBounds_toArray, List.set_cons_zero] at hE
          have hf : Below w.heap.size w _ := HB.out.b.setCell (p := ⟨w.heap.size + 1 + 1, 0, none⟩) (by simp; omega) (.int .i64 z)
          have HE := Lib.hid hE
          have HF := Lib.hid hf
          clear hE hf
          rw [HR.out]
          simp [Leaves, settle, results, Try.results61, go_sem, HE.out]
          exact HF.out
      · replace HR := Lib.hid (HR.out.trans (by simp [orE, hz] : _ = rangeE 0 90 [c.dra]))
        generalize rangeE 0 90 [c.dra] = z at *
        go_enter_defers Try.func61, Try.ntmps61
        go_wp2_with (first
          | (go_at_call 74; (with_reducible refine (C0.out _).mono ?_); rintro e wn ⟨rfl, hb⟩; have NEW := Lib.hid (HB.out.on hb); clear hb HB; have HB := NEW; clear NEW; clear q0 q1 q2 q3 q4 q5 q6 q7; obtain ⟨q0, q1, q2, q3, q4, q5, q6, q7⟩ := HB.out.cand)
          | (go_at_call 66; (with_reducible refine (C1.out _ _ (ione_in _ _)).mono ?_); rintro e wn ⟨rfl, hw⟩; have NEW := Lib.hid (HB.out.alloc_ #[.int .i64 c.dia] 3); rw [← hw] at NEW; clear hw HB; have HB := NEW; clear NEW; clear q0 q1 q2 q3 q4 q5 q6 q7; obtain ⟨q0, q1, q2, q3, q4, q5, q6, q7⟩ := HB.out.cand)
          | (go_at_call 66; (with_reducible refine (C2.out _ _ (ione_in _ _)).mono ?_); rintro e wn ⟨rfl, hw⟩; have NEW := Lib.hid (HB.out.alloc_ #[.int .i64 c.dra] 3); rw [← hw] at NEW; clear hw HB; have HB := NEW; clear NEW; clear q0 q1 q2 q3 q4 q5 q6 q7; obtain ⟨q0, q1, q2, q3, q4, q5, q6, q7⟩ := HB.out.cand)
          | (go_at_call 88; first | ((with_reducible refine (need_0 _).mono ?_); rintro e w2 ⟨rfl, hw⟩; rw [hw]; clear hw) | ((with_reducible refine (need_z hz _).mono ?_); rintro e w2 ⟨rfl, hw⟩; rw [hw]; clear hw))
          | fail)
        refine leaves_cons (f := 87) (args := #[.pointer (some ⟨w.heap.size + 1 + 1, 0, none⟩)]) (by simp) (by simp [go_sem]) ?_
        refine (cat_catch HB.out.err _ []).mono ?_
        rintro e u' w'' ⟨rfl, rfl, rfl⟩
        have hE := (HB.out.err.set_ 0 (.int .i64 z)).cell 0
        simp only [List.setIfInBounds_toArray, List.set_cons_zero] at hE
        have hf : Below w.heap.size w _ := HB.out.b.setCell (p := ⟨w.heap.size + 1 + 1, 0, none⟩) (by simp; omega) (.int .i64 z)
        have HE := Lib.hid hE
        have HF := Lib.hid hf
        clear hE hf
        rw [HR.out]
        simp [Leaves, settle, results, Try.results61, go_sem, HE.out]
        exact HF.out
    · replace HR := Lib.hid (HR.out.trans (by simp [orE, hz] : _ = rangeE 1 2000 [c.dia]))
      generalize rangeE 1 2000 [c.dia] = z at *
      go_enter_defers Try.func61, Try.ntmps61
      go_wp2_with (first
        | (go_at_call 74; (with_reducible refine (C0.out _).mono ?_); rintro e wn ⟨rfl, hb⟩; have NEW := Lib.hid (HB.out.on hb); clear hb HB; have HB := NEW; clear NEW; clear q0 q1 q2 q3 q4 q5 q6 q7; obtain ⟨q0, q1, q2, q3, q4, q5, q6, q7⟩ := HB.out.cand)
        | (go_at_call 66; (with_reducible refine (C1.out _ _ (ione_in _ _)).mono ?_); rintro e wn ⟨rfl, hw⟩; have NEW := Lib.hid (HB.out.alloc_ #[.int .i64 c.dia] 3); rw [← hw] at NEW; clear hw HB; have HB := NEW; clear NEW; clear q0 q1 q2 q3 q4 q5 q6 q7; obtain ⟨q0, q1, q2, q3, q4, q5, q6, q7⟩ := HB.out.cand)
        | (go_at_call 88; first | ((with_reducible refine (need_0 _).mono ?_); rintro e w2 ⟨rfl, hw⟩; rw [hw]; clear hw) | ((with_reducible refine (need_z hz _).mono ?_); rintro e w2 ⟨rfl, hw⟩; rw [hw]; clear hw))
        | fail)
      refine leaves_cons (f := 87) (args := #[.pointer (some ⟨w.heap.size + 1 + 1, 0, none⟩)]) (by simp) (by simp [go_sem]) ?_
      refine (cat_catch HB.out.err _ []).mono ?_
      rintro e u' w'' ⟨rfl, rfl, rfl⟩
      have hE := (HB.out.err.set_ 0 (.int .i64 z)).cell 0
      simp only [List.setIfInBounds_toArray, List.set_cons_zero] at hE
      have hf : Below w.heap.size w _ := HB.out.b.setCell (p := ⟨w.heap.size + 1 + 1, 0, none⟩) (by simp; omega) (.int .i64 z)
      have HE := Lib.hid hE
      have HF := Lib.hid hf
      clear hE hf
      rw [HR.out]
      simp [Leaves, settle, results, Try.results61, go_sem, HE.out]
      exact HF.out
  · replace HR := Lib.hid (HR.out.trans (by simp [orE, hz] : _ = idxE p.s.xs.length c.wax))
    generalize idxE p.s.xs.length c.wax = z at *
    go_enter_defers Try.func61, Try.ntmps61
    go_wp2_with (first
      | (go_at_call 74; (with_reducible refine (C0.out _).mono ?_); rintro e wn ⟨rfl, hb⟩; have NEW := Lib.hid (HB.out.on hb); clear hb HB; have HB := NEW; clear NEW; clear q0 q1 q2 q3 q4 q5 q6 q7; obtain ⟨q0, q1, q2, q3, q4, q5, q6, q7⟩ := HB.out.cand)
      | (go_at_call 88; first | ((with_reducible refine (need_0 _).mono ?_); rintro e w2 ⟨rfl, hw⟩; rw [hw]; clear hw) | ((with_reducible refine (need_z hz _).mono ?_); rintro e w2 ⟨rfl, hw⟩; rw [hw]; clear hw))
      | fail)
    refine leaves_cons (f := 87) (args := #[.pointer (some ⟨w.heap.size + 1 + 1, 0, none⟩)]) (by simp) (by simp [go_sem]) ?_
    refine (cat_catch HB.out.err _ []).mono ?_
    rintro e u' w'' ⟨rfl, rfl, rfl⟩
    have hE := (HB.out.err.set_ 0 (.int .i64 z)).cell 0
    simp only [List.setIfInBounds_toArray, List.set_cons_zero] at hE
    have hf : Below w.heap.size w _ := HB.out.b.setCell (p := ⟨w.heap.size + 1 + 1, 0, none⟩) (by simp; omega) (.int .i64 z)
    have HE := Lib.hid hE
    have HF := Lib.hid hf
    clear hE hf
    rw [HR.out]
    simp [Leaves, settle, results, Try.results61, go_sem, HE.out]
    exact HF.out
end Go.Proofs.Ytkjfommdeljefaa

namespace Go.Proofs.Ytkjfommdeljefaa
open Go.RowKit Go.Shelf Go.Maps
attribute [local go_sem] Oper.semAt_some

/-- What each operation leaves. -/
def eoR (P _Q0 : Nat) (p : Sp) (c : Cd) (k : Int) : Nat → Value → World → Prop
  | 0, v, _ => v = .agg #[.slice p.ka p.s.ks.length p.kc, .slice p.xa p.s.xs.length p.xc, .int .i64 p.s.flo, .int .i64 p.s.fhi, .int .i64 p.s.plo, .int .i64 p.s.phi]
  | 1, v, _ => v = .int .i64 (shopE p.s)
  | 2, v, _ => v = .pointer (some ⟨P, 0, none⟩)
  | 3, v, _ => v = .slice p.ka p.s.ks.length p.kc
  | 4, v, _ => v = .int .i64 (p.s.ks.length : Int)
  | 5, v, _ => v = .int .i64 k
  | 6, v, _ => v = .int .i64 (idxE p.s.ks.length k)
  | 7, v, _ => v = .agg #[.slice p.ka p.s.ks.length p.kc, .slice p.xa p.s.xs.length p.xc, .int .i64 p.s.flo, .int .i64 p.s.fhi, .int .i64 p.s.plo, .int .i64 p.s.phi]
  | 8, v, _ => v = .agg #[.int .i64 c.wax, .int .i64 c.dia, .int .i64 c.dra, .int .i64 c.clo, .int .i64 c.chi]
  | 9, v, _ => v = .int .i64 (candE p.s c)
  | 10, v, W => ∃ b_10, v = .slice (some ⟨b_10, 0, none⟩) 3 3 ∧ IntsIn W (some ⟨b_10, 0, none⟩) [(shopE p.s), (idxE p.s.ks.length k), (candE p.s c)]
  | 11, v, _ => v = .int .i64 (orE [shopE p.s, idxE p.s.ks.length k, candE p.s c])
  | 12, v, _ => v = .int .i64 (orE [shopE p.s, idxE p.s.ks.length k, candE p.s c])
  | _, _, _ => True
theorem eoR_on (P Q0 : Nat) (p : Sp) (c : Cd) (k : Int) : ∀ i, i < 13 → ∀ v W W', eoR P Q0 p c k i v W → Below W.heap.size W W' → eoR P Q0 p c k i v W' := by
  iterate 13 (refine all_succ ?_ ?_)
  · exact all_zero
  · exact fun _ _ _ h _ => h
  · exact fun _ _ _ h _ => h
  · exact fun _ _ _ h _ => h
  · exact fun _ _ _ h _ => h
  · exact fun _ _ _ h _ => h
  · exact fun _ _ _ h _ => h
  · exact fun _ _ _ h _ => h
  · exact fun _ _ _ h _ => h
  · exact fun _ _ _ h _ => h
  · exact fun _ _ _ h _ => h
  · rintro v W W' ⟨b_10, e, h0⟩ hb; exact ⟨b_10, e, h0.on hb⟩
  · exact fun _ _ _ h _ => h
  · exact fun _ _ _ h _ => h
set_option maxRecDepth 100000 in
set_option maxHeartbeats 8000000 in
theorem eo_region {S : World → Prop} (hon : ∀ W W', S W → Below W.heap.size W W' → S W') {P Q0 : Nat} {p : Sp} {c : Cd} {k : Int} (hP : ∀ W, S W → Blk W P 27 #[.slice p.ka p.s.ks.length p.kc, .slice p.xa p.s.xs.length p.xc, .int .i64 p.s.flo, .int .i64 p.s.fhi, .int .i64 p.s.plo, .int .i64 p.s.phi]) (hQ : ∀ W, S W → Blk W Q0 34 #[.int .i64 c.wax, .int .i64 c.dia, .int .i64 c.dra, .int .i64 c.clo, .int .i64 c.chi]) (hs : ∀ W, S W → ShIn W p) {Q : Exit → Act → World → Prop} {s0 s2 s4 : Value} {W0 : World} (HL : Hid (S W0))
    (HQ : Hid (∀ (u : Nat → Value) (W : World), S W → Q .normal ⟨#[s0, .int .i64 k, s2, .pointer (some ⟨P, 0, none⟩), s4, .pointer (some ⟨Q0, 0, none⟩), .int .i64 (orE [shopE p.s, idxE p.s.ks.length k, candE p.s c]), u 0, u 1, u 2, u 3, u 4, u 5, u 6, u 7, u 8, u 9, u 10, u 11], []⟩ W)) :
    Code.wp Try.prog ((Try.f49.body.bind (regionAt 1)).getD .skip) Q ⟨#[s0, .int .i64 k, s2, .pointer (some ⟨P, 0, none⟩), s4, .pointer (some ⟨Q0, 0, none⟩), .int .i64 0, undef, undef, undef, undef, undef, undef, undef, undef, undef, undef, undef, undef], []⟩ W0 := by
  conv => arg 2; whnf
  refine wp_region_spec (by kernel_rfl) 13 (by kernel_rfl) (fun u => ⟨#[s0, .int .i64 k, s2, .pointer (some ⟨P, 0, none⟩), s4, .pointer (some ⟨Q0, 0, none⟩), u 12, u 0, u 1, u 2, u 3, u 4, u 5, u 6, u 7, u 8, u 9, u 10, u 11], []⟩) (fun i => if i = 12 then .int .i64 0 else undef) (fun W => Hid (S W)) (eoR P Q0 p c k) (by kernel_rfl) (hon _ _ HL.out (Below.refl _ _).drew) (fun i v W W2 hi h hb => eoR_on P Q0 p c k i hi v W W2 h hb) (by decide +kernel) ?_ ?_
  · iterate 13 (refine all_succ ?_ ?_)
    · exact all_zero
    · intro u W hB _ hd _ K hK
      have HK := Lib.hid hK; clear hK
      refine wpOp_of rfl (by rfl) ?_
      have z0 := (hP W hB.out).cell 0; have z1 := (hP W hB.out).cell 1; have z2 := (hP W hB.out).cell 2; have z3 := (hP W hB.out).cell 3; have z4 := (hP W hB.out).cell 4; have z5 := (hP W hB.out).cell 5
      go_simp
      exact k_of (HK.out (.agg #[.slice p.ka p.s.ks.length p.kc, .slice p.xa p.s.xs.length p.xc, .int .i64 p.s.flo, .int .i64 p.s.fhi, .int .i64 p.s.plo, .int .i64 p.s.phi]) _ rfl hB (Below.refl _ _)) (by kernel_rfl)
    · intro u W hB _ hd _ K hK
      have HK := Lib.hid hK; clear hK
      have e0 : u 0 = .agg #[.slice p.ka p.s.ks.length p.kc, .slice p.xa p.s.xs.length p.xc, .int .i64 p.s.flo, .int .i64 p.s.fhi, .int .i64 p.s.plo, .int .i64 p.s.phi] := hd 0 (by decide +kernel)
      refine wpOp_of rfl (by rfl) ?_
      go_simp
      refine (shopE_any (hs W hB.out)).mono ?_
      rintro e w' ⟨rfl, hb⟩
      exact k_of (HK.out (.int .i64 (shopE p.s)) _ rfl (hon _ _ hB.out hb) hb) (by rw [← u1_eq e0]; kernel_rfl)
    · intro u W hB _ hd _ K hK
      have HK := Lib.hid hK; clear hK
      refine wpOp_of rfl (by rfl) ?_
      go_simp
      exact k_of (HK.out (.pointer (some ⟨P, 0, none⟩)) _ rfl hB (Below.refl _ _)) (by kernel_rfl)
    · intro u W hB _ hd _ K hK
      have HK := Lib.hid hK; clear hK
      have e2 : u 2 = .pointer (some ⟨P, 0, none⟩) := hd 2 (by decide +kernel)
      refine wpOp_of rfl (by rfl) ?_
      have z0 := (hP W hB.out).cell 0
      go_simp
      exact k_of (HK.out (.slice p.ka p.s.ks.length p.kc) _ rfl hB (Below.refl _ _)) (by rw [← u1_eq e2]; kernel_rfl)
    · intro u W hB _ hd _ K hK
      have HK := Lib.hid hK; clear hK
      have e3 : u 3 = .slice p.ka p.s.ks.length p.kc := hd 3 (by decide +kernel)
      refine wpOp_of rfl (by rfl) ?_
      go_simp
      exact k_of (HK.out (.int .i64 (p.s.ks.length : Int)) _ rfl hB (Below.refl _ _)) (by rw [← u1_eq e3]; kernel_rfl)
    · intro u W hB _ hd _ K hK
      have HK := Lib.hid hK; clear hK
      refine wpOp_of rfl (by rfl) ?_
      go_simp
      exact k_of (HK.out (.int .i64 k) _ rfl hB (Below.refl _ _)) (by kernel_rfl)
    · intro u W hB _ hd _ K hK
      have HK := Lib.hid hK; clear hK
      have e4 : u 4 = .int .i64 (p.s.ks.length : Int) := hd 4 (by decide +kernel)
      have e5 : u 5 = .int .i64 k := hd 5 (by decide +kernel)
      refine wpOp_of rfl (by rfl) ?_
      go_simp
      refine (index_any p.s.ks.length k W (hs W hB.out).ks.len).mono ?_
      rintro e w' ⟨rfl, hb⟩
      exact k_of (HK.out (.int .i64 (idxE p.s.ks.length k)) _ rfl (hon _ _ hB.out hb) hb) (by rw [← u1_eq e4, ← u1_eq e5]; kernel_rfl)
    · intro u W hB _ hd _ K hK
      have HK := Lib.hid hK; clear hK
      refine wpOp_of rfl (by rfl) ?_
      have z0 := (hP W hB.out).cell 0; have z1 := (hP W hB.out).cell 1; have z2 := (hP W hB.out).cell 2; have z3 := (hP W hB.out).cell 3; have z4 := (hP W hB.out).cell 4; have z5 := (hP W hB.out).cell 5
      go_simp
      exact k_of (HK.out (.agg #[.slice p.ka p.s.ks.length p.kc, .slice p.xa p.s.xs.length p.xc, .int .i64 p.s.flo, .int .i64 p.s.fhi, .int .i64 p.s.plo, .int .i64 p.s.phi]) _ rfl hB (Below.refl _ _)) (by kernel_rfl)
    · intro u W hB _ hd _ K hK
      have HK := Lib.hid hK; clear hK
      refine wpOp_of rfl (by rfl) ?_
      have z0 := (hQ W hB.out).cell 0; have z1 := (hQ W hB.out).cell 1; have z2 := (hQ W hB.out).cell 2; have z3 := (hQ W hB.out).cell 3; have z4 := (hQ W hB.out).cell 4
      go_simp
      exact k_of (HK.out (.agg #[.int .i64 c.wax, .int .i64 c.dia, .int .i64 c.dra, .int .i64 c.clo, .int .i64 c.chi]) _ rfl hB (Below.refl _ _)) (by kernel_rfl)
    · intro u W hB _ hd _ K hK
      have HK := Lib.hid hK; clear hK
      have e7 : u 7 = .agg #[.slice p.ka p.s.ks.length p.kc, .slice p.xa p.s.xs.length p.xc, .int .i64 p.s.flo, .int .i64 p.s.fhi, .int .i64 p.s.plo, .int .i64 p.s.phi] := hd 7 (by decide +kernel)
      have e8 : u 8 = .agg #[.int .i64 c.wax, .int .i64 c.dia, .int .i64 c.dra, .int .i64 c.clo, .int .i64 c.chi] := hd 8 (by decide +kernel)
      refine wpOp_of rfl (by rfl) ?_
      go_simp
      refine (candE_any (hs W hB.out)).mono ?_
      rintro e w' ⟨rfl, hb⟩
      exact k_of (HK.out (.int .i64 (candE p.s c)) _ rfl (hon _ _ hB.out hb) hb) (by rw [← u1_eq e7, ← u1_eq e8]; kernel_rfl)
    · intro u W hB _ hd _ K hK
      have HK := Lib.hid hK; clear hK
      have e1 : u 1 = .int .i64 (shopE p.s) := hd 1 (by decide +kernel)
      have e6 : u 6 = .int .i64 (idxE p.s.ks.length k) := hd 6 (by decide +kernel)
      have e9 : u 9 = .int .i64 (candE p.s c) := hd 9 (by decide +kernel)
      refine wpOp_of rfl (by rfl) ?_
      go_simp
      exact k_of (HK.out (.slice (some ⟨W.heap.size, 0, none⟩) 3 3) _ ⟨_, rfl, ints_blk (Blk.new _ _ _) rfl (by simp)⟩ (hon _ _ hB.out ((Below.refl _ W).alloc (Nat.le_refl _) _)) ((Below.refl _ W).alloc (Nat.le_refl _) _)) (by rw [← u1_eq e1, ← u1_eq e6, ← u1_eq e9]; kernel_rfl)
    · intro u W hB _ hd _ K hK
      have HK := Lib.hid hK; clear hK
      obtain ⟨b_10, e10, f10_0⟩ : eoR P Q0 p c k 10 (u 10) W := hd 10 (by decide +kernel)
      refine wpOp_of rfl (by rfl) ?_
      go_simp
      refine (or_any (c := 3) f10_0).mono ?_
      rintro e w' ⟨rfl, rfl⟩
      exact k_of (HK.out (.int .i64 (orE [shopE p.s, idxE p.s.ks.length k, candE p.s c])) _ rfl hB (Below.refl _ _)) (by rw [← u1_eq e10]; kernel_rfl)
    · intro u W hB _ hd _ K hK
      have HK := Lib.hid hK; clear hK
      have e11 : u 11 = .int .i64 (orE [shopE p.s, idxE p.s.ks.length k, candE p.s c]) := hd 11 (by decide +kernel)
      refine wpOp_of rfl (by rfl) ?_
      go_simp
      exact k_of (HK.out (.int .i64 (orE [shopE p.s, idxE p.s.ks.length k, candE p.s c])) _ rfl hB (Below.refl _ _)) (by rw [← u1_eq e11]; kernel_rfl)
  · intro u W hB hd
    have e12 : u 12 = .int .i64 (orE [shopE p.s, idxE p.s.ks.length k, candE p.s c]) := hd 12 (by decide)
    exact k_of (HQ.out u W hB.out) (by simp only [e12])

/-- What each operation leaves. -/
def suR (_P _Q0 : Nat) (p : Sp) (c : Cd) : Nat → Value → World → Prop
  | 0, v, _ => v = .agg #[.slice p.ka p.s.ks.length p.kc, .slice p.xa p.s.xs.length p.xc, .int .i64 p.s.flo, .int .i64 p.s.fhi, .int .i64 p.s.plo, .int .i64 p.s.phi]
  | 1, v, _ => v = .int .i64 (shopE p.s)
  | 2, v, _ => v = .agg #[.slice p.ka p.s.ks.length p.kc, .slice p.xa p.s.xs.length p.xc, .int .i64 p.s.flo, .int .i64 p.s.fhi, .int .i64 p.s.plo, .int .i64 p.s.phi]
  | 3, v, _ => v = .agg #[.int .i64 c.wax, .int .i64 c.dia, .int .i64 c.dra, .int .i64 c.clo, .int .i64 c.chi]
  | 4, v, _ => v = .int .i64 (candE p.s c)
  | 5, v, W => ∃ b_5, v = .slice (some ⟨b_5, 0, none⟩) 2 2 ∧ IntsIn W (some ⟨b_5, 0, none⟩) [(shopE p.s), (candE p.s c)]
  | 6, v, _ => v = .int .i64 (orE [shopE p.s, candE p.s c])
  | 7, v, _ => v = .int .i64 (orE [shopE p.s, candE p.s c])
  | _, _, _ => True
theorem suR_on (P Q0 : Nat) (p : Sp) (c : Cd) : ∀ i, i < 8 → ∀ v W W', suR P Q0 p c i v W → Below W.heap.size W W' → suR P Q0 p c i v W' := by
  iterate 8 (refine all_succ ?_ ?_)
  · exact all_zero
  · exact fun _ _ _ h _ => h
  · exact fun _ _ _ h _ => h
  · exact fun _ _ _ h _ => h
  · exact fun _ _ _ h _ => h
  · exact fun _ _ _ h _ => h
  · rintro v W W' ⟨b_5, e, h0⟩ hb; exact ⟨b_5, e, h0.on hb⟩
  · exact fun _ _ _ h _ => h
  · exact fun _ _ _ h _ => h
set_option maxRecDepth 100000 in
set_option maxHeartbeats 8000000 in
theorem su_region {S : World → Prop} (hon : ∀ W W', S W → Below W.heap.size W W' → S W') {P Q0 : Nat} {p : Sp} {c : Cd} (hP : ∀ W, S W → Blk W P 27 #[.slice p.ka p.s.ks.length p.kc, .slice p.xa p.s.xs.length p.xc, .int .i64 p.s.flo, .int .i64 p.s.fhi, .int .i64 p.s.plo, .int .i64 p.s.phi]) (hQ : ∀ W, S W → Blk W Q0 34 #[.int .i64 c.wax, .int .i64 c.dia, .int .i64 c.dra, .int .i64 c.clo, .int .i64 c.chi]) (hs : ∀ W, S W → ShIn W p) {Q : Exit → Act → World → Prop} {s0 s1 s4 s5 s7 s15 s16 s17 s18 s19 s20 s21 s22 s23 : Value} {W0 : World} (HL : Hid (S W0))
    (HQ : Hid (∀ (u : Nat → Value) (W : World), S W → Q .normal ⟨#[s0, s1, .pointer (some ⟨P, 0, none⟩), .pointer (some ⟨Q0, 0, none⟩), s4, s5, .int .i64 (orE [shopE p.s, candE p.s c]), s7, u 0, u 1, u 2, u 3, u 4, u 5, u 6, s15, s16, s17, s18, s19, s20, s21, s22, s23], []⟩ W)) :
    Code.wp Try.prog ((Try.f26.body.bind (regionAt 1)).getD .skip) Q ⟨#[s0, s1, .pointer (some ⟨P, 0, none⟩), .pointer (some ⟨Q0, 0, none⟩), s4, s5, undef, s7, undef, undef, undef, undef, undef, undef, undef, s15, s16, s17, s18, s19, s20, s21, s22, s23], []⟩ W0 := by
  conv => arg 2; whnf
  refine wp_region_spec (by kernel_rfl) 8 (by kernel_rfl) (fun u => ⟨#[s0, s1, .pointer (some ⟨P, 0, none⟩), .pointer (some ⟨Q0, 0, none⟩), s4, s5, u 7, s7, u 0, u 1, u 2, u 3, u 4, u 5, u 6, s15, s16, s17, s18, s19, s20, s21, s22, s23], []⟩) (fun i => undef) (fun W => Hid (S W)) (suR P Q0 p c) (by kernel_rfl) (hon _ _ HL.out (Below.refl _ _).drew) (fun i v W W2 hi h hb => suR_on P Q0 p c i hi v W W2 h hb) (by decide +kernel) ?_ ?_
  · iterate 8 (refine all_succ ?_ ?_)
    · exact all_zero
    · intro u W hB _ hd _ K hK
      have HK := Lib.hid hK; clear hK
      refine wpOp_of rfl (by rfl) ?_
      have z0 := (hP W hB.out).cell 0; have z1 := (hP W hB.out).cell 1; have z2 := (hP W hB.out).cell 2; have z3 := (hP W hB.out).cell 3; have z4 := (hP W hB.out).cell 4; have z5 := (hP W hB.out).cell 5
      go_simp
      exact k_of (HK.out (.agg #[.slice p.ka p.s.ks.length p.kc, .slice p.xa p.s.xs.length p.xc, .int .i64 p.s.flo, .int .i64 p.s.fhi, .int .i64 p.s.plo, .int .i64 p.s.phi]) _ rfl hB (Below.refl _ _)) (by kernel_rfl)
    · intro u W hB _ hd _ K hK
      have HK := Lib.hid hK; clear hK
      have e0 : u 0 = .agg #[.slice p.ka p.s.ks.length p.kc, .slice p.xa p.s.xs.length p.xc, .int .i64 p.s.flo, .int .i64 p.s.fhi, .int .i64 p.s.plo, .int .i64 p.s.phi] := hd 0 (by decide +kernel)
      refine wpOp_of rfl (by rfl) ?_
      go_simp
      refine (shopE_any (hs W hB.out)).mono ?_
      rintro e w' ⟨rfl, hb⟩
      exact k_of (HK.out (.int .i64 (shopE p.s)) _ rfl (hon _ _ hB.out hb) hb) (by rw [← u1_eq e0]; kernel_rfl)
    · intro u W hB _ hd _ K hK
      have HK := Lib.hid hK; clear hK
      refine wpOp_of rfl (by rfl) ?_
      have z0 := (hP W hB.out).cell 0; have z1 := (hP W hB.out).cell 1; have z2 := (hP W hB.out).cell 2; have z3 := (hP W hB.out).cell 3; have z4 := (hP W hB.out).cell 4; have z5 := (hP W hB.out).cell 5
      go_simp
      exact k_of (HK.out (.agg #[.slice p.ka p.s.ks.length p.kc, .slice p.xa p.s.xs.length p.xc, .int .i64 p.s.flo, .int .i64 p.s.fhi, .int .i64 p.s.plo, .int .i64 p.s.phi]) _ rfl hB (Below.refl _ _)) (by kernel_rfl)
    · intro u W hB _ hd _ K hK
      have HK := Lib.hid hK; clear hK
      refine wpOp_of rfl (by rfl) ?_
      have z0 := (hQ W hB.out).cell 0; have z1 := (hQ W hB.out).cell 1; have z2 := (hQ W hB.out).cell 2; have z3 := (hQ W hB.out).cell 3; have z4 := (hQ W hB.out).cell 4
      go_simp
      exact k_of (HK.out (.agg #[.int .i64 c.wax, .int .i64 c.dia, .int .i64 c.dra, .int .i64 c.clo, .int .i64 c.chi]) _ rfl hB (Below.refl _ _)) (by kernel_rfl)
    · intro u W hB _ hd _ K hK
      have HK := Lib.hid hK; clear hK
      have e2 : u 2 = .agg #[.slice p.ka p.s.ks.length p.kc, .slice p.xa p.s.xs.length p.xc, .int .i64 p.s.flo, .int .i64 p.s.fhi, .int .i64 p.s.plo, .int .i64 p.s.phi] := hd 2 (by decide +kernel)
      have e3 : u 3 = .agg #[.int .i64 c.wax, .int .i64 c.dia, .int .i64 c.dra, .int .i64 c.clo, .int .i64 c.chi] := hd 3 (by decide +kernel)
      refine wpOp_of rfl (by rfl) ?_
      go_simp
      refine (candE_any (hs W hB.out)).mono ?_
      rintro e w' ⟨rfl, hb⟩
      exact k_of (HK.out (.int .i64 (candE p.s c)) _ rfl (hon _ _ hB.out hb) hb) (by rw [← u1_eq e2, ← u1_eq e3]; kernel_rfl)
    · intro u W hB _ hd _ K hK
      have HK := Lib.hid hK; clear hK
      have e1 : u 1 = .int .i64 (shopE p.s) := hd 1 (by decide +kernel)
      have e4 : u 4 = .int .i64 (candE p.s c) := hd 4 (by decide +kernel)
      refine wpOp_of rfl (by rfl) ?_
      go_simp
      exact k_of (HK.out (.slice (some ⟨W.heap.size, 0, none⟩) 2 2) _ ⟨_, rfl, ints_blk (Blk.new _ _ _) rfl (by simp)⟩ (hon _ _ hB.out ((Below.refl _ W).alloc (Nat.le_refl _) _)) ((Below.refl _ W).alloc (Nat.le_refl _) _)) (by rw [← u1_eq e1, ← u1_eq e4]; kernel_rfl)
    · intro u W hB _ hd _ K hK
      have HK := Lib.hid hK; clear hK
      obtain ⟨b_5, e5, f5_0⟩ : suR P Q0 p c 5 (u 5) W := hd 5 (by decide +kernel)
      refine wpOp_of rfl (by rfl) ?_
      go_simp
      refine (or_any (c := 2) f5_0).mono ?_
      rintro e w' ⟨rfl, rfl⟩
      exact k_of (HK.out (.int .i64 (orE [shopE p.s, candE p.s c])) _ rfl hB (Below.refl _ _)) (by rw [← u1_eq e5]; kernel_rfl)
    · intro u W hB _ hd _ K hK
      have HK := Lib.hid hK; clear hK
      have e6 : u 6 = .int .i64 (orE [shopE p.s, candE p.s c]) := hd 6 (by decide +kernel)
      refine wpOp_of rfl (by rfl) ?_
      go_simp
      exact k_of (HK.out (.int .i64 (orE [shopE p.s, candE p.s c])) _ rfl hB (Below.refl _ _)) (by rw [← u1_eq e6]; kernel_rfl)
  · intro u W hB hd
    have e7 : u 7 = .int .i64 (orE [shopE p.s, candE p.s c]) := hd 7 (by decide)
    exact k_of (HQ.out u W hB.out) (by simp only [e7])

/-- What each operation leaves. -/
def thR (_P _Q0 : Nat) (p : Sp) (c : Cd) : Nat → Value → World → Prop
  | 0, v, _ => v = .agg #[.slice p.ka p.s.ks.length p.kc, .slice p.xa p.s.xs.length p.xc, .int .i64 p.s.flo, .int .i64 p.s.fhi, .int .i64 p.s.plo, .int .i64 p.s.phi]
  | 1, v, _ => v = .int .i64 (shopE p.s)
  | 2, v, _ => v = .agg #[.slice p.ka p.s.ks.length p.kc, .slice p.xa p.s.xs.length p.xc, .int .i64 p.s.flo, .int .i64 p.s.fhi, .int .i64 p.s.plo, .int .i64 p.s.phi]
  | 3, v, _ => v = .agg #[.int .i64 c.wax, .int .i64 c.dia, .int .i64 c.dra, .int .i64 c.clo, .int .i64 c.chi]
  | 4, v, _ => v = .int .i64 (candE p.s c)
  | 5, v, W => ∃ b_5, v = .slice (some ⟨b_5, 0, none⟩) 2 2 ∧ IntsIn W (some ⟨b_5, 0, none⟩) [(shopE p.s), (candE p.s c)]
  | 6, v, _ => v = .int .i64 (orE [shopE p.s, candE p.s c])
  | 7, v, _ => v = .int .i64 (orE [shopE p.s, candE p.s c])
  | _, _, _ => True
theorem thR_on (P Q0 : Nat) (p : Sp) (c : Cd) : ∀ i, i < 8 → ∀ v W W', thR P Q0 p c i v W → Below W.heap.size W W' → thR P Q0 p c i v W' := by
  iterate 8 (refine all_succ ?_ ?_)
  · exact all_zero
  · exact fun _ _ _ h _ => h
  · exact fun _ _ _ h _ => h
  · exact fun _ _ _ h _ => h
  · exact fun _ _ _ h _ => h
  · exact fun _ _ _ h _ => h
  · rintro v W W' ⟨b_5, e, h0⟩ hb; exact ⟨b_5, e, h0.on hb⟩
  · exact fun _ _ _ h _ => h
  · exact fun _ _ _ h _ => h
set_option maxRecDepth 100000 in
set_option maxHeartbeats 8000000 in
theorem th_region {S : World → Prop} (hon : ∀ W W', S W → Below W.heap.size W W' → S W') {P Q0 : Nat} {p : Sp} {c : Cd} (hP : ∀ W, S W → Blk W P 27 #[.slice p.ka p.s.ks.length p.kc, .slice p.xa p.s.xs.length p.xc, .int .i64 p.s.flo, .int .i64 p.s.fhi, .int .i64 p.s.plo, .int .i64 p.s.phi]) (hQ : ∀ W, S W → Blk W Q0 34 #[.int .i64 c.wax, .int .i64 c.dia, .int .i64 c.dra, .int .i64 c.clo, .int .i64 c.chi]) (hs : ∀ W, S W → ShIn W p) {Q : Exit → Act → World → Prop} {s0 s1 s4 s5 s7 s8 s9 s17 s18 s19 s20 s21 s22 s23 s24 s25 s26 s27 s28 s29 s30 s31 s32 s33 s34 s35 s36 s37 s38 s39 s40 s41 s42 s43 s44 s45 s46 s47 s48 : Value} {W0 : World} (HL : Hid (S W0))
    (HQ : Hid (∀ (u : Nat → Value) (W : World), S W → Q .normal ⟨#[s0, s1, .pointer (some ⟨P, 0, none⟩), .pointer (some ⟨Q0, 0, none⟩), s4, s5, .int .i64 (orE [shopE p.s, candE p.s c]), s7, s8, s9, u 0, u 1, u 2, u 3, u 4, u 5, u 6, s17, s18, s19, s20, s21, s22, s23, s24, s25, s26, s27, s28, s29, s30, s31, s32, s33, s34, s35, s36, s37, s38, s39, s40, s41, s42, s43, s44, s45, s46, s47, s48], []⟩ W)) :
    Code.wp Try.prog ((Try.f28.body.bind (regionAt 1)).getD .skip) Q ⟨#[s0, s1, .pointer (some ⟨P, 0, none⟩), .pointer (some ⟨Q0, 0, none⟩), s4, s5, undef, s7, s8, s9, undef, undef, undef, undef, undef, undef, undef, s17, s18, s19, s20, s21, s22, s23, s24, s25, s26, s27, s28, s29, s30, s31, s32, s33, s34, s35, s36, s37, s38, s39, s40, s41, s42, s43, s44, s45, s46, s47, s48], []⟩ W0 := by
  conv => arg 2; whnf
  refine wp_region_spec (by kernel_rfl) 8 (by kernel_rfl) (fun u => ⟨#[s0, s1, .pointer (some ⟨P, 0, none⟩), .pointer (some ⟨Q0, 0, none⟩), s4, s5, u 7, s7, s8, s9, u 0, u 1, u 2, u 3, u 4, u 5, u 6, s17, s18, s19, s20, s21, s22, s23, s24, s25, s26, s27, s28, s29, s30, s31, s32, s33, s34, s35, s36, s37, s38, s39, s40, s41, s42, s43, s44, s45, s46, s47, s48], []⟩) (fun i => undef) (fun W => Hid (S W)) (thR P Q0 p c) (by kernel_rfl) (hon _ _ HL.out (Below.refl _ _).drew) (fun i v W W2 hi h hb => thR_on P Q0 p c i hi v W W2 h hb) (by decide +kernel) ?_ ?_
  · iterate 8 (refine all_succ ?_ ?_)
    · exact all_zero
    · intro u W hB _ hd _ K hK
      have HK := Lib.hid hK; clear hK
      refine wpOp_of rfl (by rfl) ?_
      have z0 := (hP W hB.out).cell 0; have z1 := (hP W hB.out).cell 1; have z2 := (hP W hB.out).cell 2; have z3 := (hP W hB.out).cell 3; have z4 := (hP W hB.out).cell 4; have z5 := (hP W hB.out).cell 5
      go_simp
      exact k_of (HK.out (.agg #[.slice p.ka p.s.ks.length p.kc, .slice p.xa p.s.xs.length p.xc, .int .i64 p.s.flo, .int .i64 p.s.fhi, .int .i64 p.s.plo, .int .i64 p.s.phi]) _ rfl hB (Below.refl _ _)) (by kernel_rfl)
    · intro u W hB _ hd _ K hK
      have HK := Lib.hid hK; clear hK
      have e0 : u 0 = .agg #[.slice p.ka p.s.ks.length p.kc, .slice p.xa p.s.xs.length p.xc, .int .i64 p.s.flo, .int .i64 p.s.fhi, .int .i64 p.s.plo, .int .i64 p.s.phi] := hd 0 (by decide +kernel)
      refine wpOp_of rfl (by rfl) ?_
      go_simp
      refine (shopE_any (hs W hB.out)).mono ?_
      rintro e w' ⟨rfl, hb⟩
      exact k_of (HK.out (.int .i64 (shopE p.s)) _ rfl (hon _ _ hB.out hb) hb) (by rw [← u1_eq e0]; kernel_rfl)
    · intro u W hB _ hd _ K hK
      have HK := Lib.hid hK; clear hK
      refine wpOp_of rfl (by rfl) ?_
      have z0 := (hP W hB.out).cell 0; have z1 := (hP W hB.out).cell 1; have z2 := (hP W hB.out).cell 2; have z3 := (hP W hB.out).cell 3; have z4 := (hP W hB.out).cell 4; have z5 := (hP W hB.out).cell 5
      go_simp
      exact k_of (HK.out (.agg #[.slice p.ka p.s.ks.length p.kc, .slice p.xa p.s.xs.length p.xc, .int .i64 p.s.flo, .int .i64 p.s.fhi, .int .i64 p.s.plo, .int .i64 p.s.phi]) _ rfl hB (Below.refl _ _)) (by kernel_rfl)
    · intro u W hB _ hd _ K hK
      have HK := Lib.hid hK; clear hK
      refine wpOp_of rfl (by rfl) ?_
      have z0 := (hQ W hB.out).cell 0; have z1 := (hQ W hB.out).cell 1; have z2 := (hQ W hB.out).cell 2; have z3 := (hQ W hB.out).cell 3; have z4 := (hQ W hB.out).cell 4
      go_simp
      exact k_of (HK.out (.agg #[.int .i64 c.wax, .int .i64 c.dia, .int .i64 c.dra, .int .i64 c.clo, .int .i64 c.chi]) _ rfl hB (Below.refl _ _)) (by kernel_rfl)
    · intro u W hB _ hd _ K hK
      have HK := Lib.hid hK; clear hK
      have e2 : u 2 = .agg #[.slice p.ka p.s.ks.length p.kc, .slice p.xa p.s.xs.length p.xc, .int .i64 p.s.flo, .int .i64 p.s.fhi, .int .i64 p.s.plo, .int .i64 p.s.phi] := hd 2 (by decide +kernel)
      have e3 : u 3 = .agg #[.int .i64 c.wax, .int .i64 c.dia, .int .i64 c.dra, .int .i64 c.clo, .int .i64 c.chi] := hd 3 (by decide +kernel)
      refine wpOp_of rfl (by rfl) ?_
      go_simp
      refine (candE_any (hs W hB.out)).mono ?_
      rintro e w' ⟨rfl, hb⟩
      exact k_of (HK.out (.int .i64 (candE p.s c)) _ rfl (hon _ _ hB.out hb) hb) (by rw [← u1_eq e2, ← u1_eq e3]; kernel_rfl)
    · intro u W hB _ hd _ K hK
      have HK := Lib.hid hK; clear hK
      have e1 : u 1 = .int .i64 (shopE p.s) := hd 1 (by decide +kernel)
      have e4 : u 4 = .int .i64 (candE p.s c) := hd 4 (by decide +kernel)
      refine wpOp_of rfl (by rfl) ?_
      go_simp
      exact k_of (HK.out (.slice (some ⟨W.heap.size, 0, none⟩) 2 2) _ ⟨_, rfl, ints_blk (Blk.new _ _ _) rfl (by simp)⟩ (hon _ _ hB.out ((Below.refl _ W).alloc (Nat.le_refl _) _)) ((Below.refl _ W).alloc (Nat.le_refl _) _)) (by rw [← u1_eq e1, ← u1_eq e4]; kernel_rfl)
    · intro u W hB _ hd _ K hK
      have HK := Lib.hid hK; clear hK
      obtain ⟨b_5, e5, f5_0⟩ : thR P Q0 p c 5 (u 5) W := hd 5 (by decide +kernel)
      refine wpOp_of rfl (by rfl) ?_
      go_simp
      refine (or_any (c := 2) f5_0).mono ?_
      rintro e w' ⟨rfl, rfl⟩
      exact k_of (HK.out (.int .i64 (orE [shopE p.s, candE p.s c])) _ rfl hB (Below.refl _ _)) (by rw [← u1_eq e5]; kernel_rfl)
    · intro u W hB _ hd _ K hK
      have HK := Lib.hid hK; clear hK
      have e6 : u 6 = .int .i64 (orE [shopE p.s, candE p.s c]) := hd 6 (by decide +kernel)
      refine wpOp_of rfl (by rfl) ?_
      go_simp
      exact k_of (HK.out (.int .i64 (orE [shopE p.s, candE p.s c])) _ rfl hB (Below.refl _ _)) (by rw [← u1_eq e6]; kernel_rfl)
  · intro u W hB hd
    have e7 : u 7 = .int .i64 (orE [shopE p.s, candE p.s c]) := hd 7 (by decide)
    exact k_of (HQ.out u W hB.out) (by simp only [e7])


set_option maxRecDepth 100000 in
theorem askE_any {w : World} {p : Sp} {c : Cd} {k : Int} (h : ShIn w p) :
    Calls Try.prog 49 #[.agg #[.slice p.ka p.s.ks.length p.kc, .slice p.xa p.s.xs.length p.xc, .int .i64 p.s.flo, .int .i64 p.s.fhi, .int .i64 p.s.plo, .int .i64 p.s.phi], .int .i64 k, .agg #[.int .i64 c.wax, .int .i64 c.dia, .int .i64 c.dra, .int .i64 c.clo, .int .i64 c.chi]] w fun e w' => e = .returned (.int .i64 (askE p.s k c)) ∧ Below w.heap.size w w' := by
  have HH := Lib.hid h
  have hb0 := ((Bx.nil w).alloc #[.slice p.ka p.s.ks.length p.kc, .slice p.xa p.s.xs.length p.xc, .int .i64 p.s.flo, .int .i64 p.s.fhi, .int .i64 p.s.plo, .int .i64 p.s.phi] 27).alloc #[.int .i64 c.wax, .int .i64 c.dia, .int .i64 c.dra, .int .i64 c.clo, .int .i64 c.chi] 34
  simp only [World.size_alloc] at hb0
  have HB := Lib.hid hb0
  clear h hb0
  go_enter Try.func49, Try.ntmps49
  go_wp2_with fail
  refine wp_of_eq (eo_region (S := Bx w [(w.heap.size + 1, 34, #[.int .i64 c.wax, .int .i64 c.dia, .int .i64 c.dra, .int .i64 c.clo, .int .i64 c.chi]), (w.heap.size, 27, #[.slice p.ka p.s.ks.length p.kc, .slice p.xa p.s.xs.length p.xc, .int .i64 p.s.flo, .int .i64 p.s.fhi, .int .i64 p.s.plo, .int .i64 p.s.phi])]) (fun _ _ h hb => h.on hb) (P := w.heap.size) (Q0 := w.heap.size + 1) (p := p) (c := c) (k := k) (fun W h => h.get (by simp)) (fun W h => h.get (by simp)) (fun W h => HH.out.on h.b) HB (Lib.hid fun u W hS => ?_)) (by kernel_rfl)
  go_wp2_with fail
  go_ret
  exact ⟨rfl, hS.b⟩
end Go.Proofs.Ytkjfommdeljefaa
