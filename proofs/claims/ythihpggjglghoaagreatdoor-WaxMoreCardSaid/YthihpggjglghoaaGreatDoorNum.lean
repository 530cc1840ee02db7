/- wax's reader: expect, number: contracts. -/
import Derived.Test.YthihpggjglghoaaGreatDoorNeed
namespace Go.Proofs.YthihpggjglghoaaGreatDoor
open Go.RowKit Go.Shelf

set_option maxRecDepth 100000 in
set_option maxHeartbeats 2000000 in
theorem expect_none {w0 w : World} {RB UB : Nat} {rest want : ByteArray} (h : Rdr w0 w RB UB rest []) :
    Calls Tryz.prog 77 #[.pointer (some ⟨RB, 0, none⟩), .string want] w fun e w' => e = stopE ∧ w.grownBy w' (some RB) := by
  have HW := Lib.hid (word_none h)
  clear h
  go_enter Tryz.func77, Tryz.ntmps77
  go_wp2_with fail
  refine HW.out.mono ?_
  rintro e w1 ⟨rfl, hg⟩
  go_wp2_with fail
  exact ⟨rfl, rfl, hg⟩
set_option maxRecDepth 100000 in
set_option maxHeartbeats 2000000 in
theorem expect_no {w0 w : World} {RB UB : Nat} {rest want s : ByteArray} {ws : List ByteArray} (h : Rdr w0 w RB UB rest (s :: ws)) (hb : (s.toList == want.toList) = false) :
    Calls Tryz.prog 77 #[.pointer (some ⟨RB, 0, none⟩), .string want] w fun e w' => e = stopE ∧ w.grownBy w' (some RB) := by
  have HW := Lib.hid (word_some h)
  clear h
  go_enter Tryz.func77, Tryz.ntmps77
  go_wp2_with fail
  refine HW.out.mono ?_
  rintro e w1 ⟨rfl, hg, hr⟩
  go_wp2_with fail
  refine (need_f _).mono ?_
  rintro e w2 ⟨rfl, rfl⟩
  go_wp2_with fail
  exact ⟨rfl, rfl, hg⟩
set_option maxRecDepth 100000 in
set_option maxHeartbeats 2000000 in
theorem expect_yes {w0 w : World} {RB UB : Nat} {rest want s : ByteArray} {ws : List ByteArray} (h : Rdr w0 w RB UB rest (s :: ws)) (hb : (s.toList == want.toList) = true) :
    Calls Tryz.prog 77 #[.pointer (some ⟨RB, 0, none⟩), .string want] w fun e w' => e = .returned (.tuple #[]) ∧ w.grownBy w' (some RB) ∧ Rdr w0 w' RB UB rest ws := by
  have HW := Lib.hid (word_some h)
  clear h
  go_enter Tryz.func77, Tryz.ntmps77
  go_wp2_with fail
  refine HW.out.mono ?_
  rintro e w1 ⟨rfl, hg, hr⟩
  go_wp2_with fail
  refine (need_t _).mono ?_
  rintro e w2 ⟨rfl, rfl⟩
  go_wp2_with fail
  go_end0
  exact ⟨rfl, hg, hr⟩

theorem atoi_in {l : List UInt8} {v : Int} (h : Lib.atoiAll l = .ok v) : -9223372036854775808 ≤ v ∧ v ≤ 9223372036854775807 := by
  unfold Lib.atoiAll at h
  split at h
  · cases h
  · rename_i c r
    simp only at h
    split at h
    · cases h
    · cases h
    · split at h
      · cases h
      · split at h
        · cases h
        · rename_i u _ h1 h2
          injection h with h
          subst h
          split <;> omega
theorem atoi_ok {w : World} {s : ByteArray} (hs : s.size ≤ 1000000000) {v : Int} (h : Lib.atoiAll s.data.toList = .ok v) :
    Calls Tryz.prog 100 #[.string s] w fun e w' => e = .returned (.tuple #[.int .i64 v, .nilIface]) ∧ Below w.heap.size w w' := by
  refine (Tryz.strconv_Atoi_ok s (by omega) v h w).mono ?_
  rintro e w' ⟨rfl, rfl | ⟨t, rfl⟩⟩
  · exact ⟨rfl, Below.refl _ _⟩
  · exact ⟨rfl, ⟨rfl, rfl, rfl, by rw [Lib.bytesWorld_size]; omega, fun k hk => Lib.bytesWorld_at_old w 5 t k (by omega)⟩⟩
theorem atoi_no {w : World} (hB : Base w) {s : ByteArray} (hs : s.size ≤ 1000000000) (h : ∀ v, Lib.atoiAll s.data.toList ≠ .ok v) :
    Calls Tryz.prog 100 #[.string s] w fun e w' => ∃ n T N, e = .returned (.tuple #[.int .i64 n, .iface T (.pointer (some ⟨N, 0, none⟩))]) ∧ Below w.heap.size w w' := by
  cases hh : Lib.atoiAll s.data.toList with
  | ok v => exact absurd hh (h v)
  | range =>
    obtain ⟨te, pe, he⟩ := hB.era
    refine (Tryz.strconv_Atoi_range s (by omega) hh _ w he (.inr ⟨_, _, rfl⟩)).mono ?_
    rintro e w' ⟨N, rfl, _, _, hb⟩
    exact ⟨_, _, _, rfl, hb⟩
  | _ =>
    obtain ⟨te, pe, he⟩ := hB.esy
    refine (Tryz.strconv_Atoi_syntax s (by omega) hh _ w he (.inr ⟨_, _, rfl⟩)).mono ?_
    rintro e w' ⟨N, rfl, _, _, hb⟩
    exact ⟨_, _, _, rfl, hb⟩
theorem Rdr.base {w0 w : World} {RB UB : Nat} {rest : ByteArray} {ws : List ByteArray} (h : Rdr w0 w RB UB rest ws) : Base w := h.bs.on h.be
theorem Rdr.on {w0 w w' : World} {RB UB : Nat} {rest : ByteArray} {ws : List ByteArray} (h : Rdr w0 w RB UB rest ws) (hb : Below w.heap.size w w') : Rdr w0 w' RB UB rest ws := by
  obtain ⟨A, c, hB, hA, hc⟩ := h.at_
  refine ⟨h.bs, h.lo, h.be.trans (hb.mono h.be.size), ⟨A, c, hB.on hb, fun hp => ?_, hc⟩, h.len, Nat.le_trans h.ub hb.size, h.siz⟩
  obtain ⟨b, o, hAe, hne, hlt, hcl⟩ := hA hp
  exact ⟨b, o, hAe, hne, hlt, fun i x hx => (hb.cell (p := ⟨b, o + i, none⟩) (Nat.lt_of_lt_of_le hlt h.ub)).trans (hcl i x hx)⟩
theorem grown_below {w w' : World} {row : Option Nat} (hb : Below w.heap.size w w') : w.grownBy w' row := ⟨hb.os, hb.tape, hb.output, hb.size, fun k hk _ => hb.block k hk⟩

/-- A word as a number. -/
def numV (s : ByteArray) : Option Int := match Lib.atoiAll s.data.toList with
  | .ok v => if (itoaB v).toList == s.toList then some v else none
  | _ => none

set_option maxRecDepth 100000 in
set_option maxHeartbeats 2000000 in
theorem number_none {w0 w : World} {RB UB : Nat} {rest : ByteArray} (h : Rdr w0 w RB UB rest []) :
    Calls Tryz.prog 79 #[.pointer (some ⟨RB, 0, none⟩)] w fun e w' => e = stopE ∧ w.grownBy w' (some RB) := by
  have HW := Lib.hid (word_none h)
  clear h
  go_enter Tryz.func79, Tryz.ntmps79
  go_wp2_with fail
  refine HW.out.mono ?_
  rintro e w1 ⟨rfl, hg⟩
  go_wp2_with fail
  exact ⟨rfl, rfl, hg⟩
set_option maxRecDepth 100000 in
set_option maxHeartbeats 2000000 in
theorem number_some {w0 w : World} {RB UB : Nat} {rest s : ByteArray} {ws : List ByteArray} (h : Rdr w0 w RB UB rest (s :: ws)) {v : Int} (hn : numV s = some v) :
    Calls Tryz.prog 79 #[.pointer (some ⟨RB, 0, none⟩)] w fun e w' => e = .returned (.int .i64 v) ∧ w.grownBy w' (some RB) ∧ Rdr w0 w' RB UB rest ws := by
  have HW := Lib.hid (word_some h)
  have hs := h.siz.2 s (by simp)
  unfold numV at hn
  split at hn
  · rename_i v' hv
    split at hn
    · rename_i he
      obtain rfl : v' = v := by simpa using hn
      have hin := atoi_in hv
      have HV := Lib.hid (fun W : World => atoi_ok (w := W) hs hv)
      clear h hv hn
      go_enter Tryz.func79, Tryz.ntmps79
      go_wp2_with fail
      refine HW.out.mono ?_
      rintro e w1 ⟨rfl, hg, hr⟩
      go_wp2_with fail
      refine (HV.out _).mono ?_
      rintro e w2 ⟨rfl, hb2⟩
      have hr2 := hr.on hb2
      have hg2 : w.grownBy w2 (some RB) := hg.trans (grown_below hb2)
      clear hb2 hg hr HW
      go_wp2_with fail
      refine (itoa_any hr2.base v' hin.1 hin.2).mono ?_
      rintro e w3 ⟨rfl, hb3⟩
      have hr3 := hr2.on hb3
      have hg3 : w.grownBy w3 (some RB) := hg2.trans (grown_below hb3)
      clear hb3 hr2 hg2
      go_wp2_with fail
      refine (need_t _).mono ?_
      rintro e w4 ⟨rfl, rfl⟩
      go_wp2_with fail
      go_ret
      exact ⟨rfl, hg3, hr3⟩
    · simp at hn
  · simp at hn

set_option maxRecDepth 100000 in
set_option maxHeartbeats 2000000 in
theorem number_stop {w0 w : World} {RB UB : Nat} {rest s : ByteArray} {ws : List ByteArray} (h : Rdr w0 w RB UB rest (s :: ws)) (hn : numV s = none) :
    Calls Tryz.prog 79 #[.pointer (some ⟨RB, 0, none⟩)] w fun e w' => e = stopE ∧ w.grownBy w' (some RB) := by
  have HW := Lib.hid (word_some h)
  have hs := h.siz.2 s (by simp)
  by_cases hok : ∃ v, Lib.atoiAll s.data.toList = .ok v
  · obtain ⟨v, hv⟩ := hok
    have he : ((itoaB v).toList == s.toList) = false := by
      unfold numV at hn
      rw [hv] at hn
      simp only at hn
      split at hn
      · cases hn
      · rename_i hx; simpa using hx
    have hin := atoi_in hv
    have HV := Lib.hid (fun W : World => atoi_ok (w := W) hs hv)
    clear h hv hn
    go_enter Tryz.func79, Tryz.ntmps79
    go_wp2_with fail
    refine HW.out.mono ?_
    rintro e w1 ⟨rfl, hg, hr⟩
    go_wp2_with fail
    refine (HV.out _).mono ?_
    rintro e w2 ⟨rfl, hb2⟩
    have hr2 := hr.on hb2
    have hg2 : w.grownBy w2 (some RB) := hg.trans (grown_below hb2)
    clear hb2 hg hr HW
    go_wp2_with fail
    refine (itoa_any hr2.base v hin.1 hin.2).mono ?_
    rintro e w3 ⟨rfl, hb3⟩
    have hg3 : w.grownBy w3 (some RB) := hg2.trans (grown_below hb3)
    clear hb3 hr2 hg2
    go_wp2_with fail
    refine (need_f _).mono ?_
    rintro e w4 ⟨rfl, rfl⟩
    go_wp2_with fail
    exact ⟨rfl, rfl, hg3⟩
  · clear hn
    have hno : ∀ v, Lib.atoiAll s.data.toList ≠ .ok v := fun v hv => hok ⟨v, hv⟩
    clear h hok
    go_enter Tryz.func79, Tryz.ntmps79
    go_wp2_with fail
    refine HW.out.mono ?_
    rintro e w1 ⟨rfl, hg, hr⟩
    go_wp2_with fail
    refine (atoi_no hr.base hs hno).mono ?_
    rintro e w2 ⟨n, T, N, rfl, hb2⟩
    have hg2 : w.grownBy w2 (some RB) := hg.trans (grown_below hb2)
    clear hb2 hg hr HW hno
    go_wp2_with fail
    refine (need_f _).mono ?_
    rintro e w4 ⟨rfl, rfl⟩
    go_wp2_with fail
    exact ⟨rfl, rfl, hg2⟩
end Go.Proofs.YthihpggjglghoaaGreatDoor
