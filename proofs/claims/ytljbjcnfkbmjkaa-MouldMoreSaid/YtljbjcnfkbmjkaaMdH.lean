/- slices.IndexFunc, slices.ContainsFunc with mould.closed's closure: contracts. -/
import Derived.Test.YtljbjcnfkbmjkaaMdG
namespace Go.Proofs.Ytljbjcnfkbmjkaa
open Go.RowKit Go.Shelf Go.Maps
attribute [local go_sem] Oper.semAt_some

set_option maxRecDepth 100000 in
set_option maxHeartbeats 1000000 in
theorem idxC_any {w : World} {A : Option Addr} {c : Nat} {l : List Int} {m : Md} {o : List Int} {b cc B1 B2 : Nat} (h1 : Blk w B1 106 #[.map (some b), .map (some cc)]) (h2 : Blk w B2 88 #[.int .i64 m.rings, .int .i64 m.give, .int .i64 m.plo, .int .i64 m.phi, .int .i64 m.wlo, .int .i64 m.whi, .int .i64 m.st, .int .i64 m.shrink, .int .i64 m.skin, .int .i64 m.fill, .int .i64 m.gap, .int .i64 m.deep]) (hm : MapAt w b o) (h8 : o.length ≤ 8) (h : IntsIn w A l) :
    Calls Try.prog 91 #[.slice A l.length c, .func (.func 92) #[] #[.pointer (some ⟨B1, 0, none⟩), .pointer (some ⟨B2, 0, none⟩)]] w fun e w' => e = .returned (.int .i64 (idxL (shut m o) l 0)) ∧ Below w.heap.size w w' := by
  have HI := Lib.hid h
  have hl := h.len
  have H1 := Lib.hid h1
  have H2 := Lib.hid h2
  have HM := Lib.hid hm
  have eg : ∀ args w, (callFunc 92 args).run Try.prog w = .ok (.enter 92 args) w := enters_of Try.func92 (by kernel_rfl) rfl
  clear h h1 h2 hm
  go_enter Try.func91, Try.ntmps91
  go_wp2_with fail
  go_loopw [8] (fun i W => ∃ k : Nat, k ≤ l.length ∧ i = .int .i64 k ∧ Hid (idxL (shut m o) (l.drop k) k = idxL (shut m o) l 0) ∧ Hid (Below w.heap.size w W)) (fun i _ => l.length - (intOf i).toNat)
  case atStart => exact ⟨0, by omega, rfl, rfl, Below.refl _ _⟩
  case round =>
    obtain ⟨k, hk, rfl, HR, HB⟩ := hrel
    by_cases hlt : k < l.length
    · obtain ⟨x, hx⟩ : ∃ x, l[k]? = some x := ⟨l[k], List.getElem?_eq_getElem hlt⟩
      obtain ⟨bb, of, rfl, _, c0⟩ := ints_at (HI.out.on HB.out).at_ hx
      have hd : l.drop k = x :: l.drop (k + 1) := drop_at hx
      have HD := Lib.hid (show idxL (shut m o) l 0 = if shut m o x = true then (k : Int) else idxL (shut m o) (l.drop (k + 1)) ((k : Int) + 1) by rw [← HR.out, hd, idxL])
      have HC := Lib.hid (closedF_any (n := x) (H1.out.on HB.out) (H2.out.on HB.out) (HM.out.on HB.out) h8)
      clear hx hd HR
      go_wp2_with fail
      refine HC.out.mono ?_
      rintro e w1 ⟨rfl, hb⟩
      have HB := Lib.hid (HB.out.trans (hb.mono HB.out.size))
      clear hb HC
      by_cases h1 : shut m o x = true
      · have H := Lib.hid (show idxL (shut m o) l 0 = k by rw [HD.out, if_pos h1])
        clear HD
        go_wp2_with fail
        go_ret
        exact ⟨ret_i64 H.out.symm, HB.out⟩
      · have H := Lib.hid (show idxL (shut m o) (l.drop (k + 1)) ((k + 1 : Nat) : Int) = idxL (shut m o) l 0 by rw [HD.out, if_neg h1]; rfl)
        clear HD
        go_wp2_with fail
        go_roundw
        case rel => exact ⟨k + 1, Nat.succ_le_of_lt hlt, by go_num, H, HB⟩
        case measure => exact meas_one hlt
    · have H := Lib.hid (show idxL (shut m o) l 0 = -1 by rw [← HR.out, List.drop_eq_nil_of_le (by omega)]; rfl)
      clear HR
      go_wp2_with fail
      go_ret
      exact ⟨ret_i64 H.out.symm, HB.out⟩
theorem contC_any {w : World} {A : Option Addr} {c : Nat} {l : List Int} {m : Md} {o : List Int} {b cc B1 B2 : Nat} (h1 : Blk w B1 106 #[.map (some b), .map (some cc)]) (h2 : Blk w B2 88 #[.int .i64 m.rings, .int .i64 m.give, .int .i64 m.plo, .int .i64 m.phi, .int .i64 m.wlo, .int .i64 m.whi, .int .i64 m.st, .int .i64 m.shrink, .int .i64 m.skin, .int .i64 m.fill, .int .i64 m.gap, .int .i64 m.deep]) (hm : MapAt w b o) (h8 : o.length ≤ 8) (h : IntsIn w A l) :
    Calls Try.prog 74 #[.slice A l.length c, .func (.func 92) #[] #[.pointer (some ⟨B1, 0, none⟩), .pointer (some ⟨B2, 0, none⟩)]] w fun e w' => e = .returned (.bool (l.any (shut m o))) ∧ Below w.heap.size w w' := by
  have HC := Lib.hid (idxC_any (c := c) h1 h2 hm h8 h)
  have HE := Lib.hid (idxL_any (shut m o) l 0 (Int.le_refl _))
  clear h h1 h2 hm
  go_enter Try.func74, Try.ntmps74
  go_wp2_with fail
  refine HC.out.mono ?_
  rintro e w1 ⟨rfl, hb⟩
  go_wp2_with fail
  go_ret
  exact ⟨ret_bool (by have := HE.out; simpa using this), hb⟩
end Go.Proofs.Ytljbjcnfkbmjkaa
