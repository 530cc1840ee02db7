/- wick.within, rangeError, empty, orderError, indexError, cmp.Or: contracts. -/
import Derived.Test.YtkjfommdeljefaaGb
namespace Go.Proofs.Ytkjfommdeljefaa
open Go.RowKit Go.Shelf

theorem drop_at {α : Type} {l : List α} {k : Nat} {x : α} (h : l[k]? = some x) : l.drop k = x :: l.drop (k + 1) := by
  obtain ⟨hlt, he⟩ := List.getElem?_eq_some_iff.1 h
  rw [List.drop_eq_getElem_cons hlt, he]
/-- All numbers are from a to b. -/
def allB (a b : Int) (l : List Int) : Bool := l.all fun x => inB x a b
theorem allB_cons (a b x : Int) (l : List Int) : allB a b (x :: l) = (inB x a b && allB a b l) := by simp [allB]
set_option maxRecDepth 100000 in
set_option maxHeartbeats 1000000 in
theorem within_any {w : World} (a b : Int) {A : Option Addr} {c : Nat} {l : List Int} (h : IntsIn w A l) :
    Calls Try.prog 56 #[.int .i64 a, .int .i64 b, .slice A l.length c] w fun e w' => e = .returned (.bool (allB a b l)) ∧ w' = w := by
  have HI := Lib.hid h
  have hl := h.len
  clear h
  go_enter Try.func56, Try.ntmps56
  go_wp2_with fail
  go_loop [11] (fun i => ∃ k : Nat, k ≤ l.length ∧ i = .int .i64 k ∧ Hid (allB a b (l.drop k) = allB a b l)) (fun i => l.length - (intOf i).toNat)
  case atStart => exact ⟨0, by omega, rfl, rfl⟩
  case round =>
    obtain ⟨k, hk, rfl, HR⟩ := hrel
    by_cases hlt : k < l.length
    · obtain ⟨x, hx⟩ : ∃ x, l[k]? = some x := ⟨l[k], List.getElem?_eq_getElem hlt⟩
      obtain ⟨bb, o, rfl, _, hcell⟩ := ints_at HI.out.at_ hx
      have hd : l.drop k = x :: l.drop (k + 1) := drop_at hx
      have HD := Lib.hid (show allB a b l = (inB x a b && allB a b (l.drop (k + 1))) by rw [← HR.out, hd, allB_cons])
      clear hx hd HR
      by_cases h1 : x < a
      · have H := Lib.hid (show allB a b l = false by rw [HD.out, inB_f (by omega)]; rfl)
        clear HD
        go_wp2_with fail
        go_ret
        exact ⟨ret_bool H.out.symm, rfl⟩
      · by_cases h2 : b < x
        · have H := Lib.hid (show allB a b l = false by rw [HD.out, inB_f (by omega)]; rfl)
          clear HD
          go_wp2_with fail
          go_ret
          exact ⟨ret_bool H.out.symm, rfl⟩
        · have H := Lib.hid (show allB a b (l.drop (k + 1)) = allB a b l by rw [HD.out, inB_t (by omega) (by omega)]; rfl)
          clear HD
          go_wp2_with fail
          go_round
          case rel => exact ⟨k + 1, Nat.succ_le_of_lt hlt, by go_num, H⟩
          case measure => exact meas_one hlt
    · have H := Lib.hid (show allB a b l = true by rw [← HR.out, List.drop_eq_nil_of_le (by omega)]; rfl)
      clear HR
      go_wp2_with fail
      go_ret
      exact ⟨ret_bool H.out.symm, rfl⟩
theorem rangeE_all (a b : Int) (l : List Int) : rangeE a b l = if allB a b l = true then 0 else 7 := rfl
theorem range_any {w : World} (a b : Int) {A : Option Addr} {c : Nat} {l : List Int} (h : IntsIn w A l) :
    Calls Try.prog 66 #[.int .i64 a, .int .i64 b, .slice A l.length c] w fun e w' => e = .returned (.int .i64 (rangeE a b l)) ∧ w' = w := by
  have HC := Lib.hid (within_any (c := c) a b h)
  have hl := h.len
  rw [rangeE_all]
  clear h
  cases hb : allB a b l with
  | true =>
    rw [hb] at HC
    go_enter Try.func66, Try.ntmps66
    go_wp2_with (refine HC.out.mono ?_; rintro e w' ⟨rfl, rfl⟩)
    go_ret
    exact ⟨rfl, rfl⟩
  | false =>
    rw [hb] at HC
    go_enter Try.func66, Try.ntmps66
    go_wp2_with (refine HC.out.mono ?_; rintro e w' ⟨rfl, rfl⟩)
    go_ret
    exact ⟨rfl, rfl⟩
set_option maxRecDepth 100000 in
set_option maxHeartbeats 1000000 in
theorem or_any {w : World} {A : Option Addr} {c : Nat} {l : List Int} (h : IntsIn w A l) :
    Calls Try.prog 59 #[.slice A l.length c] w fun e w' => e = .returned (.int .i64 (orE l)) ∧ w' = w := by
  have HI := Lib.hid h
  have hl := h.len
  clear h
  go_enter Try.func59, Try.ntmps59
  go_wp2_with fail
  go_loop [8] (fun i => ∃ k : Nat, k ≤ l.length ∧ i = .int .i64 k ∧ Hid (orE (l.drop k) = orE l)) (fun i => l.length - (intOf i).toNat)
  case atStart => exact ⟨0, by omega, rfl, rfl⟩
  case round =>
    obtain ⟨k, hk, rfl, HR⟩ := hrel
    by_cases hlt : k < l.length
    · obtain ⟨x, hx⟩ : ∃ x, l[k]? = some x := ⟨l[k], List.getElem?_eq_getElem hlt⟩
      obtain ⟨bb, o, rfl, _, hcell⟩ := ints_at HI.out.at_ hx
      have hd : l.drop k = x :: l.drop (k + 1) := drop_at hx
      have HD := Lib.hid (show orE l = if x ≠ 0 then x else orE (l.drop (k + 1)) by rw [← HR.out, hd, orE])
      clear hx hd HR
      by_cases h1 : x = 0
      · subst h1
        have H := Lib.hid (show orE (l.drop (k + 1)) = orE l by rw [HD.out, if_neg (by simp)])
        clear HD
        go_wp2_with fail
        go_round
        case rel => exact ⟨k + 1, Nat.succ_le_of_lt hlt, by go_num, H⟩
        case measure => exact meas_one hlt
      · have H := Lib.hid (show orE l = x by rw [HD.out, if_pos h1])
        have h2 : (x != 0) = true := by simpa using h1
        have h3 : (x == 0) = false := by simpa using h1
        clear HD
        go_wp2_with fail
        go_ret
        exact ⟨ret_i64 H.out.symm, rfl⟩
    · have H := Lib.hid (show orE l = 0 by rw [← HR.out, List.drop_eq_nil_of_le (by omega)]; rfl)
      clear HR
      go_wp2_with fail
      go_ret
      exact ⟨ret_i64 H.out.symm, rfl⟩
theorem empty_any (w : World) (a b : Int) :
    Calls Try.prog 65 #[.agg #[.int .i64 a, .int .i64 b]] w fun e w' => e = .returned (.bool (decide (b < a))) ∧ Below w.heap.size w w' := by
  have HB := Lib.hid ((Below.refl _ w).alloc (Nat.le_refl _) (.cells #[.int .i64 a, .int .i64 b] 25))
  go_enter Try.func65, Try.ntmps65
  go_wp2_with fail
  go_ret
  exact ⟨rfl, HB.out⟩
/-- The first place at which p holds, from k on; or -1. -/
def idxL {α : Type} (p : α → Bool) : List α → Int → Int
  | [], _ => -1
  | x :: l, k => if p x = true then k else idxL p l (k + 1)
theorem idxL_any {α : Type} (p : α → Bool) : ∀ (l : List α) (k : Int), 0 ≤ k → decide (0 ≤ idxL p l k) = l.any p
  | [], k, _ => by simp [idxL]
  | x :: l, k, h => by
    rw [idxL, List.any_cons]
    cases hp : p x with
    | true => simp [h]
    | false =>
      rw [if_neg (by simp), idxL_any p l (k + 1) (by omega), Bool.false_or]
set_option maxRecDepth 100000 in
set_option maxHeartbeats 1000000 in
theorem idxS_any {w : World} {A : Option Addr} {c : Nat} {l : List (Int × Int)} (h : SpansIn w A l) :
    Calls Try.prog 108 #[.slice A l.length c, .func (.func 65) #[] #[]] w fun e w' => e = .returned (.int .i64 (idxL emptyB l 0)) ∧ Below w.heap.size w w' := by
  have HI := Lib.hid h
  have hl := h.len
  clear h
  go_enter Try.func108, Try.ntmps108
  go_wp2_with fail
  go_loopw [8] (fun i W => ∃ k : Nat, k ≤ l.length ∧ i = .int .i64 k ∧ Hid (idxL emptyB (l.drop k) k = idxL emptyB l 0) ∧ Hid (Below w.heap.size w W)) (fun i _ => l.length - (intOf i).toNat)
  case atStart => exact ⟨0, by omega, rfl, rfl, Below.refl _ _⟩
  case round =>
    obtain ⟨k, hk, rfl, HR, HB⟩ := hrel
    by_cases hlt : k < l.length
    · obtain ⟨⟨x, y⟩, hx⟩ : ∃ x, l[k]? = some x := ⟨l[k], List.getElem?_eq_getElem hlt⟩
      obtain ⟨bb, o, rfl, _, c0, c1⟩ := spans_at (HI.out.on HB.out).at_ hx
      have hd : l.drop k = (x, y) :: l.drop (k + 1) := drop_at hx
      have HD := Lib.hid (show idxL emptyB l 0 = if decide (y < x) = true then (k : Int) else idxL emptyB (l.drop (k + 1)) ((k : Int) + 1) by rw [← HR.out, hd, idxL]; rfl)
      have HC := Lib.hid (empty_any wr x y)
      clear hx hd HR
      go_wp2_with fail
      refine HC.out.mono ?_
      rintro e w1 ⟨rfl, hb⟩
      have HB := Lib.hid (HB.out.trans (hb.mono HB.out.size))
      clear hb HC
      by_cases h1 : y < x
      · have H := Lib.hid (show idxL emptyB l 0 = k by rw [HD.out, if_pos (by simpa using h1)])
        clear HD
        go_wp2_with fail
        go_ret
        exact ⟨ret_i64 H.out.symm, HB.out⟩
      · have H := Lib.hid (show idxL emptyB (l.drop (k + 1)) ((k + 1 : Nat) : Int) = idxL emptyB l 0 by rw [HD.out, if_neg (by simpa using h1)]; rfl)
        clear HD
        go_wp2_with fail
        go_roundw
        case rel => exact ⟨k + 1, Nat.succ_le_of_lt hlt, by go_num, H, HB⟩
        case measure => exact meas_one hlt
    · have H := Lib.hid (show idxL emptyB l 0 = -1 by rw [← HR.out, List.drop_eq_nil_of_le (by omega)]; rfl)
      clear HR
      go_wp2_with fail
      go_ret
      exact ⟨ret_i64 H.out.symm, HB.out⟩
theorem contS_any {w : World} {A : Option Addr} {c : Nat} {l : List (Int × Int)} (h : SpansIn w A l) :
    Calls Try.prog 94 #[.slice A l.length c, .func (.func 65) #[] #[]] w fun e w' => e = .returned (.bool (l.any emptyB)) ∧ Below w.heap.size w w' := by
  have HC := Lib.hid (idxS_any (c := c) h)
  have HE := Lib.hid (idxL_any emptyB l 0 (Int.le_refl _))
  clear h
  go_enter Try.func94, Try.ntmps94
  go_wp2_with fail
  refine HC.out.mono ?_
  rintro e w1 ⟨rfl, hb⟩
  go_wp2_with fail
  go_ret
  exact ⟨ret_bool (by have := HE.out; simpa using this), hb⟩
theorem order_any {w : World} {A : Option Addr} {c : Nat} {l : List (Int × Int)} (h : SpansIn w A l) :
    Calls Try.prog 67 #[.slice A l.length c] w fun e w' => e = .returned (.int .i64 (orderE l)) ∧ Below w.heap.size w w' := by
  have HC := Lib.hid (contS_any (c := c) h)
  clear h
  unfold orderE
  obtain ⟨b, hb⟩ : ∃ b, b = l.any emptyB := ⟨_, rfl⟩
  rw [← hb] at HC ⊢
  clear hb
  cases b with
  | true =>
    go_enter Try.func67, Try.ntmps67
    go_wp2_with fail
    refine HC.out.mono ?_
    rintro e w1 ⟨rfl, hb⟩
    go_wp2_with fail
    go_ret
    exact ⟨rfl, hb⟩
  | false =>
    go_enter Try.func67, Try.ntmps67
    go_wp2_with fail
    refine HC.out.mono ?_
    rintro e w1 ⟨rfl, hb⟩
    go_wp2_with fail
    go_ret
    exact ⟨rfl, hb⟩

theorem ione_in (w : World) (n : Int) : IntsIn (w.alloc (.cells #[.int .i64 n] 3)) (some ⟨w.heap.size, 0, none⟩) [n] := ints_blk (Blk.new w 3 #[.int .i64 n]) rfl (by simp)
theorem idxE_all (n : Nat) (i : Int) : idxE n i = if allB 0 ((n : Int) - 1) [i] = true then 0 else 4 := by simp [idxE, allB]
theorem index_any (n : Nat) (i : Int) (w : World) (hn : n ≤ 9223372036854775807) :
    Calls Try.prog 74 #[.int .i64 (n : Int), .int .i64 i] w fun e w' => e = .returned (.int .i64 (idxE n i)) ∧ Below w.heap.size w w' := by
  have HI := Lib.hid (ione_in w i)
  have HB := Lib.hid ((Below.refl _ w).alloc (Nat.le_refl _) (.cells #[.int .i64 i] 3))
  have hw1 : IntKind.i64.wrap ((n : Int) - 1) = (n : Int) - 1 := IntWalk.i64_in _ (by omega)
  have HC := Lib.hid (within_any (c := 1) 0 ((n : Int) - 1) HI.out)
  rw [idxE_all]
  cases hb : allB 0 ((n : Int) - 1) [i] with
  | true =>
    rw [hb] at HC
    go_enter Try.func74, Try.ntmps74
    go_wp2_with (refine HC.out.mono ?_; rintro e w' ⟨rfl, rfl⟩)
    go_ret
    exact ⟨rfl, HB.out⟩
  | false =>
    rw [hb] at HC
    go_enter Try.func74, Try.ntmps74
    go_wp2_with (refine HC.out.mono ?_; rintro e w' ⟨rfl, rfl⟩)
    go_ret
    exact ⟨rfl, HB.out⟩
theorem ione1_in (w : World) (o : Obj) (n : Int) : IntsIn ((w.alloc o).alloc (.cells #[.int .i64 n] 3)) (some ⟨w.heap.size + 1, 0, none⟩) [n] := ints_blk (Blk.new1 w 3 #[.int .i64 n] o) rfl (by simp)
theorem ione2_in (w : World) (o o' : Obj) (n : Int) : IntsIn (((w.alloc o).alloc o').alloc (.cells #[.int .i64 n] 3)) (some ⟨w.heap.size + 1 + 1, 0, none⟩) [n] := ints_blk (Blk.new2 w 3 #[.int .i64 n] o o') rfl (by simp)
theorem allB_one (a b x : Int) : allB a b [x] = inB x a b := by simp [allB]
theorem within_one {w : World} (a b x : Int) {A : Option Addr} {c : Nat} (h : IntsIn w A [x]) :
    Calls Try.prog 56 #[.int .i64 a, .int .i64 b, .slice A 1 c] w fun e w' => e = .returned (.bool (inB x a b)) ∧ w' = w := by
  rw [← allB_one]; exact within_any (c := c) a b h
end Go.Proofs.Ytkjfommdeljefaa
