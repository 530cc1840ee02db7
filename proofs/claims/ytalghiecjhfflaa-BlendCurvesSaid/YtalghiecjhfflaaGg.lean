/- Layer blend, a part: searches, portions. No statement is proved here. -/
import Derived.Test.YtalghiecjhfflaaGf
import Derived.Deep.QuietTactic
import Derived.BigQuiet
namespace Go.Proofs.Ytalghiecjhfflaa
open Go.RowKit Go.Shelf Go.Maps
attribute [local go_sem] Oper.semAt_some

/-- Where a search stands: not so below i, so from j on. -/
structure SeaG (h : Nat → Bool) (n i j : Nat) : Prop where
  le : i ≤ j
  top : j ≤ n
  low : ∀ m, m < i → h m = false
  high : ∀ m, j ≤ m → m < n → h m = true
/-- The first number below n for which something holds. -/
def splitAt (h : Nat → Bool) (n : Nat) : Nat := ((List.range n).find? h).getD n
theorem splitAt_le (h : Nat → Bool) (n : Nat) : splitAt h n ≤ n := by
  unfold splitAt
  cases e : (List.range n).find? h with
  | none => simp
  | some j => have := List.mem_of_find?_eq_some e; simp at this ⊢; omega
theorem SeaG.eq {h : Nat → Bool} {n i : Nat} (s : SeaG h n i i) : splitAt h n = i := by
  unfold splitAt
  by_cases hi : i < n
  · have : (List.range n).find? h = some i := by
      rw [List.find?_range_eq_some]
      exact ⟨s.high i (Nat.le_refl _) hi, by simpa using hi, fun j hj => by simp [s.low j hj]⟩
    rw [this]; rfl
  · have : (List.range n).find? h = none := by
      rw [List.find?_eq_none]
      intro j hj
      have := s.low j (by simp at hj; omega)
      simp [this]
    rw [this]; have := s.top; simp; omega
theorem half_facts {n i j : Nat} (h : i < j) (hj : j ≤ n) (hn : n ≤ 1000) : i ≤ (i + j) / 2 ∧ (i + j) / 2 < j ∧ IntKind.i64.wrap ((i : Int) + j) = ((i + j : Nat) : Int) := by
  refine ⟨by omega, by omega, ?_⟩
  rw [IntWalk.i64_in _ (by omega)]; omega
theorem meas_up {i j h : Nat} (h1 : i ≤ h) (h2 : h < j) : (intOf (Value.int .i64 (j : Int))).toNat - (intOf (Value.int .i64 ((h + 1 : Nat) : Int))).toNat < (intOf (Value.int .i64 (j : Int))).toNat - (intOf (Value.int .i64 (i : Int))).toNat := by
  simp only [intOf, Int.toNat_natCast]; omega
theorem meas_down {i j h : Nat} (h1 : i ≤ h) (h2 : h < j) : (intOf (Value.int .i64 (h : Int))).toNat - (intOf (Value.int .i64 (i : Int))).toNat < (intOf (Value.int .i64 (j : Int))).toNat - (intOf (Value.int .i64 (i : Int))).toNat := by
  simp only [intOf, Int.toNat_natCast]; omega
set_option maxRecDepth 100000 in
set_option maxHeartbeats 1000000 in
theorem search_any {w : World} {V : Value} {h : Nat → Bool} {n : Nat} (hn : n ≤ 1000) (hmono : ∀ i j, i ≤ j → j < n → h i = true → h j = true)
    (hc : ∀ W, Below w.heap.size w W → ∀ k : Nat, k < n → Calls Try.prog 86 #[V, .int .i64 (k : Int)] W fun e w' => e = .returned (.bool (h k)) ∧ Below W.heap.size W w') :
    Calls Try.prog 85 #[.int .i64 (n : Int), .func (.func 86) #[V] #[]] w fun e w' => e = .returned (.int .i64 (splitAt h n)) ∧ Below w.heap.size w w' := by
  have HH := Lib.hid hc
  have HM := Lib.hid hmono
  have eg : ∀ args w, (callFunc 86 args).run Try.prog w = .ok (.enter 86 args) w := enters_of Try.func86 (by kernel_rfl) rfl
  clear hc hmono
  go_enter Try.func85, Try.ntmps85
  go_wp2_with fail
  go_loopw [5, 6] (fun x y W => ∃ i j : Nat, x = .int .i64 i ∧ y = .int .i64 j ∧ Hid (SeaG h n i j) ∧ Hid (Below w.heap.size w W)) (fun x y _ => (intOf y).toNat - (intOf x).toNat)
  case atStart => exact ⟨0, n, rfl, rfl, ⟨by omega, by omega, fun m hm => absurd hm (by omega), fun m h1 h2 => absurd h2 (by omega)⟩, Below.refl _ _⟩
  case round =>
    obtain ⟨i, j, rfl, rfl, HS, HB⟩ := hrel
    have hij := HS.out.le
    have hj := HS.out.top
    by_cases hlt : i < j
    · obtain ⟨k1, k2, k3⟩ := half_facts hlt hj hn
      have k4 : ((i : Int) + j) = ((i + j : Nat) : Int) := by omega
      have HC := Lib.hid (HH.out wr HB.out ((i + j) / 2) (by omega))
      generalize hs : i + j = s at *
      have hs2 : (s : Int) ≤ 4000 := by omega
      have hil : (i : Int) < (j : Int) := by omega
      have HE2 := Lib.hid (show (s : Int) / 2 = ((s / 2 : Nat) : Int) by omega)
      rw [← HE2.out] at HC
      have HK := Lib.hid (And.intro k1 k2)
      have hw1 : IntKind.i64.wrap ((s : Int) / 2 + 1) = (s : Int) / 2 + 1 := IntWalk.i64_in _ (by omega)
      have HJ := Lib.hid hj
      clear k1 k2
      cases hsh : h (s / 2) with
      | false =>
        rw [hsh] at HC
        have HS2 : Hid (SeaG h n (s / 2 + 1) j) := ⟨HK.out.2, HS.out.top, fun m hm => by
          cases hb : h m with
          | false => rfl
          | true => exact absurd (HM.out m (s / 2) (by omega) (Nat.lt_of_lt_of_le HK.out.2 HJ.out) hb) (by rw [hsh]; decide), HS.out.high⟩
        clear hsh
        go_wp2_with (first | (refine HC.out.mono ?_; rintro e w1 ⟨rfl, hb1⟩; have HB1 := Lib.hid (HB.out.trans (hb1.mono HB.out.size)); clear hb1) | fail)
        go_roundw
        case rel => exact ⟨s / 2 + 1, j, by rw [HE2.out]; go_num, rfl, HS2, HB1⟩
        case measure => rw [HE2.out]; exact meas_up HK.out.1 HK.out.2
      | true =>
        rw [hsh] at HC
        have HS2 : Hid (SeaG h n i (s / 2)) := ⟨HK.out.1, by have := HK.out.2; have := HS.out.top; omega, HS.out.low, fun m h1 h2 => HM.out (s / 2) m h1 h2 hsh⟩
        clear hsh
        go_wp2_with (first | (refine HC.out.mono ?_; rintro e w1 ⟨rfl, hb1⟩; have HB1 := Lib.hid (HB.out.trans (hb1.mono HB.out.size)); clear hb1) | fail)
        go_roundw
        case rel => exact ⟨i, s / 2, rfl, by rw [HE2.out], HS2, HB1⟩
        case measure => rw [HE2.out]; exact meas_down HK.out.1 HK.out.2
    · obtain rfl : i = j := by omega
      have HL := Lib.hid (HS.out.eq)
      have hl0 : ¬ ((i : Int) < (i : Int)) := by omega
      go_wp2_with fail
      go_ret
      exact ⟨ret_i64 (by rw [HL.out]), HB.out⟩
end Go.Proofs.Ytalghiecjhfflaa

namespace Go.Proofs.Ytalghiecjhfflaa
open Go.RowKit Go.Shelf Go.Maps
attribute [local go_sem] Oper.semAt_some

/-- A wax that lies somewhere. -/
structure WxP (w : World) (b o : Nat) (x : Bw) : Prop where
  lt : b < w.heap.size
  c0 : w.cell? ⟨b, o, none⟩ = some (.string x.nm)
  c1 : w.cell? ⟨b, o + 1, none⟩ = some (.int .i64 x.pr)
  c2 : w.cell? ⟨b, o + 2, none⟩ = some (.int .i64 x.mlo)
  c3 : w.cell? ⟨b, o + 3, none⟩ = some (.int .i64 x.mhi)
  c4 : w.cell? ⟨b, o + 4, none⟩ = some (.int .i64 x.slo)
  c5 : w.cell? ⟨b, o + 5, none⟩ = some (.int .i64 x.shi)
  c6 : w.cell? ⟨b, o + 6, none⟩ = some (.slice x.ca x.cv.length x.cc)
  cv : PtsIn w x.ca x.cv
theorem WxP.on {w W : World} {b o : Nat} {x : Bw} (h : WxP w b o x) (hb : Below w.heap.size w W) : WxP W b o x :=
  ⟨Nat.lt_of_lt_of_le h.lt hb.size, (hb.cell (p := ⟨b, o, none⟩) h.lt).trans h.c0, (hb.cell (p := ⟨b, o + 1, none⟩) h.lt).trans h.c1, (hb.cell (p := ⟨b, o + 2, none⟩) h.lt).trans h.c2, (hb.cell (p := ⟨b, o + 3, none⟩) h.lt).trans h.c3, (hb.cell (p := ⟨b, o + 4, none⟩) h.lt).trans h.c4, (hb.cell (p := ⟨b, o + 5, none⟩) h.lt).trans h.c5, (hb.cell (p := ⟨b, o + 6, none⟩) h.lt).trans h.c6, h.cv.on hb⟩
theorem BwsIn.elem {w : World} {A : Option Addr} {l : List Bw} (h : BwsIn w A l) {i : Nat} {x : Bw} (hi : l[i]? = some x) : ∃ b o, A = some ⟨b, o, none⟩ ∧ WxP w b (o + i * 7) x := by
  obtain ⟨b, o, e, hb, c0, c1, c2, c3, c4, c5, c6⟩ := h.get hi
  exact ⟨b, o, e, hb, c0, c1, c2, c3, c4, c5, c6, h.cv x (List.mem_of_getElem? hi)⟩
/-- A portion as a value. -/
abbrev poV (b o : Nat) (n : Int) : Value := .agg #[.pointer (some ⟨b, o, none⟩), .int .i64 n]
theorem mul_in {n p m : Int} (hn : 0 ≤ n ∧ n ≤ 20) (hp : 0 ≤ p ∧ p ≤ m) : 0 ≤ n * p ∧ n * p ≤ 20 * m := by
  have h1 : 0 ≤ n * p := Int.mul_nonneg hn.1 hp.1
  have h2 : n * p ≤ 20 * p := Int.mul_le_mul_of_nonneg_right hn.2 hp.1
  have h3 : 20 * p ≤ 20 * m := Int.mul_le_mul_of_nonneg_left hp.2 (by omega)
  omega
set_option maxRecDepth 100000 in
set_option maxHeartbeats 1000000 in
theorem upTo_any {w : World} {b o k : Nat} {n : Int} {x : Bw} {q : Pt} (h : WxP w b o x) (hq : x.cv[k]? = some q) :
    Calls Try.prog 86 #[poV b o n, .int .i64 (k : Int)] w fun e w' => e = .returned (.bool (decide (n ≤ q.p))) ∧ Below w.heap.size w w' := by
  have hkl : k < x.cv.length := (List.getElem?_eq_some_iff.1 hq).1
  have hl := h.cv.len
  have HB := Lib.hid ((Below.refl _ w).alloc (Nat.le_refl _) (.cells #[.pointer (some ⟨b, o, none⟩), .int .i64 n] 98))
  have h2 := h.on HB.out
  have hlt := h2.lt
  have c6 := h2.c6
  obtain ⟨cb, co, e, hcb, p0, p1⟩ := pts_at h2.cv.at_ hq
  rw [e] at c6
  clear h hq h2 e
  have hki : (k : Int) < (x.cv.length : Int) := by omega
  generalize x.cv.length = m at *
  go_enter Try.func86, Try.ntmps86
  go_wp2_with fail
  go_quiet (fail)
  go_wp2_with fail
  go_ret
  exact ⟨rfl, below_drewN' HB.out _⟩
set_option maxRecDepth 100000 in
set_option maxHeartbeats 1000000 in
theorem costs_any {w : World} {b o : Nat} {n : Int} {x : Bw} (h : WxP w b o x) (hn : 0 ≤ n ∧ n ≤ 20) (hp : 0 ≤ x.pr ∧ x.pr ≤ 100000) :
    Calls Try.prog 93 #[poV b o n] w fun e w' => e = .returned (.int .i64 (n * x.pr)) ∧ Below w.heap.size w w' := by
  have HB := Lib.hid ((Below.refl _ w).alloc (Nat.le_refl _) (.cells #[.pointer (some ⟨b, o, none⟩), .int .i64 n] 98))
  have h2 := h.on HB.out
  have hlt := h2.lt
  have c := h2.c1
  have hm := mul_in hn hp
  have hw : IntKind.i64.wrap (n * x.pr) = n * x.pr := IntWalk.i64_in _ (by omega)
  clear h h2 hn hp hm
  generalize x.pr = z at *
  go_enter Try.func93, Try.ntmps93
  go_wp2_with fail
  go_quiet (fail)
  go_wp2_with fail
  go_ret
  exact ⟨rfl, below_drewN' HB.out _⟩
set_option maxRecDepth 100000 in
set_option maxHeartbeats 1000000 in
theorem shrLo_any {w : World} {b o : Nat} {n : Int} {x : Bw} (h : WxP w b o x) (hn : 0 ≤ n ∧ n ≤ 20) (hp : 0 ≤ x.slo ∧ x.slo ≤ 1000) :
    Calls Try.prog 91 #[poV b o n] w fun e w' => e = .returned (.int .i64 (n * x.slo)) ∧ Below w.heap.size w w' := by
  have HB := Lib.hid ((Below.refl _ w).alloc (Nat.le_refl _) (.cells #[.pointer (some ⟨b, o, none⟩), .int .i64 n] 98))
  have h2 := h.on HB.out
  have hlt := h2.lt
  have c := h2.c4
  have hm := mul_in hn hp
  have hw : IntKind.i64.wrap (n * x.slo) = n * x.slo := IntWalk.i64_in _ (by omega)
  clear h h2 hn hp hm
  generalize x.slo = z at *
  go_enter Try.func91, Try.ntmps91
  go_wp2_with fail
  go_quiet (fail)
  go_wp2_with fail
  go_ret
  exact ⟨rfl, below_drewN' HB.out _⟩
set_option maxRecDepth 100000 in
set_option maxHeartbeats 1000000 in
theorem shrHi_any {w : World} {b o : Nat} {n : Int} {x : Bw} (h : WxP w b o x) (hn : 0 ≤ n ∧ n ≤ 20) (hp : 0 ≤ x.shi ∧ x.shi ≤ 1000) :
    Calls Try.prog 92 #[poV b o n] w fun e w' => e = .returned (.int .i64 (n * x.shi)) ∧ Below w.heap.size w w' := by
  have HB := Lib.hid ((Below.refl _ w).alloc (Nat.le_refl _) (.cells #[.pointer (some ⟨b, o, none⟩), .int .i64 n] 98))
  have h2 := h.on HB.out
  have hlt := h2.lt
  have c := h2.c5
  have hm := mul_in hn hp
  have hw : IntKind.i64.wrap (n * x.shi) = n * x.shi := IntWalk.i64_in _ (by omega)
  clear h h2 hn hp hm
  generalize x.shi = z at *
  go_enter Try.func92, Try.ntmps92
  go_wp2_with fail
  go_quiet (fail)
  go_wp2_with fail
  go_ret
  exact ⟨rfl, below_drewN' HB.out _⟩
end Go.Proofs.Ytalghiecjhfflaa

namespace Go.Proofs.Ytalghiecjhfflaa
open Go.RowKit Go.Shelf Go.Maps
attribute [local go_sem] Oper.semAt_some

/-- What each operation leaves. -/
def ra1R (P bb oo : Nat) (m z : Int) (x : Bw) : Nat → Value → World → Prop
  | 0, v, _ => v = .pointer (some ⟨P, 0, none⟩)
  | 1, v, _ => v = .pointer (some ⟨bb, oo, none⟩)
  | 2, v, _ => v = .pointer (some ⟨bb, oo, none⟩)
  | 3, v, _ => v = .pointer (some ⟨bb, oo + 6, none⟩)
  | 4, v, _ => v = .slice x.ca x.cv.length x.cc
  | 5, v, _ => v = .int .i64 (x.cv.length : Int)
  | 6, v, _ => v = .agg #[.pointer (some ⟨bb, oo, none⟩), .int .i64 m]
  | 7, v, _ => v = .func (.func 86) #[.agg #[.pointer (some ⟨bb, oo, none⟩), .int .i64 m]] #[]
  | 8, v, _ => v = .int .i64 z
  | 9, v, _ => v = .int .i64 z
  | _, _, _ => True
theorem ra1R_on (P bb oo : Nat) (m z : Int) (x : Bw) : ∀ i, i < 10 → ∀ v W W', ra1R P bb oo m z x i v W → Below W.heap.size W W' → ra1R P bb oo m z x i v W' := by
  iterate 10 (refine all_succ ?_ ?_)
  · exact all_zero
  · exact fun _ _ _ h _ => h
  · exact fun _ _ _ h _ => h
  · exact fun _ _ _ h _ => h
  · exact fun _ _ _ h _ => h
  · exact fun _ _ _ h _ => h
  · exact fun _ _ _ h _ => h
  · exact fun _ _ _ h _ => h
  · exact fun _ _ _ h _ => h
  · exact fun _ _ _ h _ => h
  · exact fun _ _ _ h _ => h
set_option maxRecDepth 100000 in
set_option maxHeartbeats 8000000 in
theorem ra1_region {S : World → Prop} (hon : ∀ W W', S W → Below W.heap.size W W' → S W') {P bb oo : Nat} {m z : Int} {x : Bw} (hP : ∀ W, S W → Blk W P 98 #[.pointer (some ⟨bb, oo, none⟩), .int .i64 m]) (hX : ∀ W, S W → WxP W bb oo x) (HC : Hid (∀ (W : World), S W → Calls Try.prog 85 #[.int .i64 (x.cv.length : Int), .func (.func 86) #[.agg #[.pointer (some ⟨bb, oo, none⟩), .int .i64 m]] #[]] W fun e w' => e = .returned (.int .i64 z) ∧ Below W.heap.size W w')) {Q : Exit → Act → World → Prop} {s0 s4 s5 s15 s16 s17 s18 s19 s20 s21 s22 s23 s24 s25 s26 s27 s28 s29 s30 s31 s32 s33 s34 s35 s36 s37 s38 s39 s40 s41 s42 s43 s44 s45 s46 s47 s48 s49 s50 s51 s52 s53 s54 s55 s56 s57 s58 s59 s60 s61 s62 s63 s64 s65 s66 s67 s68 s69 s70 s71 s72 s73 s74 s75 s76 s77 s78 s79 s80 s81 s82 s83 s84 s85 s86 s87 s88 s89 : Value} {W0 : World} (HL : Hid (S W0))
    (HQ : Hid (∀ (u : Nat → Value) (W : World), S W → Q .normal ⟨#[s0, .pointer (some ⟨P, 0, none⟩), .int .i64 0, .int .i64 z, s4, s5, u 0, u 1, u 2, u 3, u 4, u 5, u 6, u 7, u 8, s15, s16, s17, s18, s19, s20, s21, s22, s23, s24, s25, s26, s27, s28, s29, s30, s31, s32, s33, s34, s35, s36, s37, s38, s39, s40, s41, s42, s43, s44, s45, s46, s47, s48, s49, s50, s51, s52, s53, s54, s55, s56, s57, s58, s59, s60, s61, s62, s63, s64, s65, s66, s67, s68, s69, s70, s71, s72, s73, s74, s75, s76, s77, s78, s79, s80, s81, s82, s83, s84, s85, s86, s87, s88, s89], []⟩ W)) :
    Code.wp Try.prog ((Try.f57.body.bind (regionAt 1)).getD .skip) Q ⟨#[s0, .pointer (some ⟨P, 0, none⟩), .int .i64 0, undef, s4, s5, undef, undef, undef, undef, undef, undef, undef, undef, undef, s15, s16, s17, s18, s19, s20, s21, s22, s23, s24, s25, s26, s27, s28, s29, s30, s31, s32, s33, s34, s35, s36, s37, s38, s39, s40, s41, s42, s43, s44, s45, s46, s47, s48, s49, s50, s51, s52, s53, s54, s55, s56, s57, s58, s59, s60, s61, s62, s63, s64, s65, s66, s67, s68, s69, s70, s71, s72, s73, s74, s75, s76, s77, s78, s79, s80, s81, s82, s83, s84, s85, s86, s87, s88, s89], []⟩ W0 := by
  conv => arg 2; whnf
  refine wp_region_spec (by kernel_rfl) 10 (by kernel_rfl) (fun u => ⟨#[s0, .pointer (some ⟨P, 0, none⟩), .int .i64 0, u 9, s4, s5, u 0, u 1, u 2, u 3, u 4, u 5, u 6, u 7, u 8, s15, s16, s17, s18, s19, s20, s21, s22, s23, s24, s25, s26, s27, s28, s29, s30, s31, s32, s33, s34, s35, s36, s37, s38, s39, s40, s41, s42, s43, s44, s45, s46, s47, s48, s49, s50, s51, s52, s53, s54, s55, s56, s57, s58, s59, s60, s61, s62, s63, s64, s65, s66, s67, s68, s69, s70, s71, s72, s73, s74, s75, s76, s77, s78, s79, s80, s81, s82, s83, s84, s85, s86, s87, s88, s89], []⟩) (fun i => undef) (fun W => Hid (S W)) (ra1R P bb oo m z x) (by kernel_rfl) (hon _ _ HL.out (Below.refl _ _).drew) (fun i v W W2 hi h hb => ra1R_on P bb oo m z x i hi v W W2 h hb) (by decide +kernel) ?_ ?_
  · iterate 10 (refine all_succ ?_ ?_)
    · exact all_zero
    · intro u W hB _ hd _ K hK
      have HK := Lib.hid hK; clear hK
      refine wpOp_of rfl (by rfl) ?_
      go_simp
      exact k_of (HK.out (.pointer (some ⟨P, 0, none⟩)) _ rfl hB (Below.refl _ _)) (by kernel_rfl)
    · intro u W hB _ hd _ K hK
      have HK := Lib.hid hK; clear hK
      have e0 : u 0 = .pointer (some ⟨P, 0, none⟩) := hd 0 (by decide +kernel)
      refine wpOp_of rfl (by rfl) ?_
      have z0 := (hP W hB.out).cell 0
      go_simp
      exact k_of (HK.out (.pointer (some ⟨bb, oo, none⟩)) _ rfl hB (Below.refl _ _)) (by rw [← u1_eq e0]; kernel_rfl)
    · intro u W hB _ hd _ K hK
      have HK := Lib.hid hK; clear hK
      have e1 : u 1 = .pointer (some ⟨bb, oo, none⟩) := hd 1 (by decide +kernel)
      refine wpOp_of rfl (by rfl) ?_
      go_simp
      exact k_of (HK.out (.pointer (some ⟨bb, oo, none⟩)) _ rfl hB (Below.refl _ _)) (by rw [← u1_eq e1]; kernel_rfl)
    · intro u W hB _ hd _ K hK
      have HK := Lib.hid hK; clear hK
      have e2 : u 2 = .pointer (some ⟨bb, oo, none⟩) := hd 2 (by decide +kernel)
      refine wpOp_of rfl (by rfl) ?_
      go_simp
      exact k_of (HK.out (.pointer (some ⟨bb, oo + 6, none⟩)) _ rfl hB (Below.refl _ _)) (by rw [← u1_eq e2]; kernel_rfl)
    · intro u W hB _ hd _ K hK
      have HK := Lib.hid hK; clear hK
      have e3 : u 3 = .pointer (some ⟨bb, oo + 6, none⟩) := hd 3 (by decide +kernel)
      refine wpOp_of rfl (by rfl) ?_
      have z6 := (hX W hB.out).c6
      go_simp
      exact k_of (HK.out (.slice x.ca x.cv.length x.cc) _ rfl hB (Below.refl _ _)) (by rw [← u1_eq e3]; kernel_rfl)
    · intro u W hB _ hd _ K hK
      have HK := Lib.hid hK; clear hK
      have e4 : u 4 = .slice x.ca x.cv.length x.cc := hd 4 (by decide +kernel)
      refine wpOp_of rfl (by rfl) ?_
      go_simp
      exact k_of (HK.out (.int .i64 (x.cv.length : Int)) _ rfl hB (Below.refl _ _)) (by rw [← u1_eq e4]; kernel_rfl)
    · intro u W hB _ hd _ K hK
      have HK := Lib.hid hK; clear hK
      refine wpOp_of rfl (by rfl) ?_
      have z0 := (hP W hB.out).cell 0; have z1 := (hP W hB.out).cell 1
      go_simp
      exact k_of (HK.out (.agg #[.pointer (some ⟨bb, oo, none⟩), .int .i64 m]) _ rfl hB (Below.refl _ _)) (by kernel_rfl)
    · intro u W hB _ hd _ K hK
      have HK := Lib.hid hK; clear hK
      have e6 : u 6 = .agg #[.pointer (some ⟨bb, oo, none⟩), .int .i64 m] := hd 6 (by decide +kernel)
      refine wpOp_of rfl (by rfl) ?_
      have hmf : ∀ (fn : Fn) (first cap : Array Value) (w : World), (Instr.makeFunc fn first cap).run Try.prog w = .ok (.func fn first cap) w := fun _ _ _ _ => rfl
      go_simp
      exact k_of (HK.out (.func (.func 86) #[.agg #[.pointer (some ⟨bb, oo, none⟩), .int .i64 m]] #[]) _ rfl hB (Below.refl _ _)) (by rw [← u1_eq e6]; kernel_rfl)
    · intro u W hB _ hd _ K hK
      have HK := Lib.hid hK; clear hK
      have e5 : u 5 = .int .i64 (x.cv.length : Int) := hd 5 (by decide +kernel)
      have e7 : u 7 = .func (.func 86) #[.agg #[.pointer (some ⟨bb, oo, none⟩), .int .i64 m]] #[] := hd 7 (by decide +kernel)
      refine wpOp_of rfl (by rfl) ?_
      go_simp
      refine (HC.out W hB.out).mono ?_
      rintro e w' ⟨rfl, hb⟩
      exact k_of (HK.out (.int .i64 z) _ rfl (hon _ _ hB.out hb) hb) (by rw [← u1_eq e5, ← u1_eq e7]; kernel_rfl)
    · intro u W hB _ hd _ K hK
      have HK := Lib.hid hK; clear hK
      have e8 : u 8 = .int .i64 z := hd 8 (by decide +kernel)
      refine wpOp_of rfl (by rfl) ?_
      go_simp
      exact k_of (HK.out (.int .i64 z) _ rfl hB (Below.refl _ _)) (by rw [← u1_eq e8]; kernel_rfl)
  · intro u W hB hd
    have e9 : u 9 = .int .i64 z := hd 9 (by decide)
    exact k_of (HQ.out u W hB.out) (by simp only [e9])
end Go.Proofs.Ytalghiecjhfflaa

namespace Go.Proofs.Ytalghiecjhfflaa
open Go.RowKit Go.Shelf Go.Maps
attribute [local go_sem] Oper.semAt_some

/-- What each operation leaves. -/
def ra8F (P bb oo cb co cn cc e f : Nat) (_m : Int) (y1 y2 : Pt) : Nat → Value → Prop
  | 0, v => v = .pointer (some ⟨P, 0, none⟩)
  | 1, v => v = .pointer (some ⟨bb, oo, none⟩)
  | 2, v => v = .pointer (some ⟨bb, oo, none⟩)
  | 3, v => v = .pointer (some ⟨bb, oo + 6, none⟩)
  | 4, v => v = .slice (some ⟨cb, co, none⟩) cn cc
  | 5, v => v = .int .i64 (f : Int)
  | 6, v => v = .int .i64 (e : Int)
  | 7, v => v = .pointer (some ⟨cb, co + e * 2, none⟩)
  | 8, v => v = .agg #[.int .i64 y1.p, .int .i64 y1.a]
  | 9, v => v = .pointer (some ⟨P, 0, none⟩)
  | 10, v => v = .pointer (some ⟨bb, oo, none⟩)
  | 11, v => v = .pointer (some ⟨bb, oo, none⟩)
  | 12, v => v = .pointer (some ⟨bb, oo + 6, none⟩)
  | 13, v => v = .slice (some ⟨cb, co, none⟩) cn cc
  | 14, v => v = .int .i64 (f : Int)
  | 15, v => v = .pointer (some ⟨cb, co + f * 2, none⟩)
  | 16, v => v = .agg #[.int .i64 y2.p, .int .i64 y2.a]
  | 17, _ => True
  | 18, _ => True
  | 19, _ => True
  | 20, _ => True
  | _, _ => True
set_option maxRecDepth 100000 in
set_option maxHeartbeats 8000000 in
theorem ra8_region {P bb oo cb co cn cc e f N : Nat} {m : Int} {y1 y2 : Pt} {S : World → Prop} (hw : IntKind.i64.wrap ((f : Int) - 1) = (e : Int)) (he : (e : Int) < (cn : Int)) (hf : (f : Int) < (cn : Int)) (hP : ∀ W, S W → Blk W P 98 #[.pointer (some ⟨bb, oo, none⟩), .int .i64 m]) (hX : ∀ W, S W → W.cell? ⟨bb, oo + 6, none⟩ = some (.slice (some ⟨cb, co, none⟩) cn cc)) (hp1 : ∀ W, S W → W.cell? ⟨cb, co + e * 2, none⟩ = some (.int .i64 y1.p) ∧ W.cell? ⟨cb, co + e * 2 + 1, none⟩ = some (.int .i64 y1.a)) (hp2 : ∀ W, S W → W.cell? ⟨cb, co + f * 2, none⟩ = some (.int .i64 y2.p) ∧ W.cell? ⟨cb, co + f * 2 + 1, none⟩ = some (.int .i64 y2.a)) (hon : ∀ W W', S W → Below W.heap.size W W' → S W') (hput : ∀ W W' G, S W → W.grownBy W' (some G) → (N ≤ G) → S W') (hN : ∀ W, S W → N ≤ W.heap.size) {Q : Exit → Act → World → Prop} {s0 s2 s6 s7 s8 s9 s10 s11 s12 s13 s14 s15 s16 s17 s18 s19 s20 s21 s22 s23 s24 s25 s26 s27 s28 s29 s30 s31 s32 s33 s34 s35 s36 s37 s38 s39 s40 s41 s42 s43 s44 s45 s46 s47 s48 s49 s50 s51 s52 s70 s71 s72 s73 s74 s75 s76 s77 s78 s79 s80 s81 s82 s83 s84 s85 s86 s87 s88 s89 : Value} {W0 : World} (HL : Hid (S W0))
    (HQ : Hid (∀ (u : Nat → Value) (G0 G1 : Nat) (W : World), S W → N ≤ G0 → N ≤ G1 → Blk W (G0) 84 #[.int .i64 y1.p, .int .i64 y1.a] → Blk W (G1) 84 #[.int .i64 y2.p, .int .i64 y2.a] → Q .normal ⟨#[s0, .pointer (some ⟨P, 0, none⟩), s2, .int .i64 (f : Int), .pointer (some ⟨G0, 0, none⟩), .pointer (some ⟨G1, 0, none⟩), s6, s7, s8, s9, s10, s11, s12, s13, s14, s15, s16, s17, s18, s19, s20, s21, s22, s23, s24, s25, s26, s27, s28, s29, s30, s31, s32, s33, s34, s35, s36, s37, s38, s39, s40, s41, s42, s43, s44, s45, s46, s47, s48, s49, s50, s51, s52, u 0, u 1, u 2, u 3, u 4, u 5, u 6, u 7, u 8, u 9, u 10, u 11, u 12, u 13, u 14, u 15, u 16, s70, s71, s72, s73, s74, s75, s76, s77, s78, s79, s80, s81, s82, s83, s84, s85, s86, s87, s88, s89], []⟩ W)) :
    Code.wp Try.prog ((Try.f57.body.bind (regionAt 8)).getD .skip) Q ⟨#[s0, .pointer (some ⟨P, 0, none⟩), s2, .int .i64 (f : Int), undef, undef, s6, s7, s8, s9, s10, s11, s12, s13, s14, s15, s16, s17, s18, s19, s20, s21, s22, s23, s24, s25, s26, s27, s28, s29, s30, s31, s32, s33, s34, s35, s36, s37, s38, s39, s40, s41, s42, s43, s44, s45, s46, s47, s48, s49, s50, s51, s52, undef, undef, undef, undef, undef, undef, undef, undef, undef, undef, undef, undef, undef, undef, undef, undef, undef, s70, s71, s72, s73, s74, s75, s76, s77, s78, s79, s80, s81, s82, s83, s84, s85, s86, s87, s88, s89], []⟩ W0 := by
  conv => arg 2; whnf
  refine wp_region_vars (by kernel_rfl) 21 (by kernel_rfl) (fun u => ⟨#[s0, .pointer (some ⟨P, 0, none⟩), s2, .int .i64 (f : Int), u 17, u 18, s6, s7, s8, s9, s10, s11, s12, s13, s14, s15, s16, s17, s18, s19, s20, s21, s22, s23, s24, s25, s26, s27, s28, s29, s30, s31, s32, s33, s34, s35, s36, s37, s38, s39, s40, s41, s42, s43, s44, s45, s46, s47, s48, s49, s50, s51, s52, u 0, u 1, u 2, u 3, u 4, u 5, u 6, u 7, u 8, u 9, u 10, u 11, u 12, u 13, u 14, u 15, u 16, s70, s71, s72, s73, s74, s75, s76, s77, s78, s79, s80, s81, s82, s83, s84, s85, s86, s87, s88, s89], []⟩) (fun i => undef) (fun W => Hid (S W)) (ra8F P bb oo cb co cn cc e f m y1 y2) (N) [⟨some 17, 0, 19, 84, #[.int .i64 0, .int .i64 0], #[.int .i64 y1.p, .int .i64 y1.a]⟩, ⟨some 18, 0, 20, 84, #[.int .i64 0, .int .i64 0], #[.int .i64 y2.p, .int .i64 y2.a]⟩] [17, 18] [19, 20] rfl rfl (by kernel_rfl) (hon _ _ HL.out (Below.refl _ _).drew) ?hV (fun W h => hN W h.out) ?hg (by decide +kernel) (fun W W' h hb => hon W W' h.out hb) ?hp ?hA ?hP (by decide) (by decide) (by decide) (by decide) (by decide) ?step ?done
  case hV =>
    refine ⟨fun q hq => ⟨fun a e hl => (by cases hl), fun G hG => ?_⟩, fun q hq r hr hne G h1 h2 => ?_⟩
    · simp only [List.mem_cons, List.not_mem_nil, or_false] at hq
      rcases hq with rfl | rfl
      · exact absurd hG.1 (by decide)
      · exact absurd hG.1 (by decide)
    · simp only [List.mem_cons, List.not_mem_nil, or_false] at hq
      rcases hq with rfl | rfl
      · exact absurd h1.1 (by decide)
      · exact absurd h1.1 (by decide)
  case hg =>
    intro q hq ha
    simp only [List.mem_cons, List.not_mem_nil, or_false] at hq
    rcases hq with rfl | rfl
    · cases ha
    · cases ha
  case hp =>
    intro W W' G h hg hG
    refine hput W W' G h.out hg ?_
    rcases hG with h1 | ⟨q, hq, ha, h2⟩
    · exact h1
    · simp only [List.mem_cons, List.not_mem_nil, or_false] at hq
      rcases hq with rfl | rfl
      · cases ha
      · cases ha
  case hA =>
    intro q hq i ha
    simp only [List.mem_cons, List.not_mem_nil, or_false] at hq
    rcases hq with rfl | rfl
    · cases ha
      refine ⟨by show _ ∈ waits _ _ 19; decide +kernel, fun u W hB K hK => ?_⟩
      have HK := Lib.hid hK; clear hK
      refine wpOp_of rfl (by rfl) ?_
      go_simp
      exact k_of HK.out (by kernel_rfl)
    · cases ha
      refine ⟨by show _ ∈ waits _ _ 20; decide +kernel, fun u W hB K hK => ?_⟩
      have HK := Lib.hid hK; clear hK
      refine wpOp_of rfl (by rfl) ?_
      go_simp
      exact k_of HK.out (by kernel_rfl)
  case hP =>
    intro q hq u W hB hd G hG hb K hK
    have HK := Lib.hid hK; clear hK
    simp only [List.mem_cons, List.not_mem_nil, or_false] at hq
    rcases hq with rfl | rfl
    · obtain ⟨-, eG, hle⟩ := hG
      replace eG : u 17 = .pointer (some ⟨G, 0, none⟩) := eG
      replace hd : ∀ j ∈ waits .any _ 19, j ∉ [17, 18] → j ∉ [19, 20] → ra8F P bb oo cb co cn cc e f m y1 y2 j (u j) := hd
      have e8 : u 8 = .agg #[.int .i64 y1.p, .int .i64 y1.a] := hd 8 (by decide +kernel) (by decide) (by decide)
      replace hb : Blk W G 84 #[.int .i64 0, .int .i64 0] := hb
      have hb2 := ((hb).set_ 0 (.int .i64 y1.p)).set_ 1 (.int .i64 y1.a)
      simp only [List.setIfInBounds_toArray, List.set_cons_zero, List.set_cons_succ] at hb2
      have hg2 : W.grownBy _ (some (G)) := grown_more (grown_more (World.grownBy.refl W (some G)) 0 (.int .i64 y1.p)) 1 (.int .i64 y1.a)
      have fz0 := hb.frozen 0
      have cl0 := hb.cell 0
      have fz1 := hb.frozen 1
      have cl1 := hb.cell 1
      have gl := hb.lt
      have HB2 := Lib.hid hb2
      have HG2 := Lib.hid hg2
      clear hb2 hg2
      refine wpOp_of rfl (by rfl) ?_
      go_simp
      exact k_of (HK.out _ HB2.out HG2.out) (by rw [← u1_eq eG, ← u1_eq e8] <;> kernel_rfl)
    · obtain ⟨-, eG, hle⟩ := hG
      replace eG : u 18 = .pointer (some ⟨G, 0, none⟩) := eG
      replace hd : ∀ j ∈ waits .any _ 20, j ∉ [17, 18] → j ∉ [19, 20] → ra8F P bb oo cb co cn cc e f m y1 y2 j (u j) := hd
      have e16 : u 16 = .agg #[.int .i64 y2.p, .int .i64 y2.a] := hd 16 (by decide +kernel) (by decide) (by decide)
      replace hb : Blk W G 84 #[.int .i64 0, .int .i64 0] := hb
      have hb2 := ((hb).set_ 0 (.int .i64 y2.p)).set_ 1 (.int .i64 y2.a)
      simp only [List.setIfInBounds_toArray, List.set_cons_zero, List.set_cons_succ] at hb2
      have hg2 : W.grownBy _ (some (G)) := grown_more (grown_more (World.grownBy.refl W (some G)) 0 (.int .i64 y2.p)) 1 (.int .i64 y2.a)
      have fz0 := hb.frozen 0
      have cl0 := hb.cell 0
      have fz1 := hb.frozen 1
      have cl1 := hb.cell 1
      have gl := hb.lt
      have HB2 := Lib.hid hb2
      have HG2 := Lib.hid hg2
      clear hb2 hg2
      refine wpOp_of rfl (by rfl) ?_
      go_simp
      exact k_of (HK.out _ HB2.out HG2.out) (by rw [← u1_eq eG, ← u1_eq e16] <;> kernel_rfl)
  case step =>
    iterate 21 (refine all_succ ?_ ?_)
    · exact all_zero
    · intro _ _ u W hB hv hd K hK
      have HK := Lib.hid hK; clear hK
      refine wpOp_of rfl (by rfl) ?_
      go_simp
      exact k_of (HK.out (.pointer (some ⟨P, 0, none⟩)) _ rfl hB (Below.refl _ _)) (by kernel_rfl)
    · intro _ _ u W hB hv hd K hK
      have HK := Lib.hid hK; clear hK
      have e0 : u 0 = .pointer (some ⟨P, 0, none⟩) := hd 0 (by decide +kernel) (by decide) (by decide)
      refine wpOp_of rfl (by rfl) ?_
      have z0 := (hP W hB.out).cell 0
      go_simp
      exact k_of (HK.out (.pointer (some ⟨bb, oo, none⟩)) _ rfl hB (Below.refl _ _)) (by rw [← u1_eq e0]; kernel_rfl)
    · intro _ _ u W hB hv hd K hK
      have HK := Lib.hid hK; clear hK
      have e1 : u 1 = .pointer (some ⟨bb, oo, none⟩) := hd 1 (by decide +kernel) (by decide) (by decide)
      refine wpOp_of rfl (by rfl) ?_
      go_simp
      exact k_of (HK.out (.pointer (some ⟨bb, oo, none⟩)) _ rfl hB (Below.refl _ _)) (by rw [← u1_eq e1]; kernel_rfl)
    · intro _ _ u W hB hv hd K hK
      have HK := Lib.hid hK; clear hK
      have e2 : u 2 = .pointer (some ⟨bb, oo, none⟩) := hd 2 (by decide +kernel) (by decide) (by decide)
      refine wpOp_of rfl (by rfl) ?_
      go_simp
      exact k_of (HK.out (.pointer (some ⟨bb, oo + 6, none⟩)) _ rfl hB (Below.refl _ _)) (by rw [← u1_eq e2]; kernel_rfl)
    · intro _ _ u W hB hv hd K hK
      have HK := Lib.hid hK; clear hK
      have e3 : u 3 = .pointer (some ⟨bb, oo + 6, none⟩) := hd 3 (by decide +kernel) (by decide) (by decide)
      refine wpOp_of rfl (by rfl) ?_
      have z6 := hX W hB.out
      go_simp
      exact k_of (HK.out (.slice (some ⟨cb, co, none⟩) cn cc) _ rfl hB (Below.refl _ _)) (by rw [← u1_eq e3]; kernel_rfl)
    · intro _ _ u W hB hv hd K hK
      have HK := Lib.hid hK; clear hK
      refine wpOp_of rfl (by rfl) ?_
      go_simp
      exact k_of (HK.out (.int .i64 (f : Int)) _ rfl hB (Below.refl _ _)) (by kernel_rfl)
    · intro _ _ u W hB hv hd K hK
      have HK := Lib.hid hK; clear hK
      have e5 : u 5 = .int .i64 (f : Int) := hd 5 (by decide +kernel) (by decide) (by decide)
      refine wpOp_of rfl (by rfl) ?_
      go_simp
      exact k_of (HK.out (.int .i64 (e : Int)) _ rfl hB (Below.refl _ _)) (by rw [← u1_eq e5]; kernel_rfl)
    · intro _ _ u W hB hv hd K hK
      have HK := Lib.hid hK; clear hK
      have e4 : u 4 = .slice (some ⟨cb, co, none⟩) cn cc := hd 4 (by decide +kernel) (by decide) (by decide)
      have e6 : u 6 = .int .i64 (e : Int) := hd 6 (by decide +kernel) (by decide) (by decide)
      refine wpOp_of rfl (by rfl) ?_
      go_simp
      exact k_of (HK.out (.pointer (some ⟨cb, co + e * 2, none⟩)) _ rfl hB (Below.refl _ _)) (by rw [← u1_eq e4, ← u1_eq e6]; kernel_rfl)
    · intro _ _ u W hB hv hd K hK
      have HK := Lib.hid hK; clear hK
      have e7 : u 7 = .pointer (some ⟨cb, co + e * 2, none⟩) := hd 7 (by decide +kernel) (by decide) (by decide)
      refine wpOp_of rfl (by rfl) ?_
      obtain ⟨z0, z1⟩ := hp1 W hB.out
      go_simp
      exact k_of (HK.out (.agg #[.int .i64 y1.p, .int .i64 y1.a]) _ rfl hB (Below.refl _ _)) (by rw [← u1_eq e7]; kernel_rfl)
    · intro _ _ u W hB hv hd K hK
      have HK := Lib.hid hK; clear hK
      refine wpOp_of rfl (by rfl) ?_
      go_simp
      exact k_of (HK.out (.pointer (some ⟨P, 0, none⟩)) _ rfl hB (Below.refl _ _)) (by kernel_rfl)
    · intro _ _ u W hB hv hd K hK
      have HK := Lib.hid hK; clear hK
      have e9 : u 9 = .pointer (some ⟨P, 0, none⟩) := hd 9 (by decide +kernel) (by decide) (by decide)
      refine wpOp_of rfl (by rfl) ?_
      have z0 := (hP W hB.out).cell 0
      go_simp
      exact k_of (HK.out (.pointer (some ⟨bb, oo, none⟩)) _ rfl hB (Below.refl _ _)) (by rw [← u1_eq e9]; kernel_rfl)
    · intro _ _ u W hB hv hd K hK
      have HK := Lib.hid hK; clear hK
      have e10 : u 10 = .pointer (some ⟨bb, oo, none⟩) := hd 10 (by decide +kernel) (by decide) (by decide)
      refine wpOp_of rfl (by rfl) ?_
      go_simp
      exact k_of (HK.out (.pointer (some ⟨bb, oo, none⟩)) _ rfl hB (Below.refl _ _)) (by rw [← u1_eq e10]; kernel_rfl)
    · intro _ _ u W hB hv hd K hK
      have HK := Lib.hid hK; clear hK
      have e11 : u 11 = .pointer (some ⟨bb, oo, none⟩) := hd 11 (by decide +kernel) (by decide) (by decide)
      refine wpOp_of rfl (by rfl) ?_
      go_simp
      exact k_of (HK.out (.pointer (some ⟨bb, oo + 6, none⟩)) _ rfl hB (Below.refl _ _)) (by rw [← u1_eq e11]; kernel_rfl)
    · intro _ _ u W hB hv hd K hK
      have HK := Lib.hid hK; clear hK
      have e12 : u 12 = .pointer (some ⟨bb, oo + 6, none⟩) := hd 12 (by decide +kernel) (by decide) (by decide)
      refine wpOp_of rfl (by rfl) ?_
      have z6 := hX W hB.out
      go_simp
      exact k_of (HK.out (.slice (some ⟨cb, co, none⟩) cn cc) _ rfl hB (Below.refl _ _)) (by rw [← u1_eq e12]; kernel_rfl)
    · intro _ _ u W hB hv hd K hK
      have HK := Lib.hid hK; clear hK
      refine wpOp_of rfl (by rfl) ?_
      go_simp
      exact k_of (HK.out (.int .i64 (f : Int)) _ rfl hB (Below.refl _ _)) (by kernel_rfl)
    · intro _ _ u W hB hv hd K hK
      have HK := Lib.hid hK; clear hK
      have e13 : u 13 = .slice (some ⟨cb, co, none⟩) cn cc := hd 13 (by decide +kernel) (by decide) (by decide)
      have e14 : u 14 = .int .i64 (f : Int) := hd 14 (by decide +kernel) (by decide) (by decide)
      refine wpOp_of rfl (by rfl) ?_
      go_simp
      exact k_of (HK.out (.pointer (some ⟨cb, co + f * 2, none⟩)) _ rfl hB (Below.refl _ _)) (by rw [← u1_eq e13, ← u1_eq e14]; kernel_rfl)
    · intro _ _ u W hB hv hd K hK
      have HK := Lib.hid hK; clear hK
      have e15 : u 15 = .pointer (some ⟨cb, co + f * 2, none⟩) := hd 15 (by decide +kernel) (by decide) (by decide)
      refine wpOp_of rfl (by rfl) ?_
      obtain ⟨z0, z1⟩ := hp2 W hB.out
      go_simp
      exact k_of (HK.out (.agg #[.int .i64 y2.p, .int .i64 y2.a]) _ rfl hB (Below.refl _ _)) (by rw [← u1_eq e15]; kernel_rfl)
    · intro ha; exact absurd (by decide) ha
    · intro ha; exact absurd (by decide) ha
    · intro _ ha; exact absurd (by decide) ha
    · intro _ ha; exact absurd (by decide) ha
  case done =>
    intro L u W hL hB hd hV
    have hv0 := hV.ok ⟨some 17, 0, 19, 84, #[.int .i64 0, .int .i64 0], #[.int .i64 y1.p, .int .i64 y1.a]⟩ (by simp)
    obtain ⟨G0, eG0, hN0⟩ := hv0.1 17 rfl (hL 17 (by decide))
    have hB0 := hv0.2 G0 ⟨hL 17 (by decide), eG0, hN0⟩
    rw [if_pos (hL 19 (by decide))] at hB0
    have hv1 := hV.ok ⟨some 18, 0, 20, 84, #[.int .i64 0, .int .i64 0], #[.int .i64 y2.p, .int .i64 y2.a]⟩ (by simp)
    obtain ⟨G1, eG1, hN1⟩ := hv1.1 18 rfl (hL 18 (by decide))
    have hB1 := hv1.2 G1 ⟨hL 18 (by decide), eG1, hN1⟩
    rw [if_pos (hL 20 (by decide))] at hB1
    exact k_of (HQ.out u G0 G1 W hB.out hN0 hN1 hB0 hB1) (by simp only [eG0, eG1])
end Go.Proofs.Ytalghiecjhfflaa

namespace Go.Proofs.Ytalghiecjhfflaa
open Go.RowKit Go.Shelf Go.Maps

theorem splitAt_low {h : Nat → Bool} {n m : Nat} (hm : m < splitAt h n) : h m = false := by
  unfold splitAt at hm
  cases e : (List.range n).find? h with
  | none =>
    rw [e] at hm
    rw [List.find?_eq_none] at e
    have := e m (by simpa using hm)
    simpa using this
  | some j =>
    rw [e] at hm
    rw [List.find?_range_eq_some] at e
    have := e.2.2 m hm
    simpa using this
theorem splitAt_hit {h : Nat → Bool} {n : Nat} (hs : splitAt h n < n) : h (splitAt h n) = true := by
  unfold splitAt at hs ⊢
  cases e : (List.range n).find? h with
  | none => rw [e] at hs; simp at hs
  | some j =>
    rw [List.find?_range_eq_some] at e
    exact e.1
/-- Is point k not below n? -/
def upQ (cv : List Pt) (n : Int) (k : Nat) : Bool := match cv[k]? with
  | some q => decide (n ≤ q.p)
  | none => true
theorem upQ_at {cv : List Pt} {n : Int} {k : Nat} {q : Pt} (h : cv[k]? = some q) : upQ cv n k = decide (n ≤ q.p) := by simp only [upQ, h]
theorem upQ_mono {cv : List Pt} {n : Int} (hp : cv.Pairwise fun a b => a.p < b.p) (i j : Nat) (hij : i ≤ j) (hj : j < cv.length) (h : upQ cv n i = true) : upQ cv n j = true := by
  have h1 : cv[i]? = some cv[i] := List.getElem?_eq_getElem (by omega)
  have h2 : cv[j]? = some cv[j] := List.getElem?_eq_getElem hj
  rw [upQ_at h1] at h
  rw [upQ_at h2]
  rcases Nat.lt_or_ge i j with hlt | hge
  · have := List.pairwise_iff_getElem.1 hp i j (by omega) hj hlt
    simp only [decide_eq_true_eq] at h ⊢
    omega
  · obtain rfl : i = j := by omega
    exact h
theorem addW_mid (n : Int) : ∀ (l : List Pt) (f a b : Pt) (k : Nat), (∀ j, j ≤ k → ∀ q, (f :: l)[j]? = some q → q.p < n) → (f :: l)[k]? = some a → (f :: l)[k + 1]? = some b → n ≤ b.p → addW n f l = midV a b n
  | [], f, a, b, k, _, _, h, _ => by simp at h
  | t :: l, f, a, b, 0, _, ha, hb, hn => by
    simp at ha hb
    subst ha hb
    rw [addW, if_pos hn]
  | t :: l, f, a, b, k + 1, hl, ha, hb, hn => by
    have ht := hl 1 (by omega) t (by simp)
    rw [addW, if_neg (by omega)]
    exact addW_mid n l t a b k (fun j hj q hq => hl (j + 1) (by omega) q (by simpa using hq)) (by simpa using ha) (by simpa using hb) hn
theorem addW_last (n : Int) : ∀ (l : List Pt) (f a : Pt), (∀ (j : Nat) (q : Pt), (f :: l)[j]? = some q → q.p < n) → (f :: l)[l.length]? = some a → addW n f l = a.a
  | [], f, a, _, h => by
    simp at h
    subst h
    rfl
  | t :: l, f, a, hl, h => by
    have ht := hl 1 t (by simp)
    rw [addW, if_neg (by omega)]
    exact addW_last n l t a (fun j q hq => hl (j + 1) q (by simpa using hq)) (by simpa using h)
theorem addV_none {cv : List Pt} {n : Int} (h : cv.length = 0) : addV n cv = 0 := by
  have := List.eq_nil_of_length_eq_zero h
  subst this; rfl
theorem addV_first {cv : List Pt} {n : Int} {a : Pt} (ha : cv[0]? = some a) (hs : splitAt (upQ cv n) cv.length = 0) : addV n cv = a.a := by
  match cv, ha with
  | f :: l, ha =>
    have h1 := splitAt_hit (h := upQ (f :: l) n) (n := (f :: l).length) (by rw [hs]; simp)
    rw [hs, upQ_at ha] at h1
    simp at ha
    subst ha
    rw [addV, if_pos (by simpa using h1)]
theorem addV_below {cv : List Pt} {n : Int} {j : Nat} {q : Pt} (hj : j < splitAt (upQ cv n) cv.length) (hq : cv[j]? = some q) : q.p < n := by
  have := splitAt_low hj
  rw [upQ_at hq] at this
  have := of_decide_eq_false this
  omega
theorem addV_last {cv : List Pt} {n : Int} {e : Nat} {a : Pt} (ha : cv[e]? = some a) (hs : splitAt (upQ cv n) cv.length = e + 1) (he : e + 1 = cv.length) : addV n cv = a.a := by
  match cv, ha with
  | f :: l, ha =>
    have h0 := addV_below (cv := f :: l) (n := n) (j := 0) (q := f) (by omega) rfl
    rw [addV, if_neg (by omega)]
    refine addW_last n l f a (fun j q hq => addV_below (cv := f :: l) (j := j) ?_ hq) ?_
    · have := (List.getElem?_eq_some_iff.1 hq).1; omega
    · simp at he; subst he; exact ha
theorem addV_mid {cv : List Pt} {n : Int} {e : Nat} {a b : Pt} (ha : cv[e]? = some a) (hb : cv[e + 1]? = some b) (hs : splitAt (upQ cv n) cv.length = e + 1) : addV n cv = midV a b n := by
  match cv, ha with
  | f :: l, ha =>
    have h0 := addV_below (cv := f :: l) (n := n) (j := 0) (q := f) (by omega) rfl
    have hl := (List.getElem?_eq_some_iff.1 hb).1
    have h1 := splitAt_hit (h := upQ (f :: l) n) (n := (f :: l).length) (by omega)
    rw [hs, upQ_at hb] at h1
    rw [addV, if_neg (by omega)]
    exact addW_mid n l f a b e (fun j hj q hq => addV_below (cv := f :: l) (j := j) (by omega) hq) ha hb (of_decide_eq_true h1)
theorem flo_in (a b : Int) : -(a.natAbs : Int) ≤ flo a b ∧ flo a b ≤ a.natAbs := by
  unfold flo
  have h1 := Int.natAbs_ediv_le_natAbs a b
  omega
theorem mul_abs {a b A B : Int} (ha : -A ≤ a ∧ a ≤ A) (hb : -B ≤ b ∧ b ≤ B) : -(A * B) ≤ a * b ∧ a * b ≤ A * B := by
  have h1 : (a * b).natAbs = a.natAbs * b.natAbs := Int.natAbs_mul a b
  have h2 : (a.natAbs : Int) * b.natAbs ≤ A * B := Int.mul_le_mul (by omega) (by omega) (by omega) (by omega)
  have h3 : ((a * b).natAbs : Int) = (a.natAbs : Int) * b.natAbs := by rw [h1]; exact Int.natCast_mul _ _
  omega
theorem mid_in {a b : Pt} {n : Int} (ha : -300 ≤ a.a ∧ a.a ≤ 300) (hb : -300 ≤ b.a ∧ b.a ≤ 300) (hn : 0 ≤ n ∧ n ≤ 20) (hp : 0 ≤ a.p ∧ a.p ≤ 20) :
    (-12000 ≤ (b.a - a.a) * (n - a.p) ∧ (b.a - a.a) * (n - a.p) ≤ 12000) ∧ (-12000 ≤ flo ((b.a - a.a) * (n - a.p)) (b.p - a.p) ∧ flo ((b.a - a.a) * (n - a.p)) (b.p - a.p) ≤ 12000) ∧ -12300 ≤ midV a b n ∧ midV a b n ≤ 12300 := by
  have h1 := mul_abs (a := b.a - a.a) (b := n - a.p) (A := 600) (B := 20) (by omega) (by omega)
  have h2 := flo_in ((b.a - a.a) * (n - a.p)) (b.p - a.p)
  unfold midV
  omega
end Go.Proofs.Ytalghiecjhfflaa
