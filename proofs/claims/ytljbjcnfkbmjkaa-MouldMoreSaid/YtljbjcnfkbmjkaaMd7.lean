/- mould.Sets, mould.Skin: contracts. -/
import Derived.Test.YtljbjcnfkbmjkaaMd6
import Derived.Test.YtljbjcnfkbmjkaaMdh
namespace Go.Proofs.Ytljbjcnfkbmjkaa
open Go.RowKit Go.Shelf Go.Maps
attribute [local go_sem] Oper.semAt_some

theorem Wle.at_ : ∀ {l m : List Int}, Wle l m → ∀ (r : Nat) (x y : Int), l[r]? = some x → m[r]? = some y → y < 0 ∨ (0 ≤ x ∧ x ≤ y)
  | [], _, _, r, x, y, hx, _ => by simp at hx
  | _ :: _, [], _, r, x, y, _, hy => by simp at hy
  | a :: l, b :: m, h, 0, x, y, hx, hy => by simp at hx hy; subst hx hy; exact h.1
  | a :: l, b :: m, h, r + 1, x, y, hx, hy => Wle.at_ h.2 r x y (by simpa using hx) (by simpa using hy)
theorem never_all (o : List Int) : o.all (fun z => decide (0 ≤ z)) = !never o := by
  unfold never
  rw [List.not_any_eq_all_not]
  refine congrArg (fun f => o.all f) (funext fun z => ?_)
  rw [Bool.eq_iff_iff]
  simp only [Bool.not_eq_true', decide_eq_true_eq, decide_eq_false_iff_not]
  omega
theorem cold_gen {a b : List Int} (hw : Wle a b) (hl : a.length = b.length) (hn : never b = false) : (∀ x ∈ a, 0 ≤ x) ∧ (∀ y ∈ b, 0 ≤ y) ∧ ∀ (r : Nat) (x y : Int), a[r]? = some x → b[r]? = some y → x ≤ y := by
  have hy : ∀ y ∈ b, 0 ≤ y := by
    have := never_all b
    rw [hn] at this
    rw [Bool.not_false, List.all_eq_true] at this
    intro y hy
    simpa using this y hy
  have key : ∀ (r : Nat) (x : Int), a[r]? = some x → ∃ y, b[r]? = some y ∧ 0 ≤ x ∧ x ≤ y := by
    intro r x hx
    have hlt := (List.getElem?_eq_some_iff.1 hx).1
    have hy2 := List.getElem?_eq_getElem (l := b) (i := r) (by omega)
    refine ⟨_, hy2, ?_⟩
    have h0 := hy _ (List.mem_of_getElem? hy2)
    rcases hw.at_ r x _ hx hy2 with h1 | h1
    · omega
    · exact h1
  refine ⟨fun x hx => ?_, hy, fun r x y hx hy2 => ?_⟩
  · obtain ⟨r, hr⟩ := List.mem_iff_getElem?.1 hx
    obtain ⟨y, -, h1, -⟩ := key r x hr
    exact h1
  · obtain ⟨y2, e, -, h2⟩ := key r x hx
    rw [e] at hy2; cases hy2; exact h2
set_option maxRecDepth 100000 in
theorem ends_wh {w : World} {m : Md} (hm : MdIn m) :
    Calls Try.prog 64 #[.agg #[.int .i64 m.rings, .int .i64 m.give, .int .i64 m.plo, .int .i64 m.phi, .int .i64 m.wlo, .int .i64 m.whi, .int .i64 m.st, .int .i64 m.shrink, .int .i64 m.skin, .int .i64 m.fill, .int .i64 m.gap, .int .i64 m.deep], .func (.func 65) #[.agg #[.int .i64 m.rings, .int .i64 m.give, .int .i64 m.plo, .int .i64 m.phi, .int .i64 m.wlo, .int .i64 m.whi, .int .i64 m.st, .int .i64 m.shrink, .int .i64 m.skin, .int .i64 m.fill, .int .i64 m.gap, .int .i64 m.deep]] #[]] w fun e w' => ∃ c h, e = .returned (.agg #[.map (some c), .map (some h)]) ∧ MapAt w' c (wh m false) ∧ MapAt w' h (wh m true) ∧ Below w.heap.size w w' := by
  rw [wh_outN, wh_outN]; exact ends_set hm

theorem wh_ab {m : Md} (h : MdOk m) {a b : List Int} (ha : wh m false = a) (hb : wh m true = b) : Wle a b := by
  have h1 := whN_mono h
  rw [← ha, ← hb]
  unfold wh
  generalize (600 : Nat) = n
  exact h1 n
theorem setsR_bad {m : Md} (h : checkM m ≠ 0) : setsR m = ([], checkM m) := if_pos h
theorem setsR_never {m : Md} (h : checkM m = 0) {b : List Int} (hb : wh m true = b) (hn : never b = true) : setsR m = ([], 9) := by
  unfold setsR
  rw [if_neg (fun h2 => h2 h), hb, if_pos hn]
theorem setsR_good {m : Md} (h : checkM m = 0) {a b : List Int} (ha : wh m false = a) (hb : wh m true = b) (hn : never b = false) : setsR m = (zipS a b, 0) := by
  unfold setsR
  rw [if_neg (fun h2 => h2 h), hb, ha, if_neg (by rw [hn]; decide)]
set_option maxRecDepth 100000 in
set_option maxHeartbeats 1000000 in
theorem msets_any (m : Md) (w : World) :
    Calls Try.prog 27 #[.agg #[.int .i64 m.rings, .int .i64 m.give, .int .i64 m.plo, .int .i64 m.phi, .int .i64 m.wlo, .int .i64 m.whi, .int .i64 m.st, .int .i64 m.shrink, .int .i64 m.skin, .int .i64 m.fill, .int .i64 m.gap, .int .i64 m.deep]] w fun e w' => ∃ v, e = .returned (.tuple #[v, .int .i64 (setsR m).2]) ∧ SpansOut w.heap.size w' v (setsR m).1 ∧ Below w.heap.size w w' := by
  have HM := Lib.hid (MdBk.new w 25 m)
  by_cases hck : checkM m = 0
  · have hok := checkM_ok.1 hck
    have hkr := kR_eq hok.toMdIn
    have hk8 := (kR_le hok.toMdIn).2
    have hla := wh_length m false
    have hlb := wh_length m true
    have HE := Lib.hid (fun (W : World) => ends_wh (w := W) hok.toMdIn)
    have HG := Lib.hid (fun (a b : List Int) (ha : wh m false = a) (hb : wh m true = b) => setsR_good hck ha hb)
    have HN := Lib.hid (fun (b : List Int) (hb : wh m true = b) => setsR_never hck hb)
    have HW := Lib.hid (fun (a b : List Int) (ha : wh m false = a) (hb : wh m true = b) => wh_ab hok ha hb)
    obtain ⟨a, ha⟩ : ∃ a, wh m false = a := ⟨_, rfl⟩
    obtain ⟨b, hb⟩ : ∃ b, wh m true = b := ⟨_, rfl⟩
    have HG2 := Lib.hid (HG.out a b ha hb)
    have HN2 := Lib.hid (HN.out b hb)
    have HW2 := Lib.hid (HW.out a b ha hb)
    rw [ha] at hla HE
    rw [hb] at hlb HE
    clear HG HN HW ha hb
    cases hnb : never b with
    | true =>
      have HR := Lib.hid (HN2.out hnb)
      clear HG2 HN2 HW2
      go_enter Try.func27, Try.ntmps27
      obtain ⟨c0, c1, c2, c3, c4, c5, c6, c7, c8, c9, c10, c11⟩ := HM.out.cells
      go_wp2_with (first
        | (go_at_call 18; refine (check_any m _).mono ?_; rw [hck]; rintro e w1 ⟨rfl, hb1⟩; clear c0 c1 c2 c3 c4 c5 c6 c7 c8 c9 c10 c11; have HM1 := Lib.hid (HM.out.on hb1); obtain ⟨c0, c1, c2, c3, c4, c5, c6, c7, c8, c9, c10, c11⟩ := HM1.out.cells; clear hb1)
        | (go_at_call 64; refine (HE.out _).mono ?_; rintro e w2 ⟨c, h, rfl, hc, hh, hb2⟩; clear c0 c1 c2 c3 c4 c5 c6 c7 c8 c9 c10 c11; have HV := Lib.hid ((MdBk.new w1 88 m).on hb2); have HH := Lib.hid hh; have hvl := HV.out.bk.lt; obtain ⟨c0, c1, c2, c3, c4, c5, c6, c7, c8, c9, c10, c11⟩ := HV.out.cells; have HB2 := Lib.hid ((HM1.out.b.alloc HM1.out.b.size (.cells #[.int .i64 m.rings, .int .i64 m.give, .int .i64 m.plo, .int .i64 m.phi, .int .i64 m.wlo, .int .i64 m.whi, .int .i64 m.st, .int .i64 m.shrink, .int .i64 m.skin, .int .i64 m.fill, .int .i64 m.gap, .int .i64 m.deep] 88)).trans (hb2.mono (by have := HM1.out.b.size; simp; omega))); clear hc hh hb2)
        | (go_at_call 66; refine (complete_any (b := c) hok.toMdIn hlb (HH.out.on ((Below.refl _ w2).alloc (Nat.le_refl _) _))).mono ?_; rw [never_all, hnb]; rintro e w4 ⟨rfl, hb4⟩; have HB4 := Lib.hid ((HB2.out.alloc HB2.out.size (.cells #[.map (some c), .map (some h)] 106)).trans (hb4.mono (by have := HB2.out.size; simp; omega))); clear hb4)
        | fail)
      refine bodyPost_ret (v := .tuple #[.slice none 0 0, .int .i64 9]) (by simp [results, Try.results27, go_sem]) rfl ⟨.slice none 0 0, by rw [HR.out], by rw [HR.out]; exact SpansOut.nil _ _, HB4.out⟩
    | false =>
      have HR := Lib.hid (HG2.out hnb)
      have HCG := Lib.hid (cold_gen HW2.out (by omega) hnb)
      clear HG2 HN2 HW2
      go_enter Try.func27, Try.ntmps27
      obtain ⟨c0, c1, c2, c3, c4, c5, c6, c7, c8, c9, c10, c11⟩ := HM.out.cells
      go_wp2_with (first
        | (go_at_call 18; refine (check_any m _).mono ?_; rw [hck]; rintro e w1 ⟨rfl, hb1⟩; clear c0 c1 c2 c3 c4 c5 c6 c7 c8 c9 c10 c11; have HM1 := Lib.hid (HM.out.on hb1); obtain ⟨c0, c1, c2, c3, c4, c5, c6, c7, c8, c9, c10, c11⟩ := HM1.out.cells; clear hb1)
        | (go_at_call 64; refine (HE.out _).mono ?_; rintro e w2 ⟨c, h, rfl, hc, hh, hb2⟩; clear c0 c1 c2 c3 c4 c5 c6 c7 c8 c9 c10 c11; have HV := Lib.hid ((MdBk.new w1 88 m).on hb2); have HC := Lib.hid hc; have HH := Lib.hid hh; have hvl := HV.out.bk.lt; obtain ⟨c0, c1, c2, c3, c4, c5, c6, c7, c8, c9, c10, c11⟩ := HV.out.cells; have HB2 := Lib.hid ((HM1.out.b.alloc HM1.out.b.size (.cells #[.int .i64 m.rings, .int .i64 m.give, .int .i64 m.plo, .int .i64 m.phi, .int .i64 m.wlo, .int .i64 m.whi, .int .i64 m.st, .int .i64 m.shrink, .int .i64 m.skin, .int .i64 m.fill, .int .i64 m.gap, .int .i64 m.deep] 88)).trans (hb2.mono (by have := HM1.out.b.size; simp; omega))); clear hc hh hb2)
        | (go_at_call 66; refine (complete_any (b := c) hok.toMdIn hlb (HH.out.on ((Below.refl _ w2).alloc (Nat.le_refl _) _))).mono ?_; rw [never_all, hnb]; rintro e w4 ⟨rfl, hb4⟩; have HB24 := Lib.hid (((Below.refl _ w2).alloc (Nat.le_refl _) (.cells #[.map (some c), .map (some h)] 106)).trans (hb4.mono (by simp))); have hb6 := (Blk.new w2 106 #[.map (some c), .map (some h)]).on hb4; clear c0 c1 c2 c3 c4 c5 c6 c7 c8 c9 c10 c11; have c0 := (HV.out.bk.on HB24.out).cell 0; have d0 := hb6.cell 0; have d1 := hb6.cell 1; have HB4 := Lib.hid (HB2.out.trans (HB24.out.mono HB2.out.size)); clear hb4 hb6)
        | (go_at_call 67; refine (spans_any (HC.out.on HB24.out) (HH.out.on HB24.out) (by omega) (by omega) (by omega) HCG.out.1 HCG.out.2.1 HCG.out.2.2).mono ?_; rintro e w5 ⟨v, rfl, hv, hb5⟩; have HV5 := Lib.hid hv; have HB5 := Lib.hid (HB4.out.trans (hb5.mono HB4.out.size)); clear hv hb5)
        | fail)
      refine bodyPost_ret (v := .tuple #[v, .int .i64 0]) (by simp [results, Try.results27, go_sem]) rfl ⟨v, by rw [HR.out], by rw [HR.out]; exact own_base HV5.out HB4.out.size, HB5.out⟩
  · have HR := Lib.hid (setsR_bad hck)
    have hz : (checkM m != 0) = true := by simpa using hck
    have HC := Lib.hid (fun W : World => check_any m W)
    generalize checkM m = z at *
    go_enter Try.func27, Try.ntmps27
    obtain ⟨c0, c1, c2, c3, c4, c5, c6, c7, c8, c9, c10, c11⟩ := HM.out.cells
    go_wp2_with (first
      | (go_at_call 18; refine (HC.out _).mono ?_; rintro e w1 ⟨rfl, hb1⟩; have HM1 := Lib.hid (HM.out.on hb1); clear hb1)
      | fail)
    refine bodyPost_ret (v := .tuple #[.slice none 0 0, .int .i64 z]) (by simp [results, Try.results27, go_sem]) rfl ⟨.slice none 0 0, by rw [HR.out], by rw [HR.out]; exact SpansOut.nil _ _, HM1.out.b⟩
end Go.Proofs.Ytljbjcnfkbmjkaa
