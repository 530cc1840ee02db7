/- Layer mould, a part: settings. No statement is proved here. -/
import Derived.Test.YtljbjcnfkbmjkaaMdy
import Derived.Test.YtljbjcnfkbmjkaaGa
namespace Go.Proofs.Ytljbjcnfkbmjkaa
open Go.RowKit Go.Shelf Go.Maps
attribute [local go_sem] Oper.semAt_some

theorem sets_any {w : World} {m : Md} (hm : MdIn m) {p q : Int} (hp : 0 ≤ p ∧ p ≤ 2000) (hq : 0 ≤ q ∧ q ≤ 2000) :
    Calls Try.prog 65 #[.agg #[.int .i64 m.rings, .int .i64 m.give, .int .i64 m.plo, .int .i64 m.phi, .int .i64 m.wlo, .int .i64 m.whi, .int .i64 m.st, .int .i64 m.shrink, .int .i64 m.skin, .int .i64 m.fill, .int .i64 m.gap, .int .i64 m.deep], .agg #[.int .i64 p, .int .i64 q]] w fun e w' => e = .returned (.map (some (w.heap.size + 1 + 1))) ∧ MapAt w' (w.heap.size + 1 + 1) (outN m p q 601) ∧ Below w.heap.size w w' := callsIn_wide.1 (sets_in hm hp hq)
theorem after_any {w : World} {m : Md} (hm : MdIn m) {p q : Int} (hp : 0 ≤ p ∧ p ≤ 2000) (hq : 0 ≤ q ∧ q ≤ 2000) {s : Nat} (hs : s ≤ 600) :
    Calls Try.prog 61 #[.agg #[.int .i64 m.rings, .int .i64 m.give, .int .i64 m.plo, .int .i64 m.phi, .int .i64 m.wlo, .int .i64 m.whi, .int .i64 m.st, .int .i64 m.shrink, .int .i64 m.skin, .int .i64 m.fill, .int .i64 m.gap, .int .i64 m.deep], .int .i64 s, .agg #[.int .i64 p, .int .i64 q]] w fun e w' => e = .returned (.agg #[.int .i64 (la (stW m p q s) 0), .int .i64 (la (stW m p q s) 1), .int .i64 (la (stW m p q s) 2), .int .i64 (la (stW m p q s) 3), .int .i64 (la (stW m p q s) 4), .int .i64 (la (stW m p q s) 5), .int .i64 (la (stW m p q s) 6), .int .i64 (la (stW m p q s) 7)]) ∧ Below w.heap.size w w' := callsIn_wide.1 (after_in hm hp hq hs)
theorem coldest_any (m : Md) (w : World) :
    Calls Try.prog 85 #[.agg #[.int .i64 m.rings, .int .i64 m.give, .int .i64 m.plo, .int .i64 m.phi, .int .i64 m.wlo, .int .i64 m.whi, .int .i64 m.st, .int .i64 m.shrink, .int .i64 m.skin, .int .i64 m.fill, .int .i64 m.gap, .int .i64 m.deep]] w fun e w' => e = .returned (.agg #[.int .i64 m.plo, .int .i64 m.wlo]) ∧ Below w.heap.size w w' := by
  go_enter Try.func85, Try.ntmps85
  go_wp2
  refine bodyPost_ret (v := .agg #[.int .i64 m.plo, .int .i64 m.wlo]) (by simp [results, Try.results85, go_sem]) rfl ⟨rfl, ?_⟩
  exact ((Below.refl _ w).alloc (Nat.le_refl _) _).alloc (by simp) _
theorem warmest_any (m : Md) (w : World) :
    Calls Try.prog 86 #[.agg #[.int .i64 m.rings, .int .i64 m.give, .int .i64 m.plo, .int .i64 m.phi, .int .i64 m.wlo, .int .i64 m.whi, .int .i64 m.st, .int .i64 m.shrink, .int .i64 m.skin, .int .i64 m.fill, .int .i64 m.gap, .int .i64 m.deep]] w fun e w' => e = .returned (.agg #[.int .i64 m.phi, .int .i64 m.whi]) ∧ Below w.heap.size w w' := by
  go_enter Try.func86, Try.ntmps86
  go_wp2
  refine bodyPost_ret (v := .agg #[.int .i64 m.phi, .int .i64 m.whi]) (by simp [results, Try.results86, go_sem]) rfl ⟨rfl, ?_⟩
  exact ((Below.refl _ w).alloc (Nat.le_refl _) _).alloc (by simp) _
/-- Both ends' maps, as they come. -/
structure EnS (w : World) (m : Md) (k : Nat) (W : World) : Prop where
  b0 : MdBk w w.heap.size 88 m W
  b4 : Blk W (w.heap.size + 1) 106 #[.map none, .map none]
  ar : (k = 0 ∧ Blk W (w.heap.size + 1 + 1) 106 #[.map none, .map none]) ∨ (k = 1 ∧ ∃ c, MapAt W c (outN m m.plo m.wlo 601) ∧ Blk W (w.heap.size + 1 + 1) 106 #[.map (some c), .map none]) ∨ (k = 2 ∧ ∃ c h, MapAt W c (outN m m.plo m.wlo 601) ∧ MapAt W h (outN m m.phi m.whi 601) ∧ Blk W (w.heap.size + 1 + 1) 106 #[.map (some c), .map (some h)])
theorem MapAt.far {W : World} {b g k : Nat} {o : List Int} {v : Value} {T : TypeId} {cs : Array Value} (h : MapAt W b o) (hb : Blk W g T cs) : MapAt (W.setCell ⟨g, k, none⟩ v) b o := by
  have hne : g ≠ b := fun e => by subst e; exact h.noBlk hb
  exact h.grown (grown_set _ _ _ _) (fun e => hne (Option.some.inj e))
theorem EnS.blk0 {w W : World} {m : Md} (h : EnS w m 0 W) : Blk W (w.heap.size + 1 + 1) 106 #[.map none, .map none] := by
  rcases h.ar with ⟨_, hb5⟩ | ⟨h, _⟩ | ⟨h, _⟩
  · exact hb5
  · cases h
  · cases h
theorem EnS.blk1 {w W : World} {m : Md} (h : EnS w m 1 W) : ∃ c, MapAt W c (outN m m.plo m.wlo 601) ∧ Blk W (w.heap.size + 1 + 1) 106 #[.map (some c), .map none] := by
  rcases h.ar with ⟨h, _⟩ | ⟨_, h⟩ | ⟨h, _⟩
  · cases h
  · exact h
  · cases h
theorem EnS.blk2 {w W : World} {m : Md} (h : EnS w m 2 W) : ∃ c h, MapAt W c (outN m m.plo m.wlo 601) ∧ MapAt W h (outN m m.phi m.whi 601) ∧ Blk W (w.heap.size + 1 + 1) 106 #[.map (some c), .map (some h)] := by
  rcases h.ar with ⟨h, _⟩ | ⟨h, _⟩ | ⟨_, h⟩
  · cases h
  · cases h
  · exact h
theorem EnS.step0 {w W w1 w2 : World} {m : Md} {c : Nat} (h : EnS w m 0 W) (h1 : Below W.heap.size W w1) (h2 : Below w1.heap.size w1 w2) (hm : MapAt w2 c (outN m m.plo m.wlo 601)) : EnS w m 1 (w2.setCell ⟨w.heap.size + 1 + 1, 0, none⟩ (.map (some c))) := by
  have hb := (h.blk0.on h1).on h2
  exact ⟨⟨((h.b0.bk.on h1).on h2).far (by simp; omega) _, ((h.b0.b.trans (h1.mono h.b0.b.size)).trans (h2.mono (Nat.le_trans h.b0.b.size h1.size))).setCell (by simp; omega) _⟩, ((h.b4.on h1).on h2).far (by simp) _, .inr (.inl ⟨rfl, c, hm.far hb, by simpa using hb.set_ 0 (.map (some c))⟩)⟩
theorem EnS.step1 {w W w1 w2 : World} {m : Md} {c c' : Nat} (h : EnS w m 1 W) (hc : MapAt W c (outN m m.plo m.wlo 601)) (hb5 : Blk W (w.heap.size + 1 + 1) 106 #[.map (some c), .map none]) (h1 : Below W.heap.size W w1) (h2 : Below w1.heap.size w1 w2) (hm : MapAt w2 c' (outN m m.phi m.whi 601)) : EnS w m 2 (w2.setCell ⟨w.heap.size + 1 + 1, 1, none⟩ (.map (some c'))) := by
  have hb := (hb5.on h1).on h2
  exact ⟨⟨((h.b0.bk.on h1).on h2).far (by simp; omega) _, ((h.b0.b.trans (h1.mono h.b0.b.size)).trans (h2.mono (Nat.le_trans h.b0.b.size h1.size))).setCell (by simp; omega) _⟩, ((h.b4.on h1).on h2).far (by simp) _, .inr (.inr ⟨rfl, c, c', ((hc.on h1).on h2).far hb, hm.far hb, by simpa using hb.set_ 1 (.map (some c'))⟩)⟩
set_option maxRecDepth 100000 in
set_option maxHeartbeats 4000000 in
theorem ends_set {w : World} {m : Md} (hm : MdIn m) :
    Calls Try.prog 64 #[.agg #[.int .i64 m.rings, .int .i64 m.give, .int .i64 m.plo, .int .i64 m.phi, .int .i64 m.wlo, .int .i64 m.whi, .int .i64 m.st, .int .i64 m.shrink, .int .i64 m.skin, .int .i64 m.fill, .int .i64 m.gap, .int .i64 m.deep], .func (.func 65) #[.agg #[.int .i64 m.rings, .int .i64 m.give, .int .i64 m.plo, .int .i64 m.phi, .int .i64 m.wlo, .int .i64 m.whi, .int .i64 m.st, .int .i64 m.shrink, .int .i64 m.skin, .int .i64 m.fill, .int .i64 m.gap, .int .i64 m.deep]] #[]] w fun e w' => ∃ c h, e = .returned (.agg #[.map (some c), .map (some h)]) ∧ MapAt w' c (outN m m.plo m.wlo 601) ∧ MapAt w' h (outN m m.phi m.whi 601) ∧ Below w.heap.size w w' := by
  have HE : Hid (EnS w m 0 (((w.alloc (.cells #[.int .i64 m.rings, .int .i64 m.give, .int .i64 m.plo, .int .i64 m.phi, .int .i64 m.wlo, .int .i64 m.whi, .int .i64 m.st, .int .i64 m.shrink, .int .i64 m.skin, .int .i64 m.fill, .int .i64 m.gap, .int .i64 m.deep] 88)).alloc (.cells #[.map none, .map none] 106)).alloc (.cells #[.map none, .map none] 106))) :=
    ⟨⟨((Blk.new w _ _).alloc _).alloc _, (((Below.refl _ w).alloc (Nat.le_refl _) _).alloc (by simp) _).alloc (by simp; omega) _⟩, (Blk.new1 w _ _ _).alloc _, .inl ⟨rfl, Blk.new2 w _ _ _ _⟩⟩
  have i0 : ∀ w, (Instr.index 132 (.agg #[.func (.func 85) #[] #[], .func (.func 86) #[] #[]]) (.int .i64 0)).run Try.prog w = .ok (.func (.func 85) #[] #[]) w := fun _ => by kernel_rfl
  have i1 : ∀ w, (Instr.index 132 (.agg #[.func (.func 85) #[] #[], .func (.func 86) #[] #[]]) (.int .i64 1)).run Try.prog w = .ok (.func (.func 86) #[] #[]) w := fun _ => by kernel_rfl
  go_enter Try.func64, Try.ntmps64
  go_wp2_with fail
  go_loopw [9] (fun i W => (i = .int .i64 0 ∧ Hid (EnS w m 0 W)) ∨ (i = .int .i64 1 ∧ Hid (EnS w m 1 W)) ∨ (i = .int .i64 2 ∧ Hid (EnS w m 2 W))) (fun i _ => 2 - (intOf i).toNat)
  case atStart => exact .inl ⟨rfl, HE⟩
  case round =>
    rcases hrel with ⟨rfl, HS⟩ | ⟨rfl, HS⟩ | ⟨rfl, HS⟩
    · obtain ⟨d0, d1, d2, d3, d4, d5, d6, d7, d8, d9, d10, d11⟩ := HS.out.b0.cells
      go_wp2_with (first
        | (go_at_call 85; refine (coldest_any m _).mono ?_; rintro e w1 ⟨rfl, hb1⟩; have HB1 := Lib.hid hb1; clear hb1)
        | (go_at_call 65; refine (sets_any hm hm.plo hm.wlo).mono ?_; rintro e w2 ⟨rfl, hm2, hb2⟩; have HB2 := Lib.hid hb2; have HM2 := Lib.hid hm2; have hf := ((HS.out.blk0.on HB1.out).on hb2).frozen 0; have hc := ((HS.out.blk0.on HB1.out).on hb2).cell 0; clear hb2 hm2))
      go_roundw
      case rel => exact .inr (.inl ⟨rfl, HS.out.step0 HB1.out HB2.out HM2.out⟩)
      case measure => decide
    · obtain ⟨d0, d1, d2, d3, d4, d5, d6, d7, d8, d9, d10, d11⟩ := HS.out.b0.cells
      obtain ⟨c, hc, hb5⟩ := HS.out.blk1
      have HC := Lib.hid hc
      have H5 := Lib.hid hb5
      clear hc hb5
      go_wp2_with (first
        | (go_at_call 86; refine (warmest_any m _).mono ?_; rintro e w1 ⟨rfl, hb1⟩; have HB1 := Lib.hid hb1; clear hb1)
        | (go_at_call 65; refine (sets_any hm hm.phi hm.whi).mono ?_; rintro e w2 ⟨rfl, hm2, hb2⟩; have HB2 := Lib.hid hb2; have HM2 := Lib.hid hm2; have hf := ((H5.out.on HB1.out).on hb2).frozen 1; have hc := ((H5.out.on HB1.out).on hb2).cell 1; clear hb2 hm2))
      go_roundw
      case rel => exact .inr (.inr ⟨rfl, HS.out.step1 HC.out H5.out HB1.out HB2.out HM2.out⟩)
      case measure => decide
    · obtain ⟨c, h, hc, hh, hb5⟩ := HS.out.blk2
      have c0 := hb5.cell 0
      have c1 := hb5.cell 1
      have f0 := HS.out.b4.frozen 0
      have f1 := HS.out.b4.frozen 1
      have e0 := HS.out.b4.cell 0
      have e1 := HS.out.b4.cell 1
      have HC := Lib.hid hc
      have HH := Lib.hid hh
      clear hc hh hb5
      go_wp2_with fail
      have s0 : (wr.setCell ⟨w.heap.size + 1, 0, none⟩ (.map (some c))).cell? ⟨w.heap.size + 1, 0, none⟩ = some (.map (some c)) := (HS.out.b4.set_ 0 _).cell 0
      have s1 : ((wr.setCell ⟨w.heap.size + 1, 0, none⟩ (.map (some c))).setCell ⟨w.heap.size + 1, 1, none⟩ (.map (some h))).cell? ⟨w.heap.size + 1, 1, none⟩ = some (.map (some h)) := ((HS.out.b4.set_ 0 _).set_ 1 _).cell 1
      refine bodyPost_ret (v := .agg #[.map (some c), .map (some h)]) (by simp [results, Try.results64, go_sem, s0, s1]) rfl ⟨c, h, rfl, (HC.out.far HS.out.b4).far (HS.out.b4.set_ 0 _), (HH.out.far HS.out.b4).far (HS.out.b4.set_ 0 _), below_set (below_set HS.out.b0.b (Nat.le_succ _)) (Nat.le_succ _)⟩
end Go.Proofs.Ytljbjcnfkbmjkaa

namespace Go.Proofs.Ytljbjcnfkbmjkaa
open Go.RowKit Go.Shelf Go.Maps
attribute [local go_sem] Oper.semAt_some

set_option maxRecDepth 100000 in
theorem of_any {w : World} {b r : Nat} {o : List Int} {x : Int} (hm : MapAt w b o) (hr : o[r]? = some x) (hx : 0 ≤ x) (hr8 : r < 8) :
    Calls Try.prog 68 #[.map (some b), .int .i64 r] w fun e w' => e = .returned (.int .i64 x) ∧ w' = w := by
  obtain ⟨D, hown, hrep⟩ := hm
  have HO := Lib.hid hown
  have HR := Lib.hid hrep
  have hkey : keyOf Try.prog 3 (.int .i64 (r : Int)) = some (.int .i64 (r : Int)) := keyOf_int_mk Try.underlying3 (WalkArith.wf_i64 (by omega))
  clear hown hrep
  go_enter Try.func68, Try.ntmps68
  go_wp2_with (first | (at_lookup; refine wpList_lookup_own_int _ rfl _ _ 105 rfl 3 3 .i64 (int_keyed Try.underlying3) Try.underlying105 Try.underlying3 (Try.zeroValue3 _) b _ _ rfl HO.out _ _ rfl hkey ?_; intro c hat hwc) | fail)
  have hc : c = x := by
    have := HR.out.at_ r x hr hx (.lit (.int .i64 0))
    rw [this] at hat
    simpa using hat.symm
  subst hc
  go_ret
  exact ⟨rfl, rfl⟩

theorem complete_num {m : Md} (hm : MdIn m) {o : List Int} (hl : o.length = kR m) : (((o.countP (fun x => decide (0 ≤ x)) : Nat) : Int) == m.rings) = o.all (fun z => decide (0 ≤ z)) := by
  have hk := kR_eq hm
  rw [Bool.eq_iff_iff, beq_iff_eq, List.all_eq_true]
  constructor
  · intro h
    have h2 : o.countP (fun x => decide (0 ≤ x)) = o.length := by omega
    exact List.countP_eq_length.1 h2
  · intro h
    have := List.countP_eq_length.2 h
    omega
set_option maxRecDepth 100000 in
theorem complete_any {w : World} {m : Md} (hm : MdIn m) {b c : Nat} {o : List Int} (hl : o.length = kR m) (hc : MapAt w c o) :
    Calls Try.prog 66 #[.agg #[.int .i64 m.rings, .int .i64 m.give, .int .i64 m.plo, .int .i64 m.phi, .int .i64 m.wlo, .int .i64 m.whi, .int .i64 m.st, .int .i64 m.shrink, .int .i64 m.skin, .int .i64 m.fill, .int .i64 m.gap, .int .i64 m.deep], .agg #[.map (some b), .map (some c)]] w fun e w' => e = .returned (.bool (o.all (fun z => decide (0 ≤ z)))) ∧ Below w.heap.size w w' := by
  have hb : Below w.heap.size w ((w.alloc (.cells #[.int .i64 m.rings, .int .i64 m.give, .int .i64 m.plo, .int .i64 m.phi, .int .i64 m.wlo, .int .i64 m.whi, .int .i64 m.st, .int .i64 m.shrink, .int .i64 m.skin, .int .i64 m.fill, .int .i64 m.gap, .int .i64 m.deep] 88)).alloc (.cells #[.map (some b), .map (some c)] 106)) := ((Below.refl _ w).alloc (Nat.le_refl _) _).alloc (by simp) _
  obtain ⟨D, hown, hrep⟩ := hc
  have HO := Lib.hid (map_on hown (((Below.refl _ w).alloc (Nat.le_refl _) (.cells #[.int .i64 m.rings, .int .i64 m.give, .int .i64 m.plo, .int .i64 m.phi, .int .i64 m.wlo, .int .i64 m.whi, .int .i64 m.st, .int .i64 m.shrink, .int .i64 m.skin, .int .i64 m.fill, .int .i64 m.gap, .int .i64 m.deep] 88)).alloc (by simp) (.cells #[.map (some b), .map (some c)] 106)))
  have HB := Lib.hid hb
  have hn := complete_num hm hl
  rw [← hrep.size_] at hn
  clear hown hb hrep
  go_enter Try.func66, Try.ntmps66
  go_wp2_with (first | (at_len; refine wpList_len_own _ rfl _ 105 rfl 3 3 Try.underlying105 _ c _ _ rfl HO.out ?_) | fail)
  refine bodyPost_ret (v := .bool (o.all (fun z => decide (0 ≤ z)))) (by simp [results, Try.results66, go_sem, ← hn]) rfl ⟨rfl, HB.out⟩
end Go.Proofs.Ytljbjcnfkbmjkaa

namespace Go.Proofs.Ytljbjcnfkbmjkaa
open Go.RowKit

/-- What the rings bear that are no longer left. -/
def sumF (f : Nat → Int → Int) (left : Lit → Bool) : Nat → List Int → Int
  | _, [] => 0
  | k, x :: xs => (if 0 ≤ x ∧ left (.int .i64 (k : Int)) = false then f k x else 0) + sumF f left (k + 1) xs
theorem sumF_start (f : Nat → Int → Int) {left : Lit → Bool} : ∀ (k : Nat) (o : List Int), (∀ (r : Nat) (x : Int), o[r]? = some x → 0 ≤ x → left (.int .i64 ((k + r : Nat) : Int)) = true) → sumF f left k o = 0
  | _, [], _ => rfl
  | k, x :: xs, h => by
    have h1 : (if 0 ≤ x ∧ left (.int .i64 (k : Int)) = false then f k x else 0) = 0 := if_neg (by
      rintro ⟨h2, h3⟩
      have := h 0 x rfl h2
      rw [Nat.add_zero] at this
      rw [this] at h3; cases h3)
    rw [sumF, h1, sumF_start f (k + 1) xs fun r y hr hy => by
      have := h (r + 1) y (by simpa using hr) hy
      rwa [show k + (r + 1) = k + 1 + r by omega] at this]
    rfl
theorem same_int (a b : Nat) : (Lit.int .i64 (a : Int)).sameKey (.int .i64 (b : Int)) = decide (a = b) := by
  rw [Bool.eq_iff_iff, decide_eq_true_iff]
  simp [Lit.sameKey]; omega
theorem sumF_past (f : Nat → Int → Int) {left : Lit → Bool} {x : Nat} : ∀ (k : Nat) (o : List Int), x < k → sumF f (fun z => left z && !z.sameKey (.int .i64 (x : Int))) k o = sumF f left k o
  | _, [], _ => rfl
  | k, y :: ys, h => by
    have h1 : (left (.int .i64 (k : Int)) && !(Lit.int .i64 (k : Int)).sameKey (.int .i64 (x : Int))) = left (.int .i64 (k : Int)) := by
      rw [same_int]; simp; intro _; omega
    have h2 := sumF_past f (left := left) (x := x) (k + 1) ys (by omega)
    simp only [sumF, h1, h2]
theorem sumF_step (f : Nat → Int → Int) {left : Lit → Bool} {y : Int} : ∀ (k : Nat) (o : List Int) (r : Nat), o[r]? = some y → 0 ≤ y → left (.int .i64 ((k + r : Nat) : Int)) = true →
    sumF f (fun z => left z && !z.sameKey (.int .i64 ((k + r : Nat) : Int))) k o = sumF f left k o + f (k + r) y
  | k, [], r, h, _, _ => by simp at h
  | k, z :: zs, 0, h, hy, hl => by
    obtain rfl : z = y := by simpa using h
    rw [Nat.add_zero] at hl ⊢
    have h2 := sumF_past f (left := left) (x := k) (k + 1) zs (by omega)
    have h3 : (Lit.int .i64 (k : Int)).sameKey (.int .i64 (k : Int)) = true := by rw [same_int]; simp
    simp only [sumF, hl, h2, h3, hy, Bool.not_true, Bool.and_false, and_self, if_true, Bool.true_eq_false, and_false, if_false]
    omega
  | k, z :: zs, r + 1, h, hy, hl => by
    have h1 : (left (.int .i64 (k : Int)) && !(Lit.int .i64 (k : Int)).sameKey (.int .i64 ((k + (r + 1) : Nat) : Int))) = left (.int .i64 (k : Int)) := by
      rw [same_int]; simp
    have h2 := sumF_step f (k + 1) zs r (by simpa using h) hy (by rwa [show k + 1 + r = k + (r + 1) by omega])
    rw [show k + 1 + r = k + (r + 1) by omega] at h2
    simp only [sumF, h1, h2]
    omega
/-- All rings have come. -/
def fullF (f : Nat → Int → Int) : Nat → List Int → Int
  | _, [] => 0
  | k, x :: xs => (if 0 ≤ x then f k x else 0) + fullF f (k + 1) xs
theorem sumF_end (f : Nat → Int → Int) {left : Lit → Bool} (h : ∀ kl, left kl = false) : ∀ (k : Nat) (o : List Int), sumF f left k o = fullF f k o
  | _, [] => rfl
  | k, x :: xs => by simp [sumF, fullF, h, sumF_end f h (k + 1) xs]
theorem sumF_le {f : Nat → Int → Int} {left : Lit → Bool} (hf : ∀ r x, 0 ≤ f r x) : ∀ (k : Nat) (o : List Int), 0 ≤ sumF f left k o ∧ sumF f left k o ≤ fullF f k o
  | _, [] => ⟨by simp [sumF], by simp [sumF, fullF]⟩
  | k, x :: xs => by
    have h1 := sumF_le hf (left := left) (k + 1) xs
    have h2 := hf k x
    simp only [sumF, fullF]
    by_cases hx : 0 ≤ x
    · by_cases hl : left (.int .i64 (k : Int)) = false
      · rw [if_pos ⟨hx, hl⟩, if_pos hx]; omega
      · rw [if_neg (fun h => hl h.2), if_pos hx]; omega
    · rw [if_neg (fun h => hx h.1), if_neg hx]; omega
/-- How much the rings bear that have set by a minute. -/
theorem fullF_gsum (s : Nat → Int) (t : Int) : ∀ (k : Nat) (o : List Int), fullF (fun r x => if x ≤ t then s r else 0) k o = gsum ((List.range' k o.length).map s) o t
  | _, [] => by simp [fullF, gsum]
  | k, x :: xs => by
    simp only [fullF, List.length_cons, List.range'_succ, List.map_cons, gsum, fullF_gsum s t (k + 1) xs]
    by_cases h1 : 0 ≤ x <;> by_cases h2 : x ≤ t <;> simp [h1, h2]
/-- .. from a minute until another. -/
theorem fullF_from (s : Nat → Int) {a t : Int} (ha : a ≤ t + 1) : ∀ (k : Nat) (o : List Int), fullF (fun r x => if a ≤ x ∧ x ≤ t then s r else 0) k o = fullF (fun r x => if x ≤ t then s r else 0) k o - fullF (fun r x => if x ≤ a - 1 then s r else 0) k o
  | _, [] => by simp [fullF]
  | k, x :: xs => by
    simp only [fullF, fullF_from s ha (k + 1) xs]
    by_cases h1 : 0 ≤ x
    · by_cases h2 : a ≤ x
      · by_cases h3 : x ≤ t
        · simp only [h1, h2, h3, and_self, if_true, show ¬ (x ≤ a - 1) by omega, if_false]; omega
        · simp only [h1, h2, h3, and_false, if_false, if_true, show ¬ (x ≤ a - 1) by omega]; omega
      · simp only [h1, h2, false_and, if_false, if_true, show x ≤ a - 1 by omega, show x ≤ t by omega]; omega
    · simp only [h1, if_false]; omega
def skinF (t : Int) (_r : Nat) (x : Int) : Int := if x ≤ t then 1 else 0
theorem skin_full (t : Int) (o : List Int) : fullF (skinF t) 0 o = setN o t := by
  have h := fullF_gsum (fun _ => 1) t 0 o
  unfold setN
  rw [show skinF t = (fun r x => if x ≤ t then (fun _ => (1 : Int)) r else 0) from rfl, h]
  congr 1
  apply List.ext_getElem?
  intro j
  rw [List.getElem?_map, List.getElem?_replicate]
  by_cases hj : j < o.length
  · rw [if_pos hj, List.getElem?_range' hj]; rfl
  · rw [if_neg hj, List.getElem?_eq_none (by simp; omega)]; rfl
theorem setN_len (o : List Int) (t : Int) : 0 ≤ setN o t ∧ setN o t ≤ o.length := by
  rw [← skin_full]
  have : ∀ (k : Nat) (l : List Int), 0 ≤ fullF (skinF t) k l ∧ fullF (skinF t) k l ≤ l.length := by
    intro k l
    induction l generalizing k with
    | nil => simp [fullF]
    | cons x xs ih =>
      have := ih (k + 1)
      simp only [fullF, skinF, List.length_cons]
      by_cases h1 : 0 ≤ x <;> by_cases h2 : x ≤ t <;> simp only [h1, h2, if_true, if_false] <;> omega
  exact this 0 o
def growF (m : Md) (a t : Int) (r : Nat) (x : Int) : Int := if a ≤ x ∧ x ≤ t then shrV m r else 0
theorem grow_full {m : Md} {o : List Int} (hl : o.length = kR m) {a t : Int} (ha : a ≤ t + 1) : fullF (growF m a t) 0 o = gM m o t - gM m o (a - 1) := by
  have h := fullF_from (shrV m) ha 0 o
  rw [fullF_gsum, fullF_gsum] at h
  unfold gM shrL
  rw [← hl, List.range_eq_range']
  exact h
end Go.Proofs.Ytljbjcnfkbmjkaa

namespace Go.Proofs.Ytljbjcnfkbmjkaa
open Go.RowKit Go.Shelf Go.Maps
attribute [local go_sem] Oper.semAt_some

set_option maxRecDepth 100000 in
set_option maxHeartbeats 1000000 in
theorem skin_any {w : World} {b : Nat} {o : List Int} {n : Int} (hm : MapAt w b o) (hl : o.length ≤ 8) :
    Calls Try.prog 72 #[.map (some b), .int .i64 n] w fun e w' => e = .returned (.int .i64 (setN o n)) ∧ Below w.heap.size w w' := by
  obtain ⟨D, hown, hrep⟩ := hm
  have HO := Lib.hid hown
  have HR := Lib.hid hrep
  have HL := Lib.hid hl
  clear hown hrep hl
  go_enter Try.func72, Try.ntmps72
  go_wp2_with (first | (at_range; refine wpList_range_own _ rfl _ 105 rfl 3 3 (int_keyed Try.underlying3) Try.underlying105 _ b _ _ rfl HO.out ?_; intro w4 hrg4 hg4 hs4) | fail)
  go_frame
  have HB4 := Lib.hid ((Below.refl _ w).grown hg4 (Nat.le_refl _) (fun k e => by cases e))
  have HG4 := Lib.hid hrg4
  clear hrg4 hg4
  go_loopw [5] (fun a wr => ∃ (left : Lit → Bool) (cnt : Nat), a = .int .i64 (sumF (skinF n) left 0 o) ∧ Hid (wr.ranges Try.prog 3 (plainElem Try.prog 3) b w.heap.size (size D) D left cnt) ∧ Hid (Below w.heap.size w wr))
    (fun _ wr => wr.rangeLeft b w.heap.size)
  case atStart => exact ⟨_, _, by rw [sumF_start _ 0 o (fun r x hr hx => (HR.out.has_ _).2 ⟨r, x, by omega, hr, hx⟩)], HG4.out, HB4.out⟩
  case round =>
    obtain ⟨left, cnt, rfl, HG, HBR⟩ := hrel
    go_wp2_with (first
      | (at_next; refine wpList_next_ranges_ii _ rfl _ rfl 3 3 .i64 .i64 (int_keyed Try.underlying3) Try.underlying3 Try.underlying3 b w.heap.size _ _ _ _ rfl HG.out ?_ ?_)
      | fail)
    · intro hc0 hl0
      rw [sumF_end _ hl0, skin_full]
      go_wp2_with fail
      go_ret
      exact ⟨rfl, HBR.out⟩
    · intro x c w5 cnt1 hwx hwc hlx hat hrg1 hlt hg1 hs1 hen
      obtain ⟨r, y, rfl, hry, hy0⟩ := (HR.out.has_ x).1 (has_true_of_atKey hat)
      have hcy : c = y := by
        have h1 := HR.out.at_ r y hry hy0 (.lit (.int .i64 0))
        rw [hat] at h1
        simpa using h1
      subst hcy
      have hst := sumF_step (skinF n) (left := left) 0 o r hry hy0 (by rw [Nat.zero_add]; exact hlx)
      rw [Nat.zero_add] at hst
      have hbd := sumF_le (f := skinF n) (left := left) (fun r x => by unfold skinF; split <;> omega) 0 o
      have hbd2 := setN_len o n
      rw [skin_full] at hbd
      have hl8 := HL.out
      have HST := Lib.hid hst
      have HG1 := Lib.hid hrg1
      have HBR1 := Lib.hid (HBR.out.grown hg1 HBR.out.size (fun k e => by cases e; exact Nat.le_refl _))
      have hm1 := hrg1.left_eq
      have hm0 := HG.out.left_eq
      clear hrg1 hg1 hat hlx hst
      by_cases hcn : c ≤ n
      · have hw : IntKind.i64.wrap (sumF (skinF n) left 0 o + 1) = sumF (skinF n) left 0 o + 1 := IntWalk.i64_in _ (by omega)
        go_wp2_with fail
        go_roundw
        case rel => exact ⟨_, _, by rw [HST.out, skinF, if_pos hcn], HG1.out, HBR1.out⟩
        case measure => rw [hm1, hm0]; exact hlt
      · go_wp2_with fail
        go_roundw
        case rel => exact ⟨_, _, by rw [HST.out, skinF, if_neg hcn, Int.add_zero], HG1.out, HBR1.out⟩
        case measure => rw [hm1, hm0]; exact hlt
end Go.Proofs.Ytljbjcnfkbmjkaa
