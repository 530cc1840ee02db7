/- mould.Hollow: contract. -/
import Derived.Test.YtljbjcnfkbmjkaaMe5
import Derived.Test.YtljbjcnfkbmjkaaMe8
import Derived.Test.YtljbjcnfkbmjkaaMeA
import Derived.Test.YtljbjcnfkbmjkaaMeB
import Derived.Test.YtljbjcnfkbmjkaaMdH
import Derived.Test.YtljbjcnfkbmjkaaMd7
import Derived.Test.YtljbjcnfkbmjkaaGa
namespace Go.Proofs.Ytljbjcnfkbmjkaa
open Go.RowKit Go.Shelf Go.Maps
attribute [local go_sem] Oper.semAt_some

theorem orE_hol {a b : Int} : orE [a, b] = if a ≠ 0 then a else b := by
  simp only [orE]
  split
  · rfl
  · split
    · rfl
    · omega
theorem pours_any (m : Md) (a l : List Int) : l.any (shut m a) = !pours m a l := by
  unfold pours
  rw [List.not_all_eq_any_not]
  simp
theorem hollR_err {m : Md} {l : List Int} (h : orE [checkM m, planE m l] ≠ 0) : hollR m l = (((0, 0), (0, 0)), orE [checkM m, planE m l]) := by
  rw [orE_hol] at h ⊢
  unfold hollR
  by_cases h1 : checkM m ≠ 0
  · rw [if_pos h1, if_pos h1]
  · rw [if_neg h1] at h ⊢
    rw [if_neg h1, if_pos h]
theorem plOk_of {m : Md} (hm : MdIn m) {l : List Int} (h : planE m l = 0) : PlOk l ∧ l.length ≤ 40 := by
  obtain ⟨h1, h2, h3⟩ := planE_ok.1 h
  exact ⟨⟨h3.asc hm.gap.1, h2⟩, h1⟩
theorem holl_ok {m : Md} {l : List Int} (h : orE [checkM m, planE m l] = 0) : MdOk m ∧ planE m l = 0 := by
  rw [orE_hol] at h
  by_cases h1 : checkM m ≠ 0
  · rw [if_pos h1] at h; exact absurd h h1
  · rw [if_neg h1] at h
    exact ⟨checkM_ok.1 (by simpa using h1), h⟩
theorem hollR_never {m : Md} {l : List Int} (hm : MdOk m) (hp : planE m l = 0) {b : List Int} (hb : wh m true = b) (hn : never b = true) : hollR m l = (((0, 0), (0, 0)), 9) := by
  unfold hollR
  rw [if_neg (by rw [checkM_ok.2 hm]; decide), if_neg (by rw [hp]; decide), hb, if_pos hn]
theorem hollR_shut {m : Md} {l : List Int} (hm : MdOk m) (hp : planE m l = 0) {a b : List Int} (ha : wh m false = a) (hb : wh m true = b) (hn : never b = false) (hs : l.any (shut m a) = true) : hollR m l = (((0, 0), (0, 0)), 9) := by
  unfold hollR
  rw [pours_any] at hs
  rw [if_neg (by rw [checkM_ok.2 hm]; decide), if_neg (by rw [hp]; decide), hb, hn, if_neg (by decide), ha, if_neg (by intro h; rw [h] at hs; cases hs)]
theorem hollR_good {m : Md} {l : List Int} (hm : MdOk m) (hp : planE m l = 0) {a b : List Int} (ha : wh m false = a) (hb : wh m true = b) (hn : never b = false) (hs : l.any (shut m a) = false) : hollR m l = (((hollM m a l, hollM m b l), (pourM m b l, pourM m a l)), 0) := by
  unfold hollR
  rw [pours_any] at hs
  rw [if_neg (by rw [checkM_ok.2 hm]; decide), if_neg (by rw [hp]; decide), hb, hn, if_neg (by decide), ha, if_pos (by cases h : pours m a l with | true => rfl | false => rw [h] at hs; cases hs)]
theorem holl_sum {m : Md} {w : List Int} (hl : w.length = kR m) (hn : never w = false) (hb : Bef 601 w) (l : List Int) : hollM m w l + pourM m w l = sumL (shrL m) := by
  unfold hollM
  rw [gM_end hl hn hb]
  omega
theorem holl_order {m : Md} (hm : MdIn m) {a b l : List Int} (h : Wle a b) (hla : a.length = kR m) (hlb : b.length = kR m) (hn : never b = false) (h1 : Bef 601 a) (h2 : Bef 601 b) : hollM m a l ≤ hollM m b l ∧ pourM m b l ≤ pourM m a l := by
  have e1 := holl_sum hla (never_mono h hn) h1 l
  have e2 := holl_sum hlb hn h2 l
  have e3 := pourM_mono hm h l
  omega
/-- What lies in memory behind the errors. -/
structure HoB (w : World) (m : Md) (A : Option Addr) (c : Nat) (l : List Int) (W : World) : Prop where
  b0 : Blk W w.heap.size 25 #[.int .i64 m.rings, .int .i64 m.give, .int .i64 m.plo, .int .i64 m.phi, .int .i64 m.wlo, .int .i64 m.whi, .int .i64 m.st, .int .i64 m.shrink, .int .i64 m.skin, .int .i64 m.fill, .int .i64 m.gap, .int .i64 m.deep]
  b1 : Blk W (w.heap.size + 1) 45 #[.int .i64 0, .int .i64 0, .int .i64 0, .int .i64 0]
  pt : IntsAt W w.heap.size A l
  ln : l.length ≤ 9223372036854775807
  b : Below w.heap.size w W
theorem HoB.p {w W : World} {m : Md} {A : Option Addr} {c : Nat} {l : List Int} (h : HoB w m A c l W) : IntsIn W A l := ⟨h.pt.mono h.b.size, h.ln⟩
theorem HoB.on {w W W' : World} {m : Md} {A : Option Addr} {c : Nat} {l : List Int} (h : HoB w m A c l W) (hb : Below W.heap.size W W') : HoB w m A c l W' :=
  ⟨h.b0.on hb, h.b1.on hb, RowAt.below h.pt hb h.b.size, h.ln, h.b.trans (hb.mono h.b.size)⟩
theorem end4 {W : World} {g : Nat} {T : TypeId} {cs : Array Value} (hs : cs.size = 4) (h : Blk W g T cs) (v0 v1 v2 v3 : Int) :
    (W.setCell ⟨g, 0, none⟩ (.int .i64 v0)).cell? ⟨g, 0, none⟩ = some (.int .i64 v0) ∧ ((W.setCell ⟨g, 0, none⟩ (.int .i64 v0)).setCell ⟨g, 1, none⟩ (.int .i64 v1)).cell? ⟨g, 1, none⟩ = some (.int .i64 v1) ∧ (((W.setCell ⟨g, 0, none⟩ (.int .i64 v0)).setCell ⟨g, 1, none⟩ (.int .i64 v1)).setCell ⟨g, 2, none⟩ (.int .i64 v2)).cell? ⟨g, 2, none⟩ = some (.int .i64 v2) ∧ ((((W.setCell ⟨g, 0, none⟩ (.int .i64 v0)).setCell ⟨g, 1, none⟩ (.int .i64 v1)).setCell ⟨g, 2, none⟩ (.int .i64 v2)).setCell ⟨g, 3, none⟩ (.int .i64 v3)).cell? ⟨g, 3, none⟩ = some (.int .i64 v3) := by
  have h1 := h.set_ 0 (.int .i64 v0)
  have h2 := h1.set_ 1 (.int .i64 v1)
  have h3 := h2.set_ 2 (.int .i64 v2)
  have h4 := h3.set_ 3 (.int .i64 v3)
  refine ⟨?_, ?_, ?_, ?_⟩
  · rw [h1.cell]; simp [hs]
  · rw [h2.cell]; simp [hs]
  · rw [h3.cell]; simp [hs]
  · rw [h4.cell]; simp [hs]
/-- What lies in memory behind the settings at both ends. -/
structure HoS (w : World) (m : Md) (A : Option Addr) (l a b : List Int) (V X c h : Nat) (W : World) : Prop where
  r : Blk W (w.heap.size + 1) 45 #[.int .i64 0, .int .i64 0, .int .i64 0, .int .i64 0]
  v : MdBk w V 88 m W
  x : Blk W X 106 #[.map (some c), .map (some h)]
  pt : IntsAt W w.heap.size A l
  ln : l.length ≤ 9223372036854775807
  mc : MapAt W c a
  mh : MapAt W h b
theorem HoS.p {w W : World} {m : Md} {A : Option Addr} {l a b : List Int} {V X c h : Nat} (t : HoS w m A l a b V X c h W) : IntsIn W A l := ⟨t.pt.mono t.v.b.size, t.ln⟩
theorem HoS.on {w W W' : World} {m : Md} {A : Option Addr} {l a b : List Int} {V X c h : Nat} (t : HoS w m A l a b V X c h W) (hb : Below W.heap.size W W') : HoS w m A l a b V X c h W' :=
  ⟨t.r.on hb, t.v.on hb, t.x.on hb, RowAt.below t.pt hb t.v.b.size, t.ln, t.mc.on hb, t.mh.on hb⟩
/-- .. and the two fates. -/
structure HoF (w : World) (m : Md) (A : Option Addr) (l a b : List Int) (V X c h F : Nat) (q0 q1 q2 q3 : Int) (W : World) : Prop where
  s : HoS w m A l a b V X c h W
  f : Blk W F 121 #[.int .i64 q0, .int .i64 q1, .int .i64 q2, .int .i64 q3]
  l1 : w.heap.size + 1 < F
  l2 : V < F
  l3 : X < F
theorem HoF.on {w W W' : World} {m : Md} {A : Option Addr} {l a b : List Int} {V X c h F : Nat} {q0 q1 q2 q3 : Int} (t : HoF w m A l a b V X c h F q0 q1 q2 q3 W) (hb : Below W.heap.size W W') : HoF w m A l a b V X c h F q0 q1 q2 q3 W' :=
  ⟨t.s.on hb, t.f.on hb, t.l1, t.l2, t.l3⟩
theorem HoF.sset {w W : World} {m : Md} {A : Option Addr} {l a b : List Int} {V X c h F : Nat} {cs : Array Value} (t : HoS w m A l a b V X c h W) (f : Blk W F 121 cs) (l1 : w.heap.size + 1 < F) (l2 : V < F) (l3 : X < F) (k : Nat) (v : Value) : HoS w m A l a b V X c h (W.setCell ⟨F, k, none⟩ v) :=
  ⟨t.r.far (by simp; omega) _, ⟨t.v.bk.far (by simp; omega) _, below_set t.v.b (by omega)⟩, t.x.far (by simp; omega) _, RowAt.below t.pt (below_set (B := w.heap.size) (Below.refl w.heap.size W) (by omega)) (Nat.le_refl _), t.ln, t.mc.far f, t.mh.far f⟩
theorem HoF.put0 {w W : World} {m : Md} {A : Option Addr} {l a b : List Int} {V X c h F : Nat} {q0 q1 q2 q3 : Int} (t : HoF w m A l a b V X c h F q0 q1 q2 q3 W) (x y : Int) : HoF w m A l a b V X c h F x y q2 q3 ((W.setCell ⟨F, 0, none⟩ (.int .i64 x)).setCell ⟨F, 1, none⟩ (.int .i64 y)) :=
  ⟨HoF.sset (HoF.sset t.s t.f t.l1 t.l2 t.l3 _ _) (t.f.set_ _ _) t.l1 t.l2 t.l3 _ _, (t.f.set_ 0 (.int .i64 x)).set_ 1 (.int .i64 y), t.l1, t.l2, t.l3⟩
theorem HoF.put1 {w W : World} {m : Md} {A : Option Addr} {l a b : List Int} {V X c h F : Nat} {q0 q1 q2 q3 : Int} (t : HoF w m A l a b V X c h F q0 q1 q2 q3 W) (x y : Int) : HoF w m A l a b V X c h F q0 q1 x y ((W.setCell ⟨F, 2, none⟩ (.int .i64 x)).setCell ⟨F, 3, none⟩ (.int .i64 y)) :=
  ⟨HoF.sset (HoF.sset t.s t.f t.l1 t.l2 t.l3 _ _) (t.f.set_ _ _) t.l1 t.l2 t.l3 _ _, (t.f.set_ 2 (.int .i64 x)).set_ 3 (.int .i64 y), t.l1, t.l2, t.l3⟩
/-- What each operation of the region leaves. -/
def hooR (_w : World) (m : Md) (A : Option Addr) (c : Nat) (l : List Int) : Nat → Value → World → Prop
  | 0, v, _ => v = .agg #[.int .i64 m.rings, .int .i64 m.give, .int .i64 m.plo, .int .i64 m.phi, .int .i64 m.wlo, .int .i64 m.whi, .int .i64 m.st, .int .i64 m.shrink, .int .i64 m.skin, .int .i64 m.fill, .int .i64 m.gap, .int .i64 m.deep]
  | 1, v, _ => v = .int .i64 (checkM m)
  | 2, v, _ => v = .agg #[.int .i64 m.rings, .int .i64 m.give, .int .i64 m.plo, .int .i64 m.phi, .int .i64 m.wlo, .int .i64 m.whi, .int .i64 m.st, .int .i64 m.shrink, .int .i64 m.skin, .int .i64 m.fill, .int .i64 m.gap, .int .i64 m.deep]
  | 3, v, _ => v = .slice A l.length c
  | 4, v, _ => v = .int .i64 (planE m l)
  | 5, v, W => ∃ b, v = .slice (some ⟨b, 0, none⟩) 2 2 ∧ IntsIn W (some ⟨b, 0, none⟩) [checkM m, planE m l]
  | 6, v, _ => v = .int .i64 (orE [checkM m, planE m l])
  | 7, v, _ => v = .int .i64 (orE [checkM m, planE m l])
  | _, _, _ => True
theorem hooR_on (w : World) (m : Md) (A : Option Addr) (c : Nat) (l : List Int) : ∀ i, i < 8 → ∀ v W W', hooR w m A c l i v W → Below W.heap.size W W' → hooR w m A c l i v W' := by
  iterate 8 (refine all_succ ?_ ?_)
  · exact all_zero
  · exact fun _ _ _ h _ => h
  · exact fun _ _ _ h _ => h
  · exact fun _ _ _ h _ => h
  · exact fun _ _ _ h _ => h
  · exact fun _ _ _ h _ => h
  · rintro v W W' ⟨b, e, h⟩ hb; exact ⟨b, e, h.on hb⟩
  · exact fun _ _ _ h _ => h
  · exact fun _ _ _ h _ => h
set_option maxRecDepth 100000 in
set_option maxHeartbeats 8000000 in
theorem hollow_any {w : World} (m : Md) {A : Option Addr} {c : Nat} {l : List Int} (hp : IntsIn w A l) :
    Calls Try.prog 31 #[.agg #[.int .i64 m.rings, .int .i64 m.give, .int .i64 m.plo, .int .i64 m.phi, .int .i64 m.wlo, .int .i64 m.whi, .int .i64 m.st, .int .i64 m.shrink, .int .i64 m.skin, .int .i64 m.fill, .int .i64 m.gap, .int .i64 m.deep], .slice A l.length c] w fun e w' => e = .returned (.tuple #[.agg #[.int .i64 (hollR m l).1.1.1, .int .i64 (hollR m l).1.1.2, .int .i64 (hollR m l).1.2.1, .int .i64 (hollR m l).1.2.2], .int .i64 (hollR m l).2]) ∧ Below w.heap.size w w' := by
  have HM : Hid (HoB w m A c l ((w.alloc (.cells #[.int .i64 m.rings, .int .i64 m.give, .int .i64 m.plo, .int .i64 m.phi, .int .i64 m.wlo, .int .i64 m.whi, .int .i64 m.st, .int .i64 m.shrink, .int .i64 m.skin, .int .i64 m.fill, .int .i64 m.gap, .int .i64 m.deep] 25)).alloc (.cells #[.int .i64 0, .int .i64 0, .int .i64 0, .int .i64 0] 45))) := by
    have hb0 : Below w.heap.size w ((w.alloc (.cells #[.int .i64 m.rings, .int .i64 m.give, .int .i64 m.plo, .int .i64 m.phi, .int .i64 m.wlo, .int .i64 m.whi, .int .i64 m.st, .int .i64 m.shrink, .int .i64 m.skin, .int .i64 m.fill, .int .i64 m.gap, .int .i64 m.deep] 25)).alloc (.cells #[.int .i64 0, .int .i64 0, .int .i64 0, .int .i64 0] 45)) := ((Below.refl _ w).alloc (Nat.le_refl _) _).alloc (by simp) _
    exact ⟨(Blk.new w _ _).alloc _, Blk.new1 w _ _ _, (RowAt.below hp.at_ hb0 (Nat.le_refl _)), hp.len, hb0⟩
  clear hp
  go_enter Try.func31, Try.ntmps31
  go_wp2_with fail
  refine wp_region_spec (by kernel_rfl) 8 (by kernel_rfl) (fun u => ⟨#[.agg #[.int .i64 m.rings, .int .i64 m.give, .int .i64 m.plo, .int .i64 m.phi, .int .i64 m.wlo, .int .i64 m.whi, .int .i64 m.st, .int .i64 m.shrink, .int .i64 m.skin, .int .i64 m.fill, .int .i64 m.gap, .int .i64 m.deep], .slice A l.length c, .pointer (some ⟨w.heap.size, 0, none⟩), undef, .pointer (some ⟨w.heap.size + 1, 0, none⟩), .int .i64 0, u 7, undef, undef, undef, undef, undef, u 0, u 1, u 2, u 3, u 4, u 5, u 6, undef, undef, undef, undef, undef, undef, undef, undef, undef, undef, undef, undef, undef, undef, undef, undef, undef, undef, undef, undef, undef, undef, undef, undef, undef, undef, undef, undef, undef, undef, undef, undef, undef, undef, undef, undef, undef, undef, undef], []⟩) (fun _ => undef) (fun W => Hid (HoB w m A c l W)) (hooR w m A c l) (by kernel_rfl) (HM.out.on (Below.refl _ _).drew) (fun i v W W2 hi h hb => hooR_on w m A c l i hi v W W2 h hb) (by decide +kernel) ?_ ?_
  · iterate 8 (refine all_succ ?_ ?_)
    · exact all_zero
    · intro u W hB _ hd _ K hK
      have HK := Lib.hid hK; clear hK
      refine wpOp_of rfl (by rfl) ?_
      obtain ⟨x0, x1, x2, x3, x4, x5, x6, x7, x8, x9, x10, x11⟩ := (MdBk.cells ⟨hB.out.b0, hB.out.b⟩)
      go_simp
      exact k_of (HK.out (.agg #[.int .i64 m.rings, .int .i64 m.give, .int .i64 m.plo, .int .i64 m.phi, .int .i64 m.wlo, .int .i64 m.whi, .int .i64 m.st, .int .i64 m.shrink, .int .i64 m.skin, .int .i64 m.fill, .int .i64 m.gap, .int .i64 m.deep]) _ rfl hB (Below.refl _ _)) (by kernel_rfl)
    · intro u W hB _ hd _ K hK
      have HK := Lib.hid hK; clear hK
      have e0 : u 0 = .agg #[.int .i64 m.rings, .int .i64 m.give, .int .i64 m.plo, .int .i64 m.phi, .int .i64 m.wlo, .int .i64 m.whi, .int .i64 m.st, .int .i64 m.shrink, .int .i64 m.skin, .int .i64 m.fill, .int .i64 m.gap, .int .i64 m.deep] := hd 0 (by decide +kernel)
      refine wpOp_of rfl (by rfl) ?_
      go_simp
      refine (check_any m _).mono ?_
      rintro e w' ⟨rfl, hb⟩
      exact k_of (HK.out (.int .i64 (checkM m)) _ rfl (hB.out.on hb) hb) (by rw [← u1_eq e0]; kernel_rfl)
    · intro u W hB _ hd _ K hK
      have HK := Lib.hid hK; clear hK
      refine wpOp_of rfl (by rfl) ?_
      obtain ⟨x0, x1, x2, x3, x4, x5, x6, x7, x8, x9, x10, x11⟩ := (MdBk.cells ⟨hB.out.b0, hB.out.b⟩)
      go_simp
      exact k_of (HK.out (.agg #[.int .i64 m.rings, .int .i64 m.give, .int .i64 m.plo, .int .i64 m.phi, .int .i64 m.wlo, .int .i64 m.whi, .int .i64 m.st, .int .i64 m.shrink, .int .i64 m.skin, .int .i64 m.fill, .int .i64 m.gap, .int .i64 m.deep]) _ rfl hB (Below.refl _ _)) (by kernel_rfl)
    · intro u W hB _ hd _ K hK
      have HK := Lib.hid hK; clear hK
      refine wpOp_of rfl (by rfl) ?_
      go_simp
      exact k_of (HK.out (.slice A l.length c) _ rfl hB (Below.refl _ _)) (by kernel_rfl)
    · intro u W hB _ hd _ K hK
      have HK := Lib.hid hK; clear hK
      have e2 : u 2 = .agg #[.int .i64 m.rings, .int .i64 m.give, .int .i64 m.plo, .int .i64 m.phi, .int .i64 m.wlo, .int .i64 m.whi, .int .i64 m.st, .int .i64 m.shrink, .int .i64 m.skin, .int .i64 m.fill, .int .i64 m.gap, .int .i64 m.deep] := hd 2 (by decide +kernel)
      have e3 : u 3 = .slice A l.length c := hd 3 (by decide +kernel)
      refine wpOp_of rfl (by rfl) ?_
      go_simp
      refine (plan_any m hB.out.p).mono ?_
      rintro e w' ⟨rfl, hb⟩
      exact k_of (HK.out (.int .i64 (planE m l)) _ rfl (hB.out.on hb) hb) (by rw [← u1_eq e2, ← u1_eq e3]; kernel_rfl)
    · intro u W hB _ hd _ K hK
      have HK := Lib.hid hK; clear hK
      have e1 : u 1 = .int .i64 (checkM m) := hd 1 (by decide +kernel)
      have e4 : u 4 = .int .i64 (planE m l) := hd 4 (by decide +kernel)
      refine wpOp_of rfl (by rfl) ?_
      go_simp
      exact k_of (HK.out (.slice (some ⟨W.heap.size, 0, none⟩) 2 2) _ ⟨_, rfl, ints_blk (Blk.new _ _ _) rfl (by simp)⟩ (hB.out.on ((Below.refl _ W).alloc (Nat.le_refl _) _)) ((Below.refl _ W).alloc (Nat.le_refl _) _)) (by rw [← u1_eq e1, ← u1_eq e4]; kernel_rfl)
    · intro u W hB _ hd _ K hK
      have HK := Lib.hid hK; clear hK
      obtain ⟨b5, e5, k5⟩ : hooR w m A c l 5 (u 5) W := hd 5 (by decide +kernel)
      refine wpOp_of rfl (by rfl) ?_
      go_simp
      refine (or_any (c := 2) k5).mono ?_
      rintro e w' ⟨rfl, hw'⟩
      subst hw'
      exact k_of (HK.out (.int .i64 (orE [checkM m, planE m l])) _ rfl hB (Below.refl _ _)) (by rw [← u1_eq e5]; kernel_rfl)
    · intro u W hB _ hd _ K hK
      have HK := Lib.hid hK; clear hK
      have e6 : u 6 = .int .i64 (orE [checkM m, planE m l]) := hd 6 (by decide +kernel)
      refine wpOp_of rfl (by rfl) ?_
      go_simp
      exact k_of (HK.out (.int .i64 (orE [checkM m, planE m l])) _ rfl hB (Below.refl _ _)) (by rw [← u1_eq e6]; kernel_rfl)
  · intro u W hB hd
    have e7 : u 7 = .int .i64 (orE [checkM m, planE m l]) := hd 7 (by decide)
    clear hd
    have g0 := hB.out.b1.frozen 0
    have g1 := hB.out.b1.frozen 1
    have g2 := hB.out.b1.frozen 2
    have g3 := hB.out.b1.frozen 3
    have r0 := hB.out.b1.cell 0
    have r1 := hB.out.b1.cell 1
    have r2 := hB.out.b1.cell 2
    have r3 := hB.out.b1.cell 3
    by_cases hE : orE [checkM m, planE m l] = 0
    · obtain ⟨hok, hpe⟩ := holl_ok hE
      have hkr := kR_eq hok.toMdIn
      have hk8 := (kR_le hok.toMdIn).2
      have hla := wh_length m false
      have hlb := wh_length m true
      have HE := Lib.hid (fun (W : World) => ends_wh (w := W) hok.toMdIn)
      have HRN := Lib.hid (fun (b : List Int) (hb : wh m true = b) => hollR_never (l := l) hok hpe hb)
      have HRS := Lib.hid (fun (a b : List Int) (ha : wh m false = a) (hb : wh m true = b) => hollR_shut (l := l) hok hpe ha hb)
      have HRG := Lib.hid (fun (a b : List Int) (ha : wh m false = a) (hb : wh m true = b) => hollR_good (l := l) hok hpe ha hb)
      have HOR := Lib.hid (fun (a b : List Int) (ha : wh m false = a) (hb : wh m true = b) => holl_order (l := l) hok.toMdIn (wh_ab hok ha hb))
      have hba := wh_bef m false
      have hbb := wh_bef m true
      obtain ⟨a, ha⟩ : ∃ a, wh m false = a := ⟨_, rfl⟩
      obtain ⟨b, hb⟩ : ∃ b, wh m true = b := ⟨_, rfl⟩
      have HN2 := Lib.hid (HRN.out b hb)
      have HS2 := Lib.hid (HRS.out a b ha hb)
      have HG2 := Lib.hid (HRG.out a b ha hb)
      have HO2 := Lib.hid (HOR.out a b ha hb)
      rw [ha] at hla HE hba
      rw [hb] at hlb HE hbb
      have HPL := Lib.hid (plOk_of hok.toMdIn hpe)
      clear HRN HRS HRG HOR ha hb
      rw [hE] at e7
      clear hE
      obtain ⟨c0, c1, c2, c3, c4, c5, c6, c7, c8, c9, c10, c11⟩ := (MdBk.cells ⟨hB.out.b0, hB.out.b⟩)
      have hw1 : w.heap.size + 1 < W.heap.size := hB.out.b1.lt
      clear g0 g1 g2 g3 r0 r1 r2 r3
      cases hnb : never b with
      | true =>
        have HR := Lib.hid (HN2.out hnb)
        clear HS2 HG2 HN2
        go_simp
        go_wp2_with (first
          | (go_at_call 64; refine (HE.out _).mono ?_; rintro e w2 ⟨cm, hm, rfl, hc, hh, hb2⟩; clear c0 c1 c2 c3 c4 c5 c6 c7 c8 c9 c10 c11; have HB1 := Lib.hid ((hB.out.on ((Below.refl _ W).alloc (Nat.le_refl _) (.cells #[.int .i64 m.rings, .int .i64 m.give, .int .i64 m.plo, .int .i64 m.phi, .int .i64 m.wlo, .int .i64 m.whi, .int .i64 m.st, .int .i64 m.shrink, .int .i64 m.skin, .int .i64 m.fill, .int .i64 m.gap, .int .i64 m.deep] 88))).on hb2); have hV2 := (Blk.new W 88 #[.int .i64 m.rings, .int .i64 m.give, .int .i64 m.plo, .int .i64 m.phi, .int .i64 m.wlo, .int .i64 m.whi, .int .i64 m.st, .int .i64 m.shrink, .int .i64 m.skin, .int .i64 m.fill, .int .i64 m.gap, .int .i64 m.deep]).on hb2; have HSS : Hid (HoS w m A l a b W.heap.size w2.heap.size cm hm (w2.alloc (.cells #[.map (some cm), .map (some hm)] 106))) := ⟨HB1.out.b1.alloc _, ⟨hV2.alloc _, HB1.out.b.alloc HB1.out.b.size _⟩, Blk.new _ _ _, RowAt.below HB1.out.pt ((Below.refl _ w2).alloc (Nat.le_refl _) _) HB1.out.b.size, HB1.out.ln, hc.on ((Below.refl _ w2).alloc (Nat.le_refl _) _), hh.on ((Below.refl _ w2).alloc (Nat.le_refl _) _)⟩; have hvl := hV2.lt; obtain ⟨c0, c1, c2, c3, c4, c5, c6, c7, c8, c9, c10, c11⟩ := (MdBk.cells (w := w2) ⟨hV2, Below.refl _ _⟩); clear hc hh hb2 HB1 hV2)
          | (go_at_call 66; refine (complete_any (b := cm) hok.toMdIn hlb HSS.out.mh).mono ?_; rw [never_all, hnb]; rintro e w4 ⟨rfl, hb4⟩; have HS4 := Lib.hid (HSS.out.on hb4); clear c0 c1 c2 c3 c4 c5 c6 c7 c8 c9 c10 c11; obtain ⟨c0, c1, c2, c3, c4, c5, c6, c7, c8, c9, c10, c11⟩ := HS4.out.v.cells; have d0 := HS4.out.x.cell 0; have d1 := HS4.out.x.cell 1; have hv4 := HS4.out.v.bk.lt; have hx4 := HS4.out.x.lt; have hr4 := HS4.out.r.lt; have g0 := HS4.out.r.frozen 0; have g1 := HS4.out.r.frozen 1; have g2 := HS4.out.r.frozen 2; have g3 := HS4.out.r.frozen 3; have r0 := HS4.out.r.cell 0; have r1 := HS4.out.r.cell 1; have r2 := HS4.out.r.cell 2; have r3 := HS4.out.r.cell 3; clear hb4 HSS)
          | fail)
        refine bodyPost_ret (v := .tuple #[.agg #[.int .i64 0, .int .i64 0, .int .i64 0, .int .i64 0], .int .i64 9]) ?_ rfl ⟨by rw [HR.out], ?_⟩
        · obtain ⟨s0, s1, s2, s3⟩ := end4 rfl HS4.out.r 0 0 0 0
          simp [results, Try.results31, go_sem, s0, s1, s2, s3]
        · exact below_set (below_set (below_set (below_set HS4.out.v.b (by omega)) (by omega)) (by omega)) (by omega)
      | false =>
        cases hsh : l.any (shut m a) with
        | true =>
          have HR := Lib.hid (HS2.out hnb hsh)
          clear HS2 HG2 HN2
          go_simp
          go_wp2_with (first
            | (go_at_call 64; refine (HE.out _).mono ?_; rintro e w2 ⟨cm, hm, rfl, hc, hh, hb2⟩; clear c0 c1 c2 c3 c4 c5 c6 c7 c8 c9 c10 c11; have HB1 := Lib.hid ((hB.out.on ((Below.refl _ W).alloc (Nat.le_refl _) (.cells #[.int .i64 m.rings, .int .i64 m.give, .int .i64 m.plo, .int .i64 m.phi, .int .i64 m.wlo, .int .i64 m.whi, .int .i64 m.st, .int .i64 m.shrink, .int .i64 m.skin, .int .i64 m.fill, .int .i64 m.gap, .int .i64 m.deep] 88))).on hb2); have hV2 := (Blk.new W 88 #[.int .i64 m.rings, .int .i64 m.give, .int .i64 m.plo, .int .i64 m.phi, .int .i64 m.wlo, .int .i64 m.whi, .int .i64 m.st, .int .i64 m.shrink, .int .i64 m.skin, .int .i64 m.fill, .int .i64 m.gap, .int .i64 m.deep]).on hb2; have HSS : Hid (HoS w m A l a b W.heap.size w2.heap.size cm hm (w2.alloc (.cells #[.map (some cm), .map (some hm)] 106))) := ⟨HB1.out.b1.alloc _, ⟨hV2.alloc _, HB1.out.b.alloc HB1.out.b.size _⟩, Blk.new _ _ _, RowAt.below HB1.out.pt ((Below.refl _ w2).alloc (Nat.le_refl _) _) HB1.out.b.size, HB1.out.ln, hc.on ((Below.refl _ w2).alloc (Nat.le_refl _) _), hh.on ((Below.refl _ w2).alloc (Nat.le_refl _) _)⟩; have hvl := hV2.lt; obtain ⟨c0, c1, c2, c3, c4, c5, c6, c7, c8, c9, c10, c11⟩ := (MdBk.cells (w := w2) ⟨hV2, Below.refl _ _⟩); clear hc hh hb2 HB1 hV2)
            | (go_at_call 66; refine (complete_any (b := cm) hok.toMdIn hlb HSS.out.mh).mono ?_; rw [never_all, hnb]; rintro e w4 ⟨rfl, hb4⟩; have HS4 := Lib.hid (HSS.out.on hb4); clear c0 c1 c2 c3 c4 c5 c6 c7 c8 c9 c10 c11; obtain ⟨c0, c1, c2, c3, c4, c5, c6, c7, c8, c9, c10, c11⟩ := HS4.out.v.cells; have d0 := HS4.out.x.cell 0; have d1 := HS4.out.x.cell 1; have hv4 := HS4.out.v.bk.lt; have hx4 := HS4.out.x.lt; have hr4 := HS4.out.r.lt; have g0 := HS4.out.r.frozen 0; have g1 := HS4.out.r.frozen 1; have g2 := HS4.out.r.frozen 2; have g3 := HS4.out.r.frozen 3; have r0 := HS4.out.r.cell 0; have r1 := HS4.out.r.cell 1; have r2 := HS4.out.r.cell 2; have r3 := HS4.out.r.cell 3; clear hb4 HSS)
            | (go_at_call 75; refine (closed_any2 (m := m) (b := cm) (c := hm) _).mono ?_; rintro e w5 ⟨V5, rfl, hb5, hk1, hk2⟩; have HS5 := Lib.hid (HS4.out.on hb5); have HCC := Lib.hid (contC_any (c := c) hk2 hk1 HS5.out.mc (by omega) HS5.out.p); clear hb5 hk1 hk2 HS4)
            | (go_at_call 74; refine HCC.out.mono ?_; rw [hsh]; rintro e w6 ⟨rfl, hb6⟩; have HS6 := Lib.hid (HS5.out.on hb6); clear c0 c1 c2 c3 c4 c5 c6 c7 c8 c9 c10 c11; obtain ⟨c0, c1, c2, c3, c4, c5, c6, c7, c8, c9, c10, c11⟩ := HS6.out.v.cells; have d0 := HS6.out.x.cell 0; have d1 := HS6.out.x.cell 1; have hv4 := HS6.out.v.bk.lt; have hx4 := HS6.out.x.lt; have hr4 := HS6.out.r.lt; have g0 := HS6.out.r.frozen 0; have g1 := HS6.out.r.frozen 1; have g2 := HS6.out.r.frozen 2; have g3 := HS6.out.r.frozen 3; have r0 := HS6.out.r.cell 0; have r1 := HS6.out.r.cell 1; have r2 := HS6.out.r.cell 2; have r3 := HS6.out.r.cell 3; clear hb6 HS5 HCC)
            | fail)
          refine bodyPost_ret (v := .tuple #[.agg #[.int .i64 0, .int .i64 0, .int .i64 0, .int .i64 0], .int .i64 9]) ?_ rfl ⟨by rw [HR.out], ?_⟩
          · obtain ⟨s0, s1, s2, s3⟩ := end4 rfl HS6.out.r 0 0 0 0
            simp [results, Try.results31, go_sem, s0, s1, s2, s3]
          · exact below_set (below_set (below_set (below_set HS6.out.v.b (by omega)) (by omega)) (by omega)) (by omega)
        | false =>
          have HR := Lib.hid (HG2.out hnb hsh)
          have HO := Lib.hid (HO2.out hla hlb hnb hba hbb)
          clear HS2 HG2 HN2 HO2
          go_simp
          go_wp2_with (first
            | (go_at_call 64; refine (HE.out _).mono ?_; rintro e w2 ⟨cm, hm, rfl, hc, hh, hb2⟩; clear c0 c1 c2 c3 c4 c5 c6 c7 c8 c9 c10 c11; have HB1 := Lib.hid ((hB.out.on ((Below.refl _ W).alloc (Nat.le_refl _) (.cells #[.int .i64 m.rings, .int .i64 m.give, .int .i64 m.plo, .int .i64 m.phi, .int .i64 m.wlo, .int .i64 m.whi, .int .i64 m.st, .int .i64 m.shrink, .int .i64 m.skin, .int .i64 m.fill, .int .i64 m.gap, .int .i64 m.deep] 88))).on hb2); have hV2 := (Blk.new W 88 #[.int .i64 m.rings, .int .i64 m.give, .int .i64 m.plo, .int .i64 m.phi, .int .i64 m.wlo, .int .i64 m.whi, .int .i64 m.st, .int .i64 m.shrink, .int .i64 m.skin, .int .i64 m.fill, .int .i64 m.gap, .int .i64 m.deep]).on hb2; have HSS : Hid (HoS w m A l a b W.heap.size w2.heap.size cm hm (w2.alloc (.cells #[.map (some cm), .map (some hm)] 106))) := ⟨HB1.out.b1.alloc _, ⟨hV2.alloc _, HB1.out.b.alloc HB1.out.b.size _⟩, Blk.new _ _ _, RowAt.below HB1.out.pt ((Below.refl _ w2).alloc (Nat.le_refl _) _) HB1.out.b.size, HB1.out.ln, hc.on ((Below.refl _ w2).alloc (Nat.le_refl _) _), hh.on ((Below.refl _ w2).alloc (Nat.le_refl _) _)⟩; have hvl := hV2.lt; obtain ⟨c0, c1, c2, c3, c4, c5, c6, c7, c8, c9, c10, c11⟩ := (MdBk.cells (w := w2) ⟨hV2, Below.refl _ _⟩); clear hc hh hb2 HB1 hV2)
            | (go_at_call 66; refine (complete_any (b := cm) hok.toMdIn hlb HSS.out.mh).mono ?_; rw [never_all, hnb]; rintro e w4 ⟨rfl, hb4⟩; have HS4 := Lib.hid (HSS.out.on hb4); clear c0 c1 c2 c3 c4 c5 c6 c7 c8 c9 c10 c11; obtain ⟨c0, c1, c2, c3, c4, c5, c6, c7, c8, c9, c10, c11⟩ := HS4.out.v.cells; have d0 := HS4.out.x.cell 0; have d1 := HS4.out.x.cell 1; have hv4 := HS4.out.v.bk.lt; have hx4 := HS4.out.x.lt; have hr4 := HS4.out.r.lt; have g0 := HS4.out.r.frozen 0; have g1 := HS4.out.r.frozen 1; have g2 := HS4.out.r.frozen 2; have g3 := HS4.out.r.frozen 3; have r0 := HS4.out.r.cell 0; have r1 := HS4.out.r.cell 1; have r2 := HS4.out.r.cell 2; have r3 := HS4.out.r.cell 3; clear hb4 HSS)
            | (go_at_call 75; refine (closed_any2 (m := m) (b := cm) (c := hm) _).mono ?_; rintro e w5 ⟨V5, rfl, hb5, hk1, hk2⟩; have HS5 := Lib.hid (HS4.out.on hb5); have HCC := Lib.hid (contC_any (c := c) hk2 hk1 HS5.out.mc (by omega) HS5.out.p); clear hb5 hk1 hk2 HS4)
            | (go_at_call 74; refine HCC.out.mono ?_; rw [hsh]; rintro e w6 ⟨rfl, hb6⟩; have HS6 := Lib.hid (HS5.out.on hb6); clear c0 c1 c2 c3 c4 c5 c6 c7 c8 c9 c10 c11; obtain ⟨c0, c1, c2, c3, c4, c5, c6, c7, c8, c9, c10, c11⟩ := HS6.out.v.cells; have d0 := HS6.out.x.cell 0; have d1 := HS6.out.x.cell 1; have hv4 := HS6.out.v.bk.lt; have hx4 := HS6.out.x.lt; have hr4 := HS6.out.r.lt; have g0 := HS6.out.r.frozen 0; have g1 := HS6.out.r.frozen 1; have g2 := HS6.out.r.frozen 2; have g3 := HS6.out.r.frozen 3; have r0 := HS6.out.r.cell 0; have r1 := HS6.out.r.cell 1; have r2 := HS6.out.r.cell 2; have r3 := HS6.out.r.cell 3; clear hb6 HS5 HCC)
            | fail)
          have HF0 : Hid (HoF w m A l a b W.heap.size w2.heap.size cm hm w6.heap.size 0 0 0 0 (w6.alloc (.cells #[.int .i64 0, .int .i64 0, .int .i64 0, .int .i64 0] 121))) :=
            ⟨HS6.out.on ((Below.refl _ w6).alloc (Nat.le_refl _) _), Blk.new _ _ _, hr4, hv4, hx4⟩
          have i0 : ∀ W', (Instr.index 106 (.agg #[.map (some cm), .map (some hm)]) (.int .i64 0)).run Try.prog W' = .ok (.map (some cm)) W' := fun _ => by kernel_rfl
          have i1 : ∀ W', (Instr.index 106 (.agg #[.map (some cm), .map (some hm)]) (.int .i64 1)).run Try.prog W' = .ok (.map (some hm)) W' := fun _ => by kernel_rfl
          clear c0 c1 c2 c3 c4 c5 c6 c7 c8 c9 c10 c11 d0 d1 g0 g1 g2 g3 r0 r1 r2 r3 HS6 hvl
          generalize hV : W.heap.size = V at *
          generalize hX : w2.heap.size = X at *
          generalize hF : w6.heap.size = F at *
          clear hV hX hF hv4 hx4 hr4 HE hB HM
          have HHP := Lib.hid HPL.out.1
          have HOK := Lib.hid hok
          go_loopw [42] (fun i W' => ∃ q0 q1 q2 q3 : Int, Hid (HoF w m A l a b V X cm hm F q0 q1 q2 q3 W') ∧ ((i = .int .i64 0) ∨ (i = .int .i64 1 ∧ q0 = hollM m a l ∧ q1 = pourM m a l) ∨ (i = .int .i64 2 ∧ q0 = hollM m a l ∧ q1 = pourM m a l ∧ q2 = hollM m b l ∧ q3 = pourM m b l))) (fun i _ => 2 - (intOf i).toNat)
          case atStart => exact ⟨0, 0, 0, 0, HF0, .inl rfl⟩
          case round =>
            obtain ⟨q0, q1, q2, q3, HF, hcs⟩ := hrel
            clear HF0
            obtain ⟨c0, c1, c2, c3, c4, c5, c6, c7, c8, c9, c10, c11⟩ := HF.out.s.v.cells
            have hlV := HF.out.s.v.bk.lt
            have hlF := HF.out.f.lt
            rcases hcs with rfl | ⟨rfl, e0, e1⟩ | ⟨rfl, e0, e1, e2, e3⟩
            · have HT := Lib.hid (top_any (c := c) HOK.out.toMdIn hla HF.out.s.mc HHP.out HF.out.s.p)
              go_wp2_with (first
                | (go_at_call 76; refine HT.out.mono ?_; rintro e w7 ⟨rfl, hb7⟩; have HF7 := Lib.hid (HF.out.on hb7); have z0 := HF7.out.f.cell 0; have z1 := HF7.out.f.cell 1; have y0 := HF7.out.f.frozen 0; have y1 := HF7.out.f.frozen 1; have hl7 := HF7.out.f.lt; clear hb7)
                | fail)
              go_roundw
              case rel => exact ⟨_, _, _, _, HF7.out.put0 _ _, .inr (.inl ⟨rfl, rfl, rfl⟩)⟩
              case measure => decide
            · subst e0 e1
              have HT := Lib.hid (top_any (c := c) HOK.out.toMdIn hlb HF.out.s.mh HHP.out HF.out.s.p)
              go_wp2_with (first
                | (go_at_call 76; refine HT.out.mono ?_; rintro e w7 ⟨rfl, hb7⟩; have HF7 := Lib.hid (HF.out.on hb7); have z2 := HF7.out.f.cell 2; have z3 := HF7.out.f.cell 3; have y2 := HF7.out.f.frozen 2; have y3 := HF7.out.f.frozen 3; have hl7 := HF7.out.f.lt; clear hb7)
                | fail)
              go_roundw
              case rel => exact ⟨_, _, _, _, HF7.out.put1 _ _, .inr (.inr ⟨rfl, rfl, rfl, rfl, rfl⟩)⟩
              case measure => decide
            · subst e0 e1 e2 e3
              have HS1 := Lib.hid (fun W' => spanF1_any (h1 := hollM m a l) (p1 := pourM m a l) (h2 := hollM m b l) (p2 := pourM m b l) (r1 := hollM m a l) (r2 := hollM m b l) W' (.inl ⟨HO.out.1, rfl, rfl⟩))
              have HS2 := Lib.hid (fun W' => spanF2_any (h1 := hollM m a l) (p1 := pourM m a l) (h2 := hollM m b l) (p2 := pourM m b l) (r1 := pourM m b l) (r2 := pourM m a l) W' (.inr ⟨HO.out.2, rfl, rfl⟩))
              clear c0 c1 c2 c3 c4 c5 c6 c7 c8 c9 c10 c11 hlV
              have x0 := HF.out.f.cell 0
              have x1 := HF.out.f.cell 1
              have x2 := HF.out.f.cell 2
              have x3 := HF.out.f.cell 3
              generalize hollM m a l = ha at *
              generalize hollM m b l = hb at *
              generalize pourM m a l = pa at *
              generalize pourM m b l = pb at *
              have LAST := Lib.hid (HF.out.on (Below.refl _ _).drew)
              go_wp2_with fail
              go_region_law (first
                | (go_simp; (with_reducible refine (HS1.out _).mono ?_); rintro e w8 ⟨rfl, hb8⟩; have NEW := Lib.hid (LAST.out.on hb8); clear LAST; have LAST := NEW; clear NEW; have x0 := LAST.out.f.cell 0; have x1 := LAST.out.f.cell 1; have x2 := LAST.out.f.cell 2; have x3 := LAST.out.f.cell 3; have hr4 := LAST.out.s.r.lt; have g0 := LAST.out.s.r.frozen 0; have g1 := LAST.out.s.r.frozen 1; have g2 := LAST.out.s.r.frozen 2; have g3 := LAST.out.s.r.frozen 3; have r0 := LAST.out.s.r.cell 0; have r1 := LAST.out.s.r.cell 1; have r2 := LAST.out.s.r.cell 2; have r3 := LAST.out.s.r.cell 3; clear hb8)
                | (go_simp; (with_reducible refine (HS2.out _).mono ?_); rintro e w9 ⟨rfl, hb9⟩; have NEW := Lib.hid (LAST.out.on hb9); clear LAST; have LAST := NEW; clear NEW; have x0 := LAST.out.f.cell 0; have x1 := LAST.out.f.cell 1; have x2 := LAST.out.f.cell 2; have x3 := LAST.out.f.cell 3; have hr4 := LAST.out.s.r.lt; have g0 := LAST.out.s.r.frozen 0; have g1 := LAST.out.s.r.frozen 1; have g2 := LAST.out.s.r.frozen 2; have g3 := LAST.out.s.r.frozen 3; have r0 := LAST.out.s.r.cell 0; have r1 := LAST.out.s.r.cell 1; have r2 := LAST.out.s.r.cell 2; have r3 := LAST.out.s.r.cell 3; clear hb9)
                | fail)
              all_goals go_wp2_with fail
              all_goals (obtain ⟨s0, s1, s2, s3⟩ := end4 rfl LAST.out.s.r ha hb pb pa)
              all_goals (refine bodyPost_ret (v := .tuple #[.agg #[.int .i64 ha, .int .i64 hb, .int .i64 pb, .int .i64 pa], .int .i64 0]) (by simp [results, Try.results31, go_sem, s0, s1, s2, s3]) rfl ⟨by rw [HR.out], ?_⟩)
              all_goals (exact below_set (below_set (below_set (below_set LAST.out.s.v.b (by omega)) (by omega)) (by omega)) (by omega))
    · have hz : (orE [checkM m, planE m l] != 0) = true := by simpa using hE
      have HR := Lib.hid (hollR_err hE)
      generalize orE [checkM m, planE m l] = z at *
      go_simp
      go_wp2_with fail
      refine bodyPost_ret (v := .tuple #[.agg #[.int .i64 0, .int .i64 0, .int .i64 0, .int .i64 0], .int .i64 z]) ?_ rfl ⟨by rw [HR.out], ?_⟩
      · obtain ⟨s0, s1, s2, s3⟩ := end4 rfl hB.out.b1 0 0 0 0
        simp [results, Try.results31, go_sem, s0, s1, s2, s3]
      · exact below_set (below_set (below_set (below_set hB.out.b (by omega)) (by omega)) (by omega)) (by omega)
end Go.Proofs.Ytljbjcnfkbmjkaa
