/- ref.Warm: contract. -/
import Derived.Test.YtljbjcnfkbmjkaaMg2
import Derived.Test.YtljbjcnfkbmjkaaMg4
import Derived.Test.YtljbjcnfkbmjkaaMd6
import Derived.Test.YtljbjcnfkbmjkaaMgr
namespace Go.Proofs.Ytljbjcnfkbmjkaa
open Go.RowKit Go.Shelf
attribute [local go_sem] Oper.semAt_some

theorem all_rep {p : Int → Bool} {v : Int} (h : p v = true) : ∀ n : Nat, (List.replicate n v).all p = true
  | 0 => rfl
  | n + 1 => by rw [List.replicate_succ, List.all_cons, h, all_rep h n]; rfl
theorem same_truth {m : Md} (hm : MdOk m) (e : Bool) {n : Nat} (hn : n ≤ 600) : truthE m (samP m e) (samW m e n) = 0 := by
  have h1 := hm.pour
  have h2 := hm.wall
  unfold truthE
  rw [if_neg (by rw [samP_length, samW_length]; omega)]
  have e1 : (samP m e).all (fun x => inB x m.plo m.phi) = true := by
    unfold samP
    refine all_rep (p := fun x => inB x m.plo m.phi) (show inB (pourV m e) m.plo m.phi = true from inB_iff.2 ?_) _
    cases e <;> simp [pourV] <;> omega
  have e2 : (samW m e n).all (fun x => inB x m.wlo m.whi) = true := by
    unfold samW
    refine all_rep (p := fun x => inB x m.wlo m.whi) (show inB (wallV m e) m.wlo m.whi = true from inB_iff.2 ?_) _
    cases e <;> simp [wallV] <;> omega
  rw [if_pos e1, if_pos e2]
theorem same_cool {m : Md} (hm : MdOk m) (e : Bool) {n : Nat} (hn : n ≤ 600) : coolR m (samP m e) (samW m e n) = (warmL m e n, 0) := coolR_ok (checkM_ok.2 hm) (same_truth hm e hn)
/-- What lies in memory while the ranges are listed. -/
structure RwB (w : World) (m : Md) (A1 A2 : Option Addr) (ca ha : List Int) (B : Nat) (v : Value) (k : Nat) (W : World) : Prop where
  b0 : MdBk w w.heap.size 25 m W
  c : IntsAt W B A1 ca
  h : IntsAt W B A2 ha
  own : SpansOut B W v ((zipS ca ha).take k)
  lw : w.heap.size < B
  sz : B ≤ W.heap.size
theorem RwB.on {w W W' : World} {m : Md} {A1 A2 : Option Addr} {ca ha : List Int} {B : Nat} {v : Value} {k : Nat} (t : RwB w m A1 A2 ca ha B v k W) (hb : Below W.heap.size W W') : RwB w m A1 A2 ca ha B v k W' :=
  ⟨t.b0.on hb, RowAt.below t.c hb t.sz, RowAt.below t.h hb t.sz, own_below t.own hb, t.lw, Nat.le_trans t.sz hb.size⟩
theorem RwB.next {w W W' : World} {m : Md} {A1 A2 : Option Addr} {ca ha : List Int} {B : Nat} {v v' : Value} {k : Nat} (t : RwB w m A1 A2 ca ha B v k W) (hb : Below B W W') (hv : SpansOut B W' v' ((zipS ca ha).take (k + 1))) : RwB w m A1 A2 ca ha B v' (k + 1) W' :=
  ⟨⟨t.b0.bk.below hb t.lw, t.b0.b.trans (hb.mono (Nat.le_of_lt t.lw))⟩, RowAt.below t.c hb (Nat.le_refl _), RowAt.below t.h hb (Nat.le_refl _), hv, t.lw, Nat.le_trans t.sz hb.size⟩


set_option maxRecDepth 100000 in
set_option maxHeartbeats 8000000 in
theorem wm_r6 {Q : Exit → Act → World → Prop} {w W0 : World} {m : Md} {N : Nat} (hok : MdOk m) (hN : N ≤ 600) {s0 s3 s4 s5 s6 s7 s8 s9 s10 s11 s12 s13 s14 s15 s16 s17 s18 s19 s20 s21 s22 s23 s24 s25 s26 s27 s28 s29 s30 s31 s32 s33 s34 s35 s36 s37 s38 s39 s40 s41 s42 s43 s44 s45 s46 s47 s48 s49 s50 s51 s52 s53 s54 s55 s56 s57 s58 s59 : Value} (HB : Hid (MdBk w w.heap.size 25 m W0))
    (HQ : Hid (∀ (u25 u26 u27 u28 u29 u30 u31 u32 : Value) (A : Option Addr) (c : Nat) (W : World), Below W0.heap.size W0 W → IntsIn W A (warmL m false N) → Q .normal ⟨#[s0, .int .i64 (N : Int), .pointer (some ⟨w.heap.size, 0, none⟩), s3, s4, s5, s6, .slice A (warmL m false N).length c, .int .i64 0, s9, s10, s11, s12, s13, s14, s15, s16, s17, s18, s19, s20, s21, s22, s23, s24, u25, u26, u27, u28, u29, u30, u31, u32, s33, s34, s35, s36, s37, s38, s39, s40, s41, s42, s43, s44, s45, s46, s47, s48, s49, s50, s51, s52, s53, s54, s55, s56, s57, s58, s59], []⟩ W)) :
    Code.wp Try.prog ((Try.f24.body.bind (regionAt 6)).getD .skip) Q ⟨#[s0, .int .i64 (N : Int), .pointer (some ⟨w.heap.size, 0, none⟩), s3, s4, s5, s6, s7, s8, s9, s10, s11, s12, s13, s14, s15, s16, s17, s18, s19, s20, s21, s22, s23, s24, s25, s26, s27, s28, s29, s30, s31, s32, s33, s34, s35, s36, s37, s38, s39, s40, s41, s42, s43, s44, s45, s46, s47, s48, s49, s50, s51, s52, s53, s54, s55, s56, s57, s58, s59], []⟩ W0 := by
  have HS := Lib.hid (fun W => rsame_any m hok.toMdIn false N hN W)
  have HK := Lib.hid (fun (W : World) (A1 A2 : Option Addr) (d1 d2 : Nat) (h1 : IntsIn W A1 (samP m false)) (h2 : IntsIn W A2 (samW m false N)) => rcool_any (c1 := d1) (c2 := d2) m h1 h2)
  rw [same_cool hok false hN] at HK
  simp only [samP_length, samW_length] at HS HK
  conv => arg 2; whnf
  have LAST : Hid (Below W0.heap.size W0 W0.drew) := Lib.hid ((Below.refl _ _).drew)
  obtain ⟨c0, c1, c2, c3, c4, c5, c6, c7, c8, c9, c10, c11⟩ := (HB.out.on LAST.out).cells
  refine wp_region_noPanic ?_
  go_region_law (first
    | (go_simp; (with_reducible refine (HS.out _).mono ?_); rintro e wa ⟨B1, d1, B2, d2, rfl, i1, i2, hb⟩; have NEW : Hid (Below W0.heap.size W0 wa) := LAST.out.trans (hb.mono LAST.out.size); clear LAST; have LAST := NEW; clear NEW hb c0 c1 c2 c3 c4 c5 c6 c7 c8 c9 c10 c11; obtain ⟨c0, c1, c2, c3, c4, c5, c6, c7, c8, c9, c10, c11⟩ := (HB.out.on LAST.out).cells)
    | (go_simp; (with_reducible refine (HK.out _ _ _ _ _ i1 i2).mono ?_); rintro e wb ⟨v1, rfl, hv1, hb⟩; obtain ⟨A3, c3, rfl, i3⟩ := hv1.in_; have NEW : Hid (Below W0.heap.size W0 wb) := LAST.out.trans (hb.mono LAST.out.size); clear LAST; have LAST := NEW; clear NEW hb)
    | fail)
  all_goals exact NoPanic.normal (HQ.out _ _ _ _ _ _ _ _ _ _ _ LAST.out i3)

set_option maxRecDepth 100000 in
set_option maxHeartbeats 8000000 in
theorem wm_r7 {Q : Exit → Act → World → Prop} {w W0 : World} {m : Md} {N : Nat} (hok : MdOk m) (hN : N ≤ 600) {s0 s3 s4 s5 s6 s7 s8 s9 s10 s11 s12 s13 s14 s15 s16 s17 s18 s19 s20 s21 s22 s23 s24 s25 s26 s27 s28 s29 s30 s31 s32 s33 s34 s35 s36 s37 s38 s39 s40 s41 s42 s43 s44 s45 s46 s47 s48 s49 s50 s51 s52 s53 s54 s55 s56 s57 s58 s59 : Value} (HB : Hid (MdBk w w.heap.size 25 m W0))
    (HQ : Hid (∀ (u33 u34 u35 u36 u37 u38 u39 u40 : Value) (A : Option Addr) (c : Nat) (W : World), Below W0.heap.size W0 W → IntsIn W A (warmL m true N) → Q .normal ⟨#[s0, .int .i64 (N : Int), .pointer (some ⟨w.heap.size, 0, none⟩), s3, s4, s5, s6, s7, s8, .slice A (warmL m true N).length c, .int .i64 0, s11, s12, s13, s14, s15, s16, s17, s18, s19, s20, s21, s22, s23, s24, s25, s26, s27, s28, s29, s30, s31, s32, u33, u34, u35, u36, u37, u38, u39, u40, s41, s42, s43, s44, s45, s46, s47, s48, s49, s50, s51, s52, s53, s54, s55, s56, s57, s58, s59], []⟩ W)) :
    Code.wp Try.prog ((Try.f24.body.bind (regionAt 7)).getD .skip) Q ⟨#[s0, .int .i64 (N : Int), .pointer (some ⟨w.heap.size, 0, none⟩), s3, s4, s5, s6, s7, s8, s9, s10, s11, s12, s13, s14, s15, s16, s17, s18, s19, s20, s21, s22, s23, s24, s25, s26, s27, s28, s29, s30, s31, s32, s33, s34, s35, s36, s37, s38, s39, s40, s41, s42, s43, s44, s45, s46, s47, s48, s49, s50, s51, s52, s53, s54, s55, s56, s57, s58, s59], []⟩ W0 := by
  have HS := Lib.hid (fun W => rsame_any m hok.toMdIn true N hN W)
  have HK := Lib.hid (fun (W : World) (A1 A2 : Option Addr) (d1 d2 : Nat) (h1 : IntsIn W A1 (samP m true)) (h2 : IntsIn W A2 (samW m true N)) => rcool_any (c1 := d1) (c2 := d2) m h1 h2)
  rw [same_cool hok true hN] at HK
  simp only [samP_length, samW_length] at HS HK
  conv => arg 2; whnf
  have LAST : Hid (Below W0.heap.size W0 W0.drew) := Lib.hid ((Below.refl _ _).drew)
  obtain ⟨c0, c1, c2, c3, c4, c5, c6, c7, c8, c9, c10, c11⟩ := (HB.out.on LAST.out).cells
  refine wp_region_noPanic ?_
  go_region_law (first
    | (go_simp; (with_reducible refine (HS.out _).mono ?_); rintro e wa ⟨B1, d1, B2, d2, rfl, i1, i2, hb⟩; have NEW : Hid (Below W0.heap.size W0 wa) := LAST.out.trans (hb.mono LAST.out.size); clear LAST; have LAST := NEW; clear NEW hb c0 c1 c2 c3 c4 c5 c6 c7 c8 c9 c10 c11; obtain ⟨c0, c1, c2, c3, c4, c5, c6, c7, c8, c9, c10, c11⟩ := (HB.out.on LAST.out).cells)
    | (go_simp; (with_reducible refine (HK.out _ _ _ _ _ i1 i2).mono ?_); rintro e wb ⟨v1, rfl, hv1, hb⟩; obtain ⟨A3, c3, rfl, i3⟩ := hv1.in_; have NEW : Hid (Below W0.heap.size W0 wb) := LAST.out.trans (hb.mono LAST.out.size); clear LAST; have LAST := NEW; clear NEW hb)
    | fail)
  all_goals exact NoPanic.normal (HQ.out _ _ _ _ _ _ _ _ _ _ _ LAST.out i3)

end Go.Proofs.Ytljbjcnfkbmjkaa
