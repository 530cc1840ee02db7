/- Layer blend, a part: Value. No statement is proved here. -/
import Derived.Test.YtalghiecjhfflaaGi
namespace Go.Proofs.Ytalghiecjhfflaa
open Go.RowKit Go.Shelf Go.Maps
attribute [local go_sem] Oper.semAt_some


theorem Blk.grown_ {W W' : World} {g G : Nat} {T : TypeId} {cs : Array Value} (h : Blk W g T cs) (hg : W.grownBy W' (some G)) (hn : g ≠ G) : Blk W' g T cs := (hg.block g h.lt (fun e => hn (by simpa using e))).trans h
theorem sumW_fold : ∀ (l : List Int) (a : Int), (∀ x ∈ l, -1000000000 ≤ x ∧ x ≤ 1000000000) → -1000000000000 - 1000000000 * l.length ≤ a - 2000000000 * l.length → a + 2000000000 * l.length ≤ 1000000000000 + 1000000000 * l.length → l.foldl (fun a x => wrap64 (a + x)) a = a + sumL l
  | [], a, _, _, _ => by simp [sumL]
  | x :: l, a, h, ha, hb => by
    have hx := h x List.mem_cons_self
    have hl : ((x :: l).length : Int) = l.length + 1 := by simp
    rw [List.foldl_cons, IntWalk.wrap64_in _ (by omega), sumW_fold l (a + x) (fun y hy => h y (List.mem_cons_of_mem _ hy)) (by omega) (by omega), sumL]
    omega
theorem sumW_small {l : List Int} (h : ∀ x ∈ l, -1000000000 ≤ x ∧ x ≤ 1000000000) (hl : l.length ≤ 100) : sumW l = sumL l := by
  have := sumW_fold l 0 h (by omega) (by omega)
  unfold sumW
  omega
/-- A valid recipe. -/
structure RcOk (m : Nat) (r : List Int) : Prop where
  len : r.length = m
  in_ : ∀ n ∈ r, 0 ≤ n ∧ n ≤ 20
  sum : sumL r = 20
theorem rec_ok {m : Nat} {r : List Int} : recE m r = 0 ↔ RcOk m r := by
  unfold recE
  constructor
  · intro h
    split at h
    · cases h
    · rename_i h1
      split at h
      · cases h
      · rename_i h2
        split at h
        · cases h
        · rename_i h3
          exact ⟨Classical.byContradiction h1, rangeE_zero.1 (Classical.byContradiction h2), Classical.byContradiction h3⟩
  · intro h
    rw [if_neg (by simpa using h.len), if_neg (by simpa using rangeE_zero.2 h.in_), if_neg (by simpa using h.sum)]
theorem or_bd {l : List Bw} {r : List Int} (t : List Int) : orE (bdE l :: recQ l.length r :: t) = orE (bdE l :: recE l.length r :: t) := by
  simp only [orE]
  by_cases h : bdE l = 0
  · rw [recQ_eq (by have := (bd_ok h).1; omega)]
  · simp [h]
theorem fig_sum {b o : Nat} {l : List Bw} {r : List Int} {g : Bw → Int → Int} (hl : ∀ x ∈ l, BwOk x) (hlen : l.length ≤ 5) (hr : ∀ n ∈ r, 0 ≤ n ∧ n ≤ 20) (hg : ∀ x n, BwOk x → 0 ≤ n ∧ n ≤ 20 → -1000000000 ≤ g x n ∧ g x n ≤ 1000000000) :
    sumW ((mixL b o l r).map fun p => g p.x p.n) = figV g l r := by
  rw [mixL_map]
  refine sumW_small (fun y hy => ?_) (by rw [List.length_zipWith]; omega)
  obtain ⟨i, hi⟩ := List.getElem?_of_mem hy
  rw [List.getElem?_zipWith] at hi
  cases h1 : l[i]? with
  | none => rw [h1] at hi; simp at hi
  | some x =>
    cases h2 : r[i]? with
    | none => rw [h1, h2] at hi; simp at hi
    | some n =>
      rw [h1, h2] at hi
      simp at hi
      subst hi
      exact hg x n (hl x (List.mem_of_getElem? h1)) (hr n (List.mem_of_getElem? h2))
theorem soft_in {x : Bw} {n : Int} (ok : BwOk x) (hn : 0 ≤ n ∧ n ≤ 20) : -1000000000 ≤ softV x n ∧ softV x n ≤ 1000000000 := by
  have h1 := mul_in (p := x.mlo) (m := 2000) hn (by have := ok.m; omega)
  have h2 := addV_in hn ok
  unfold softV; omega
theorem hard_in {x : Bw} {n : Int} (ok : BwOk x) (hn : 0 ≤ n ∧ n ≤ 20) : -1000000000 ≤ hardV x n ∧ hardV x n ≤ 1000000000 := by
  have h1 := mul_in (p := x.mhi) (m := 2000) hn (by have := ok.m; omega)
  have h2 := addV_in hn ok
  unfold hardV; omega
theorem mul_in2 {a n m : Int} (ha : 0 ≤ a ∧ a ≤ m) (hm : m ≤ 1000000) (hn : 0 ≤ n ∧ n ≤ 20) : -1000000000 ≤ n * a ∧ n * a ≤ 1000000000 := by
  have := mul_in hn ha; omega
/-- The portions of a mix that a call made, over waxes that lie. -/
theorem mix_in {w w' : World} {B b o g n cap : Nat} {l : List Bw} {r : List Int} (h : BwsIn w (some ⟨b, o, none⟩) l) (hb : Below w.heap.size w w') (ho : PosOut B w' (.slice (some ⟨g, 0, none⟩) n cap) (mixL b o l r)) : n = (mixL b o l r).length ∧ PosIn w' (some ⟨g, 0, none⟩) (mixL b o l r) := by
  obtain ⟨h1, h2, h3, h4⟩ := ho.reads
  refine ⟨h1, h2, fun p hp => ?_, by unfold maxLen at h4; omega⟩
  obtain ⟨i, h5, h6, h7, h8⟩ := mixL_mem hp
  obtain ⟨b', o', e, hw⟩ := h.elem h5
  cases e
  rw [h7, h8]
  exact hw.on hb
theorem mix_ok {b o : Nat} {l : List Bw} {r : List Int} (hl : ∀ x ∈ l, BwOk x) (hr : ∀ n ∈ r, 0 ≤ n ∧ n ≤ 20) : ∀ p ∈ mixL b o l r, BwOk p.x ∧ 0 ≤ p.n ∧ p.n ≤ 20 := fun p hp => by
  obtain ⟨i, h5, h6, _, _⟩ := mixL_mem hp
  exact ⟨hl _ (List.mem_of_getElem? h5), hr _ (List.mem_of_getElem? h6)⟩
theorem BwsIn.addr {w : World} {A : Option Addr} {l : List Bw} (h : BwsIn w A l) (hl : 1 ≤ l.length) : ∃ b o, A = some ⟨b, o, none⟩ := by
  obtain ⟨b, o, e, _⟩ := h.elem (List.getElem?_eq_getElem (show 0 < l.length by omega))
  exact ⟨b, o, e⟩
/-- The figures of a mix, as the program finds them. -/
structure Fg where
  s : Int
  h : Int
  a : Int
  z : Int
  c : Int
def figR (l : List Bw) (r : List Int) : Fg := ⟨figV softV l r, figV hardV l r, figV (fun x n => n * x.slo) l r, figV (fun x n => n * x.shi) l r, figV (fun x n => n * x.pr) l r⟩
theorem figs_mix {w : World} {b o g c : Nat} {l : List Bw} {r : List Int} (h : PosIn w (some ⟨g, 0, none⟩) (mixL b o l r)) (hl : ∀ x ∈ l, BwOk x) (hlen : l.length ≤ 5) (hr : RcOk l.length r) :
    Calls Try.prog 61 #[.slice (some ⟨g, 0, none⟩) l.length c] w fun e w' => e = .returned (.agg (figs (figR l r).s (figR l r).h (figR l r).a (figR l r).z (figR l r).c)) ∧ Below w.heap.size w w' := by
  have hm := mix_ok (b := b) (o := o) hl hr.in_
  have q := figures_any (c := c) h hm
  rw [mixL_len b o l r hr.len] at q
  refine q.mono ?_
  rintro e w' ⟨rfl, hb⟩
  refine ⟨?_, hb⟩
  rw [fig_sum hl hlen hr.in_ (fun x n => soft_in), fig_sum hl hlen hr.in_ (fun x n => hard_in), fig_sum (g := fun x n => n * x.slo) hl hlen hr.in_ (fun x n ok hn => mul_in2 (m := 1000) (by have := ok.s; omega) (by decide) hn), fig_sum (g := fun x n => n * x.shi) hl hlen hr.in_ (fun x n ok hn => mul_in2 (m := 1000) (by have := ok.s; omega) (by decide) hn), fig_sum (g := fun x n => n * x.pr) hl hlen hr.in_ (fun x n ok hn => mul_in2 (m := 100000) ok.pr (by decide) hn)]
  rfl

/-- What each operation leaves. -/
def va5F (P : Nat) (f : Fg) : Nat → Value → Prop
  | 0, v => v = .agg #[.int .i64 f.s, .int .i64 f.h, .int .i64 f.a, .int .i64 f.z, .int .i64 f.c]
  | 1, v => v = .agg #[.int .i64 f.s, .int .i64 f.h]
  | 2, v => v = .agg #[.int .i64 f.s, .int .i64 f.h, .int .i64 f.a, .int .i64 f.z, .int .i64 f.c]
  | 3, v => v = .agg #[.int .i64 f.a, .int .i64 f.z]
  | 4, v => v = .pointer (some ⟨P, 4, none⟩)
  | 5, v => v = .int .i64 f.c
  | 6, _ => True
  | 7, _ => True
  | 8, v => v = .int .i64 f.c
  | 9, v => v = .int .i64 0
  | _, _ => True
set_option maxRecDepth 100000 in
set_option maxHeartbeats 8000000 in
theorem va5_region {P R1 R2 N : Nat} {f : Fg} {S : World → Prop} (hP : ∀ W, S W → Blk W P 105 #[.int .i64 f.s, .int .i64 f.h, .int .i64 f.a, .int .i64 f.z, .int .i64 f.c]) (hon : ∀ W W', S W → Below W.heap.size W W' → S W') (hput : ∀ W W' G, S W → W.grownBy W' (some G) → (N ≤ G ∨ G = R1 ∨ G = R2) → S W') (hN : ∀ W, S W → N ≤ W.heap.size) {Q : Exit → Act → World → Prop} {s0 s1 s2 s3 s8 s10 s11 s12 s13 s14 s15 s16 s17 s18 s19 s20 s21 s22 s23 s24 s25 : Value} {W0 : World} (HL : Hid (S W0)) (hk0 : Blk W0 (R1) 36 #[.int .i64 0, .int .i64 0]) (hg0 : R1 < N) (hk1 : Blk W0 (R2) 36 #[.int .i64 0, .int .i64 0]) (hg1 : R2 < N) (hn0_1 : R1 ≠ R2)
    (HQ : Hid (∀ (u : Nat → Value) (W : World), S W → Blk W (R1) 36 #[.int .i64 f.s, .int .i64 f.h] → Blk W (R2) 36 #[.int .i64 f.a, .int .i64 f.z] → Q .normal ⟨#[s0, s1, s2, s3, .pointer (some ⟨R1, 0, none⟩), .pointer (some ⟨R2, 0, none⟩), .int .i64 f.c, .int .i64 0, s8, .pointer (some ⟨P, 0, none⟩), s10, s11, s12, s13, s14, s15, s16, s17, s18, s19, s20, s21, s22, s23, s24, s25, u 0, u 1, u 2, u 3, u 4, u 5], []⟩ W)) :
    Code.wp Try.prog ((Try.f20.body.bind (regionAt 5)).getD .skip) Q ⟨#[s0, s1, s2, s3, .pointer (some ⟨R1, 0, none⟩), .pointer (some ⟨R2, 0, none⟩), .int .i64 0, .int .i64 0, s8, .pointer (some ⟨P, 0, none⟩), s10, s11, s12, s13, s14, s15, s16, s17, s18, s19, s20, s21, s22, s23, s24, s25, undef, undef, undef, undef, undef, undef], []⟩ W0 := by
  conv => arg 2; whnf
  refine wp_region_vars (by kernel_rfl) 10 (by kernel_rfl) (fun u => ⟨#[s0, s1, s2, s3, .pointer (some ⟨R1, 0, none⟩), .pointer (some ⟨R2, 0, none⟩), u 8, u 9, s8, .pointer (some ⟨P, 0, none⟩), s10, s11, s12, s13, s14, s15, s16, s17, s18, s19, s20, s21, s22, s23, s24, s25, u 0, u 1, u 2, u 3, u 4, u 5], []⟩) (fun i => if i = 8 then .int .i64 0 else if i = 9 then .int .i64 0 else undef) (fun W => Hid (S W)) (va5F P f) (N) [⟨none, R1, 6, 36, #[.int .i64 0, .int .i64 0], #[.int .i64 f.s, .int .i64 f.h]⟩, ⟨none, R2, 7, 36, #[.int .i64 0, .int .i64 0], #[.int .i64 f.a, .int .i64 f.z]⟩] [] [6, 7] rfl rfl (by kernel_rfl) (hon _ _ HL.out (Below.refl _ _).drew) ?hV (fun W h => hN W h.out) ?hg (by decide +kernel) (fun W W' h hb => hon W W' h.out hb) ?hp ?hA ?hP (by decide) (by decide) (by decide) (by decide) (by decide) ?step ?done
  case hV =>
    refine ⟨fun q hq => ⟨fun a e hl => (by cases hl), fun G hG => ?_⟩, fun q hq r hr hne G h1 h2 => ?_⟩
    · simp only [List.mem_cons, List.not_mem_nil, or_false] at hq
      rcases hq with rfl | rfl
      · obtain ⟨rfl, -⟩ := hG; exact hk0.drew
      · obtain ⟨rfl, -⟩ := hG; exact hk1.drew
    · simp only [List.mem_cons, List.not_mem_nil, or_false] at hq
      rcases hq with rfl | rfl
      · simp only [List.mem_cons, List.not_mem_nil, or_false] at hr
        rcases hr with rfl | rfl
        · exact absurd rfl hne
        · exact hn0_1 (h1.1.symm.trans h2.1)
      · simp only [List.mem_cons, List.not_mem_nil, or_false] at hr
        rcases hr with rfl | rfl
        · exact hn0_1 (h2.1.symm.trans h1.1)
        · exact absurd rfl hne
  case hg =>
    intro q hq ha
    simp only [List.mem_cons, List.not_mem_nil, or_false] at hq
    rcases hq with rfl | rfl
    · exact hg0
    · exact hg1
  case hp =>
    intro W W' G h hg hG
    refine hput W W' G h.out hg ?_
    rcases hG with h1 | ⟨q, hq, ha, h2⟩
    · exact .inl h1
    · simp only [List.mem_cons, List.not_mem_nil, or_false] at hq
      rcases hq with rfl | rfl
      · exact .inr (.inl h2)
      · exact .inr (.inr h2)
  case hA =>
    intro q hq i ha
    simp only [List.mem_cons, List.not_mem_nil, or_false] at hq
    rcases hq with rfl | rfl
    · cases ha
    · cases ha
  case hP =>
    intro q hq u W hB hd G hG hb K hK
    have HK := Lib.hid hK; clear hK
    simp only [List.mem_cons, List.not_mem_nil, or_false] at hq
    rcases hq with rfl | rfl
    · have hGe : G = R1 := hG.1
      rw [hGe] at hb HK
      clear hG hGe
      replace hd : ∀ j ∈ waits .any _ 6, j ∉ [] → j ∉ [6, 7] → va5F P f j (u j) := hd
      have e1 : u 1 = .agg #[.int .i64 f.s, .int .i64 f.h] := hd 1 (by decide +kernel) (by decide) (by decide)
      replace hb : Blk W R1 36 #[.int .i64 0, .int .i64 0] := hb
      have hb2 := ((hb).set_ 0 (.int .i64 f.s)).set_ 1 (.int .i64 f.h)
      simp only [List.setIfInBounds_toArray, List.set_cons_zero, List.set_cons_succ] at hb2
      have hg2 : W.grownBy _ (some (R1)) := grown_more (grown_more (World.grownBy.refl W (some R1)) 0 (.int .i64 f.s)) 1 (.int .i64 f.h)
      have fz0 := hb.frozen 0
      have cl0 := hb.cell 0
      have fz1 := hb.frozen 1
      have cl1 := hb.cell 1
      have gl := hb.lt
      have HB2 := Lib.hid hb2
      have HG2 := Lib.hid hg2
      clear hb2 hg2
      refine wpOp_of rfl (by rfl) ?_
      go_simp
      exact k_of (HK.out _ HB2.out HG2.out) (by rw [← u1_eq e1] <;> kernel_rfl)
    · have hGe : G = R2 := hG.1
      rw [hGe] at hb HK
      clear hG hGe
      replace hd : ∀ j ∈ waits .any _ 7, j ∉ [] → j ∉ [6, 7] → va5F P f j (u j) := hd
      have e3 : u 3 = .agg #[.int .i64 f.a, .int .i64 f.z] := hd 3 (by decide +kernel) (by decide) (by decide)
      replace hb : Blk W R2 36 #[.int .i64 0, .int .i64 0] := hb
      have hb2 := ((hb).set_ 0 (.int .i64 f.a)).set_ 1 (.int .i64 f.z)
      simp only [List.setIfInBounds_toArray, List.set_cons_zero, List.set_cons_succ] at hb2
      have hg2 : W.grownBy _ (some (R2)) := grown_more (grown_more (World.grownBy.refl W (some R2)) 0 (.int .i64 f.a)) 1 (.int .i64 f.z)
      have fz0 := hb.frozen 0
      have cl0 := hb.cell 0
      have fz1 := hb.frozen 1
      have cl1 := hb.cell 1
      have gl := hb.lt
      have HB2 := Lib.hid hb2
      have HG2 := Lib.hid hg2
      clear hb2 hg2
      refine wpOp_of rfl (by rfl) ?_
      go_simp
      exact k_of (HK.out _ HB2.out HG2.out) (by rw [← u1_eq e3] <;> kernel_rfl)
  case step =>
    iterate 10 (refine all_succ ?_ ?_)
    · exact all_zero
    · intro _ _ u W hB hv hd K hK
      have HK := Lib.hid hK; clear hK
      refine wpOp_of rfl (by rfl) ?_
      have z0 := (hP W hB.out).cell 0; have z1 := (hP W hB.out).cell 1; have z2 := (hP W hB.out).cell 2; have z3 := (hP W hB.out).cell 3; have z4 := (hP W hB.out).cell 4
      go_simp
      exact k_of (HK.out (.agg #[.int .i64 f.s, .int .i64 f.h, .int .i64 f.a, .int .i64 f.z, .int .i64 f.c]) _ rfl hB (Below.refl _ _)) (by kernel_rfl)
    · intro _ _ u W hB hv hd K hK
      have HK := Lib.hid hK; clear hK
      have e0 : u 0 = .agg #[.int .i64 f.s, .int .i64 f.h, .int .i64 f.a, .int .i64 f.z, .int .i64 f.c] := hd 0 (by decide +kernel) (by decide) (by decide)
      refine wpOp_of rfl (by rfl) ?_
      go_simp
      refine (melt_any f.s f.h f.a f.z f.c W).mono ?_
      rintro e w' ⟨rfl, hb⟩
      exact k_of (HK.out (.agg #[.int .i64 f.s, .int .i64 f.h]) _ rfl (hon _ _ hB.out hb) hb) (by rw [← u1_eq e0]; kernel_rfl)
    · intro _ _ u W hB hv hd K hK
      have HK := Lib.hid hK; clear hK
      refine wpOp_of rfl (by rfl) ?_
      have z0 := (hP W hB.out).cell 0; have z1 := (hP W hB.out).cell 1; have z2 := (hP W hB.out).cell 2; have z3 := (hP W hB.out).cell 3; have z4 := (hP W hB.out).cell 4
      go_simp
      exact k_of (HK.out (.agg #[.int .i64 f.s, .int .i64 f.h, .int .i64 f.a, .int .i64 f.z, .int .i64 f.c]) _ rfl hB (Below.refl _ _)) (by kernel_rfl)
    · intro _ _ u W hB hv hd K hK
      have HK := Lib.hid hK; clear hK
      have e2 : u 2 = .agg #[.int .i64 f.s, .int .i64 f.h, .int .i64 f.a, .int .i64 f.z, .int .i64 f.c] := hd 2 (by decide +kernel) (by decide) (by decide)
      refine wpOp_of rfl (by rfl) ?_
      go_simp
      refine (shrink_any f.s f.h f.a f.z f.c W).mono ?_
      rintro e w' ⟨rfl, hb⟩
      exact k_of (HK.out (.agg #[.int .i64 f.a, .int .i64 f.z]) _ rfl (hon _ _ hB.out hb) hb) (by rw [← u1_eq e2]; kernel_rfl)
    · intro _ _ u W hB hv hd K hK
      have HK := Lib.hid hK; clear hK
      refine wpOp_of rfl (by rfl) ?_
      go_simp
      exact k_of (HK.out (.pointer (some ⟨P, 4, none⟩)) _ rfl hB (Below.refl _ _)) (by kernel_rfl)
    · intro _ _ u W hB hv hd K hK
      have HK := Lib.hid hK; clear hK
      have e4 : u 4 = .pointer (some ⟨P, 4, none⟩) := hd 4 (by decide +kernel) (by decide) (by decide)
      refine wpOp_of rfl (by rfl) ?_
      have z4 := (hP W hB.out).cell 4
      go_simp
      exact k_of (HK.out (.int .i64 f.c) _ rfl hB (Below.refl _ _)) (by rw [← u1_eq e4]; kernel_rfl)
    · intro _ ha; exact absurd (by decide) ha
    · intro _ ha; exact absurd (by decide) ha
    · intro _ _ u W hB hv hd K hK
      have HK := Lib.hid hK; clear hK
      have e5 : u 5 = .int .i64 f.c := hd 5 (by decide +kernel) (by decide) (by decide)
      refine wpOp_of rfl (by rfl) ?_
      go_simp
      exact k_of (HK.out (.int .i64 f.c) _ rfl hB (Below.refl _ _)) (by rw [← u1_eq e5]; kernel_rfl)
    · intro _ _ u W hB hv hd K hK
      have HK := Lib.hid hK; clear hK
      refine wpOp_of rfl (by rfl) ?_
      go_simp
      exact k_of (HK.out (.int .i64 0) _ rfl hB (Below.refl _ _)) (by kernel_rfl)
  case done =>
    intro L u W hL hB hd hV
    have hv0 := hV.ok ⟨none, R1, 6, 36, #[.int .i64 0, .int .i64 0], #[.int .i64 f.s, .int .i64 f.h]⟩ (by simp)
    have hB0 := hv0.2 (R1) ⟨rfl, hg0⟩
    rw [if_pos (hL 6 (by decide))] at hB0
    have hv1 := hV.ok ⟨none, R2, 7, 36, #[.int .i64 0, .int .i64 0], #[.int .i64 f.a, .int .i64 f.z]⟩ (by simp)
    have hB1 := hv1.2 (R2) ⟨rfl, hg1⟩
    rw [if_pos (hL 7 (by decide))] at hB1
    have e8 : u 8 = .int .i64 f.c := hd 8 (by decide) (by decide) (by decide)
    have e9 : u 9 = .int .i64 0 := hd 9 (by decide) (by decide) (by decide)
    exact k_of (HQ.out u W hB.out hB0 hB1) (by simp only [e8, e9])
end Go.Proofs.Ytalghiecjhfflaa

namespace Go.Proofs.Ytalghiecjhfflaa
open Go.RowKit Go.Shelf Go.Maps
attribute [local go_sem] Oper.semAt_some


/-- What Value answers. -/
structure Va where
  f : Fg
  e : Int
def valV (l : List Bw) (r : List Int) : Va := if orE [bdE l, recE l.length r] ≠ 0 then ⟨⟨0, 0, 0, 0, 0⟩, orE [bdE l, recE l.length r]⟩ else ⟨figR l r, 0⟩
abbrev vaR (v : Va) : Value := .tuple #[.agg #[.int .i64 v.f.s, .int .i64 v.f.h], .agg #[.int .i64 v.f.a, .int .i64 v.f.z], .int .i64 v.f.c, .int .i64 v.e]
set_option maxRecDepth 100000 in
set_option maxHeartbeats 4000000 in
theorem value_any {w : World} {A R : Option Addr} {c rc : Nat} {l : List Bw} {r : List Int} (h : BwsIn w A l) (hc : l.length ≤ c) (hr : IntsIn w R r) :
    Calls Try.prog 20 #[.slice A l.length c, .slice R r.length rc] w fun e w' => e = .returned (vaR (valV l r)) ∧ Below w.heap.size w w' := by
  have hb0 := ((Bx.nil w).alloc #[.int .i64 0, .int .i64 0] 36).alloc #[.int .i64 0, .int .i64 0] 36
  simp only [World.size_alloc] at hb0
  have HB : Hid (Bx w _ _) := Lib.hid hb0
  have HE1 := Lib.hid (fun (W : World) (hb : Below w.heap.size w W) => waxes_any (h.on hb) hc)
  have HE2 := Lib.hid (fun (W : World) (hb : Below w.heap.size w W) => recE_any (A0 := A) (c0 := c) (c := rc) (m := l.length) rfl (hr.on hb))
  by_cases hz : orE [bdE l, recE l.length r] = 0
  · have HQ := Lib.hid ((or_bd (l := l) (r := r) []).trans hz)
    have HV := Lib.hid (show valV l r = ⟨figR l r, 0⟩ by unfold valV; rw [if_neg (by simpa using hz)])
    have hok := bd_ok (orE_zero.1 hz (bdE l) (by simp))
    have hrk := rec_ok.1 (orE_zero.1 hz (recE l.length r) (by simp))
    obtain ⟨b, o, rfl⟩ := h.addr hok.1.1
    have HM := Lib.hid (fun (W : World) (hb : Below w.heap.size w W) => mixOf_any (c := c) (rc := rc) (h.on hb) (hr.on hb) hrk.len hok.1)
    have HF := Lib.hid (fun (W : World) (g cap : Nat) (hp : PosIn W (some ⟨g, 0, none⟩) (mixL b o l r)) => figs_mix (c := cap) hp hok.2 hok.1.2 hrk)
    have HI := Lib.hid h
    rw [HV.out]
    generalize figR l r = f at *
    clear h hr hb0 hz hok hrk
    go_enter Try.func20, Try.ntmps20
    go_wp2_with (first
      | (go_at_call 55; (with_reducible refine (HE1.out _ HB.out.b).mono ?_); rintro e w1 ⟨rfl, hb⟩; have HB1 := Lib.hid (HB.out.on hb); clear hb)
      | (go_at_call 59; (with_reducible refine (HE2.out _ HB1.out.b).mono ?_); rintro e w2 ⟨rfl, hw⟩; rw [hw]; clear hw)
      | (go_at_call 54; refine (or_any (c := 2) (l := [bdE l, recQ l.length r]) (ints_blk (Blk.newat (by simp)) rfl (by simp))).mono ?_; rintro e w3 ⟨rfl, hw⟩; rw [hw]; clear hw; rw [HQ.out]; have HB3 := Lib.hid (HB1.out.on ((Below.refl _ _).alloc (Nat.le_refl _) (.cells #[.int .i64 (bdE l), .int .i64 (recQ l.length r)] 24))))
      | (go_at_call 60; (with_reducible refine (HM.out _ HB3.out.b).mono ?_); rintro e w4 ⟨g, cap, rfl, hp, hb⟩; have HB4 := Lib.hid (HB3.out.on hb); obtain ⟨-, hpi⟩ := mix_in HI.out HB4.out.b hp; have HP := Lib.hid hpi; clear hb hp hpi)
      | (go_at_call 61; (with_reducible refine (HF.out _ _ _ HP.out).mono ?_); rintro e w5 ⟨rfl, hb⟩; have HB5 := Lib.hid (HB4.out.on hb); clear hb)
      | fail)
    have hd0 := HB5.out.alloc #[.int .i64 f.s, .int .i64 f.h, .int .i64 f.a, .int .i64 f.z, .int .i64 f.c] 105
    have hsz : w.heap.size + 1 < w5.heap.size := (HB5.out.get (g := w.heap.size + 1) (T := 36) (cs := #[.int .i64 0, .int .i64 0]) (by simp)).lt
    refine wp_of_eq (va5_region (S := fun W => Blk W w5.heap.size 105 #[.int .i64 f.s, .int .i64 f.h, .int .i64 f.a, .int .i64 f.z, .int .i64 f.c] ∧ SB w (w5.heap.size + 1) W) (N := w5.heap.size + 1) (P := w5.heap.size) (R1 := w.heap.size) (R2 := w.heap.size + 1) (f := f) (fun W h => h.1)
      (fun _ _ h hb => ⟨h.1.on hb, h.2.on hb⟩) (fun W W' G h hg hG => ⟨h.1.grown_ hg (by omega), h.2.put hg (by omega)⟩) (fun W h => h.2.n) (Lib.hid ⟨hd0.get (by simp), hd0.b, by simp⟩) (hd0.get (by simp)) (by omega) (hd0.get (by simp)) (by omega) (by omega) (Lib.hid fun u W hS hR1 hR2 => ?_)) (by kernel_rfl)
    have hF := Lib.hid hS.2.b
    have a0 := hR1.cell 0; have a1 := hR1.cell 1
    have b0 := hR2.cell 0; have b1 := hR2.cell 1
    clear hS hR1 hR2 hd0
    go_wp2_with fail
    refine bodyPost_ret (v := .tuple #[.agg #[.int .i64 f.s, .int .i64 f.h], .agg #[.int .i64 f.a, .int .i64 f.z], .int .i64 f.c, .int .i64 0]) ?_ rfl ⟨rfl, hF.out⟩
    simp [results, Try.results20, go_sem, a0, a1, b0, b1]
  · have HV := Lib.hid (show valV l r = ⟨⟨0, 0, 0, 0, 0⟩, orE [bdE l, recE l.length r]⟩ by unfold valV; rw [if_pos hz])
    have hq := or_bd (l := l) (r := r) []
    rw [HV.out]
    have hz2 : (orE [bdE l, recE l.length r] != 0) = true := by simpa using hz
    generalize orE [bdE l, recE l.length r] = z at *
    have HQ := Lib.hid hq
    clear h hr hb0 hz hq
    go_enter Try.func20, Try.ntmps20
    go_wp2_with (first
      | (go_at_call 55; (with_reducible refine (HE1.out _ HB.out.b).mono ?_); rintro e w1 ⟨rfl, hb⟩; have HB1 := Lib.hid (HB.out.on hb); clear hb)
      | (go_at_call 59; (with_reducible refine (HE2.out _ HB1.out.b).mono ?_); rintro e w2 ⟨rfl, hw⟩; rw [hw]; clear hw)
      | (go_at_call 54; refine (or_any (c := 2) (l := [bdE l, recQ l.length r]) (ints_blk (Blk.newat (by simp)) rfl (by simp))).mono ?_; rintro e w3 ⟨rfl, hw⟩; rw [hw]; clear hw; rw [HQ.out]; have HB3 := Lib.hid (HB1.out.on ((Below.refl _ _).alloc (Nat.le_refl _) (.cells #[.int .i64 (bdE l), .int .i64 (recQ l.length r)] 24))); have r1 : Blk _ w.heap.size 36 #[.int .i64 0, .int .i64 0] := HB3.out.get (by simp); have r2 : Blk _ (w.heap.size + 1) 36 #[.int .i64 0, .int .i64 0] := HB3.out.get (by simp); have a0 := r1.cell 0; have a1 := r1.cell 1; have b0 := r2.cell 0; have b1 := r2.cell 1; have f0 := r1.frozen 0; have f1 := r1.frozen 1; have g0 := r2.frozen 0; have g1 := r2.frozen 1; have l1 := r1.lt; have l2 := r2.lt; clear r1 r2)
      | fail)
    refine bodyPost_ret (v := .tuple #[.agg #[.int .i64 0, .int .i64 0], .agg #[.int .i64 0, .int .i64 0], .int .i64 0, .int .i64 z]) ?_ rfl ⟨rfl, ?_⟩
    · simp [results, Try.results20, go_sem, *]
    · repeat (first | (with_reducible exact HB3.out.b) | with_reducible refine Below.setCell ?_ (by simp; try omega) _)
end Go.Proofs.Ytalghiecjhfflaa
