/- Layer blend, a part: lots, copies of waxes. No statement is proved here. -/
import Derived.Test.YtalghiecjhfflaaGj
namespace Go.Proofs.Ytalghiecjhfflaa
open Go.RowKit Go.Shelf Go.Maps
attribute [local go_sem] Oper.semAt_some


/-- A lot is one of a wax. -/
def lotB (x : Bw) (y : Int × Int) : Bool := inB y.1 x.mlo x.mhi && inB y.2 x.slo x.shi
def lotK (l : List Bw) (t : List (Int × Int)) (j : Nat) : Bool := match l[j]?, t[j]? with
  | some x, some y => lotB x y
  | _, _ => true
def lotsE (l : List Bw) (t : List (Int × Int)) : Int := if t.length ≠ l.length then 3 else if (List.range t.length).all (lotK l t) = true then 0 else 7
theorem lotsE_no {l : List Bw} {t : List (Int × Int)} {k : Nat} {x : Bw} {y : Int × Int} (h : t.length = l.length) (hx : l[k]? = some x) (hy : t[k]? = some y) (hn : lotB x y = false) : lotsE l t = 7 := by
  unfold lotsE
  rw [if_neg (by simpa using h), if_neg]
  intro h2
  have h3 := List.all_eq_true.1 h2 k (by have := (List.getElem?_eq_some_iff.1 hy).1; simpa using this)
  unfold lotK at h3
  rw [hx, hy] at h3
  simp only [hn] at h3
  cases h3
theorem lotsE_yes {l : List Bw} {t : List (Int × Int)} (h : t.length = l.length) (ha : ∀ j, j < t.length → lotK l t j = true) : lotsE l t = 0 := by
  unfold lotsE
  rw [if_neg (by simpa using h), if_pos (List.all_eq_true.2 fun j hj => ha j (by simpa using hj))]
theorem lots_ok {l : List Bw} {t : List (Int × Int)} : lotsE l t = 0 ↔ t.length = l.length ∧ ∀ (j : Nat) x y, l[j]? = some x → t[j]? = some y → (x.mlo ≤ y.1 ∧ y.1 ≤ x.mhi) ∧ x.slo ≤ y.2 ∧ y.2 ≤ x.shi := by
  constructor
  · intro h
    unfold lotsE at h
    split at h
    · cases h
    · rename_i h1
      split at h
      · rename_i h2
        refine ⟨Classical.byContradiction h1, fun j x y hx hy => ?_⟩
        have h3 := List.all_eq_true.1 h2 j (by have := (List.getElem?_eq_some_iff.1 hy).1; simpa using this)
        unfold lotK at h3
        rw [hx, hy] at h3
        simpa [lotB, inB_iff] using h3
      · cases h
  · rintro ⟨h1, h2⟩
    refine lotsE_yes h1 fun j hj => ?_
    unfold lotK
    cases hx : l[j]? with
    | none => rfl
    | some x =>
      cases hy : t[j]? with
      | none => rfl
      | some y => have := h2 j x y hx hy; simpa [lotB, inB_iff] using this

/-- What each operation leaves. -/
def lo6F (bb oo mm mc kk : Nat) (x : Bw) : Nat → Value → Prop
  | 0, v => v = .slice (some ⟨bb, oo, none⟩) mm mc
  | 1, v => v = .int .i64 (kk : Int)
  | 2, v => v = .pointer (some ⟨bb, oo + kk * 7, none⟩)
  | 3, v => v = .pointer (some ⟨bb, oo + kk * 7 + 2, none⟩)
  | 4, v => v = .agg #[.int .i64 x.mlo, .int .i64 x.mhi]
  | 5, v => v = .slice (some ⟨bb, oo, none⟩) mm mc
  | 6, v => v = .int .i64 (kk : Int)
  | 7, v => v = .pointer (some ⟨bb, oo + kk * 7, none⟩)
  | 8, v => v = .pointer (some ⟨bb, oo + kk * 7 + 4, none⟩)
  | 9, v => v = .agg #[.int .i64 x.slo, .int .i64 x.shi]
  | 10, _ => True
  | 11, _ => True
  | 12, _ => True
  | 13, _ => True
  | _, _ => True
set_option maxRecDepth 100000 in
set_option maxHeartbeats 8000000 in
theorem lo6_region {bb oo mm mc kk N : Nat} {x : Bw} {S : World → Prop} (hkm : kk < mm) (hx : ∀ W, S W → W.cell? ⟨bb, oo + kk * 7 + 2, none⟩ = some (.int .i64 x.mlo) ∧ W.cell? ⟨bb, oo + kk * 7 + 3, none⟩ = some (.int .i64 x.mhi) ∧ W.cell? ⟨bb, oo + kk * 7 + 4, none⟩ = some (.int .i64 x.slo) ∧ W.cell? ⟨bb, oo + kk * 7 + 5, none⟩ = some (.int .i64 x.shi)) (hon : ∀ W W', S W → Below W.heap.size W W' → S W') (hput : ∀ W W' G, S W → W.grownBy W' (some G) → (N ≤ G) → S W') (hN : ∀ W, S W → N ≤ W.heap.size) {Q : Exit → Act → World → Prop} {s1 s2 s3 s4 s6 s9 s10 s11 s12 s13 s14 s15 s16 s17 s18 s19 s20 s31 s32 s33 s34 s35 s36 s37 s38 s39 s40 s41 s42 s43 s44 s45 s46 s47 s48 s49 s50 s51 s7 s8 s21 s22 s23 s24 s25 s26 s27 s28 s29 s30 : Value} {W0 : World} (HL : Hid (S W0))
    (HQ : Hid (∀ (u : Nat → Value) (G0 G1 : Nat) (W : World), S W → N ≤ G0 → N ≤ G1 → Blk W (G0) 36 #[.int .i64 x.mlo, .int .i64 x.mhi] → Blk W (G1) 36 #[.int .i64 x.slo, .int .i64 x.shi] → Q .normal ⟨#[.slice (some ⟨bb, oo, none⟩) mm mc, s1, s2, s3, s4, .int .i64 (kk : Int), s6, .pointer (some ⟨G0, 0, none⟩), .pointer (some ⟨G1, 0, none⟩), s9, s10, s11, s12, s13, s14, s15, s16, s17, s18, s19, s20, u 0, u 1, u 2, u 3, u 4, u 5, u 6, u 7, u 8, u 9, s31, s32, s33, s34, s35, s36, s37, s38, s39, s40, s41, s42, s43, s44, s45, s46, s47, s48, s49, s50, s51], []⟩ W)) :
    Code.wp Try.prog ((Try.f66.body.bind (regionAt 6)).getD .skip) Q ⟨#[.slice (some ⟨bb, oo, none⟩) mm mc, s1, s2, s3, s4, .int .i64 (kk : Int), s6, s7, s8, s9, s10, s11, s12, s13, s14, s15, s16, s17, s18, s19, s20, s21, s22, s23, s24, s25, s26, s27, s28, s29, s30, s31, s32, s33, s34, s35, s36, s37, s38, s39, s40, s41, s42, s43, s44, s45, s46, s47, s48, s49, s50, s51], []⟩ W0 := by
  conv => arg 2; whnf
  refine wp_region_vars (by kernel_rfl) 14 (by kernel_rfl) (fun u => ⟨#[.slice (some ⟨bb, oo, none⟩) mm mc, s1, s2, s3, s4, .int .i64 (kk : Int), s6, u 10, u 11, s9, s10, s11, s12, s13, s14, s15, s16, s17, s18, s19, s20, u 0, u 1, u 2, u 3, u 4, u 5, u 6, u 7, u 8, u 9, s31, s32, s33, s34, s35, s36, s37, s38, s39, s40, s41, s42, s43, s44, s45, s46, s47, s48, s49, s50, s51], []⟩) (fun i => if i = 0 then s21 else if i = 1 then s22 else if i = 2 then s23 else if i = 3 then s24 else if i = 4 then s25 else if i = 5 then s26 else if i = 6 then s27 else if i = 7 then s28 else if i = 8 then s29 else if i = 9 then s30 else if i = 10 then s7 else if i = 11 then s8 else undef) (fun W => Hid (S W)) (lo6F bb oo mm mc kk x) (N) [⟨some 10, 0, 12, 36, #[.int .i64 0, .int .i64 0], #[.int .i64 x.mlo, .int .i64 x.mhi]⟩, ⟨some 11, 0, 13, 36, #[.int .i64 0, .int .i64 0], #[.int .i64 x.slo, .int .i64 x.shi]⟩] [10, 11] [12, 13] rfl rfl (by kernel_rfl) (hon _ _ HL.out (Below.refl _ _).drew) ?hV (fun W h => hN W h.out) ?hg (by decide +kernel) (fun W W' h hb => hon W W' h.out hb) ?hp ?hA ?hP (by decide) (by decide) (by decide) (by decide) (by decide) ?step ?done
  case hV =>
    refine ⟨fun q hq => ⟨fun a e hl => (by cases hl), fun G hG => ?_⟩, fun q hq r hr hne G h1 h2 => ?_⟩
    · simp only [List.mem_cons, List.not_mem_nil, or_false] at hq
      rcases hq with rfl | rfl
      · exact absurd hG.1 (by decide)
      · exact absurd hG.1 (by decide)
    · simp only [List.mem_cons, List.not_mem_nil, or_false] at hq
      rcases hq with rfl | rfl
      · exact absurd h1.1 (by decide)
      · exact absurd h1.1 (by decide)
  case hg =>
    intro q hq ha
    simp only [List.mem_cons, List.not_mem_nil, or_false] at hq
    rcases hq with rfl | rfl
    · cases ha
    · cases ha
  case hp =>
    intro W W' G h hg hG
    refine hput W W' G h.out hg ?_
    rcases hG with h1 | ⟨q, hq, ha, h2⟩
    · exact h1
    · simp only [List.mem_cons, List.not_mem_nil, or_false] at hq
      rcases hq with rfl | rfl
      · cases ha
      · cases ha
  case hA =>
    intro q hq i ha
    simp only [List.mem_cons, List.not_mem_nil, or_false] at hq
    rcases hq with rfl | rfl
    · cases ha
      refine ⟨by show _ ∈ waits _ _ 12; decide +kernel, fun u W hB K hK => ?_⟩
      have HK := Lib.hid hK; clear hK
      refine wpOp_of rfl (by rfl) ?_
      go_simp
      exact k_of HK.out (by kernel_rfl)
    · cases ha
      refine ⟨by show _ ∈ waits _ _ 13; decide +kernel, fun u W hB K hK => ?_⟩
      have HK := Lib.hid hK; clear hK
      refine wpOp_of rfl (by rfl) ?_
      go_simp
      exact k_of HK.out (by kernel_rfl)
  case hP =>
    intro q hq u W hB hd G hG hb K hK
    have HK := Lib.hid hK; clear hK
    simp only [List.mem_cons, List.not_mem_nil, or_false] at hq
    rcases hq with rfl | rfl
    · obtain ⟨-, eG, hle⟩ := hG
      replace eG : u 10 = .pointer (some ⟨G, 0, none⟩) := eG
      replace hd : ∀ j ∈ waits .any _ 12, j ∉ [10, 11] → j ∉ [12, 13] → lo6F bb oo mm mc kk x j (u j) := hd
      have e4 : u 4 = .agg #[.int .i64 x.mlo, .int .i64 x.mhi] := hd 4 (by decide +kernel) (by decide) (by decide)
      replace hb : Blk W G 36 #[.int .i64 0, .int .i64 0] := hb
      have hb2 := ((hb).set_ 0 (.int .i64 x.mlo)).set_ 1 (.int .i64 x.mhi)
      simp only [List.setIfInBounds_toArray, List.set_cons_zero, List.set_cons_succ] at hb2
      have hg2 : W.grownBy _ (some (G)) := grown_more (grown_more (World.grownBy.refl W (some G)) 0 (.int .i64 x.mlo)) 1 (.int .i64 x.mhi)
      have fz0 := hb.frozen 0
      have cl0 := hb.cell 0
      have fz1 := hb.frozen 1
      have cl1 := hb.cell 1
      have gl := hb.lt
      have HB2 := Lib.hid hb2
      have HG2 := Lib.hid hg2
      clear hb2 hg2
      refine wpOp_of rfl (by rfl) ?_
      go_simp
      exact k_of (HK.out _ HB2.out HG2.out) (by rw [← u1_eq eG, ← u1_eq e4] <;> kernel_rfl)
    · obtain ⟨-, eG, hle⟩ := hG
      replace eG : u 11 = .pointer (some ⟨G, 0, none⟩) := eG
      replace hd : ∀ j ∈ waits .any _ 13, j ∉ [10, 11] → j ∉ [12, 13] → lo6F bb oo mm mc kk x j (u j) := hd
      have e9 : u 9 = .agg #[.int .i64 x.slo, .int .i64 x.shi] := hd 9 (by decide +kernel) (by decide) (by decide)
      replace hb : Blk W G 36 #[.int .i64 0, .int .i64 0] := hb
      have hb2 := ((hb).set_ 0 (.int .i64 x.slo)).set_ 1 (.int .i64 x.shi)
      simp only [List.setIfInBounds_toArray, List.set_cons_zero, List.set_cons_succ] at hb2
      have hg2 : W.grownBy _ (some (G)) := grown_more (grown_more (World.grownBy.refl W (some G)) 0 (.int .i64 x.slo)) 1 (.int .i64 x.shi)
      have fz0 := hb.frozen 0
      have cl0 := hb.cell 0
      have fz1 := hb.frozen 1
      have cl1 := hb.cell 1
      have gl := hb.lt
      have HB2 := Lib.hid hb2
      have HG2 := Lib.hid hg2
      clear hb2 hg2
      refine wpOp_of rfl (by rfl) ?_
      go_simp
      exact k_of (HK.out _ HB2.out HG2.out) (by rw [← u1_eq eG, ← u1_eq e9] <;> kernel_rfl)
  case step =>
    iterate 14 (refine all_succ ?_ ?_)
    · exact all_zero
    · intro _ _ u W hB hv hd K hK
      have HK := Lib.hid hK; clear hK
      refine wpOp_of rfl (by rfl) ?_
      go_simp
      exact k_of (HK.out (.slice (some ⟨bb, oo, none⟩) mm mc) _ rfl hB (Below.refl _ _)) (by kernel_rfl)
    · intro _ _ u W hB hv hd K hK
      have HK := Lib.hid hK; clear hK
      refine wpOp_of rfl (by rfl) ?_
      go_simp
      exact k_of (HK.out (.int .i64 (kk : Int)) _ rfl hB (Below.refl _ _)) (by kernel_rfl)
    · intro _ _ u W hB hv hd K hK
      have HK := Lib.hid hK; clear hK
      have e0 : u 0 = .slice (some ⟨bb, oo, none⟩) mm mc := hd 0 (by decide +kernel) (by decide) (by decide)
      have e1 : u 1 = .int .i64 (kk : Int) := hd 1 (by decide +kernel) (by decide) (by decide)
      refine wpOp_of rfl (by rfl) ?_
      go_simp
      exact k_of (HK.out (.pointer (some ⟨bb, oo + kk * 7, none⟩)) _ rfl hB (Below.refl _ _)) (by rw [← u1_eq e0, ← u1_eq e1]; kernel_rfl)
    · intro _ _ u W hB hv hd K hK
      have HK := Lib.hid hK; clear hK
      have e2 : u 2 = .pointer (some ⟨bb, oo + kk * 7, none⟩) := hd 2 (by decide +kernel) (by decide) (by decide)
      refine wpOp_of rfl (by rfl) ?_
      go_simp
      exact k_of (HK.out (.pointer (some ⟨bb, oo + kk * 7 + 2, none⟩)) _ rfl hB (Below.refl _ _)) (by rw [← u1_eq e2]; kernel_rfl)
    · intro _ _ u W hB hv hd K hK
      have HK := Lib.hid hK; clear hK
      have e3 : u 3 = .pointer (some ⟨bb, oo + kk * 7 + 2, none⟩) := hd 3 (by decide +kernel) (by decide) (by decide)
      refine wpOp_of rfl (by rfl) ?_
      obtain ⟨z2, z3, z4, z5⟩ := hx W hB.out
      go_simp
      exact k_of (HK.out (.agg #[.int .i64 x.mlo, .int .i64 x.mhi]) _ rfl hB (Below.refl _ _)) (by rw [← u1_eq e3]; kernel_rfl)
    · intro _ _ u W hB hv hd K hK
      have HK := Lib.hid hK; clear hK
      refine wpOp_of rfl (by rfl) ?_
      go_simp
      exact k_of (HK.out (.slice (some ⟨bb, oo, none⟩) mm mc) _ rfl hB (Below.refl _ _)) (by kernel_rfl)
    · intro _ _ u W hB hv hd K hK
      have HK := Lib.hid hK; clear hK
      refine wpOp_of rfl (by rfl) ?_
      go_simp
      exact k_of (HK.out (.int .i64 (kk : Int)) _ rfl hB (Below.refl _ _)) (by kernel_rfl)
    · intro _ _ u W hB hv hd K hK
      have HK := Lib.hid hK; clear hK
      have e5 : u 5 = .slice (some ⟨bb, oo, none⟩) mm mc := hd 5 (by decide +kernel) (by decide) (by decide)
      have e6 : u 6 = .int .i64 (kk : Int) := hd 6 (by decide +kernel) (by decide) (by decide)
      refine wpOp_of rfl (by rfl) ?_
      go_simp
      exact k_of (HK.out (.pointer (some ⟨bb, oo + kk * 7, none⟩)) _ rfl hB (Below.refl _ _)) (by rw [← u1_eq e5, ← u1_eq e6]; kernel_rfl)
    · intro _ _ u W hB hv hd K hK
      have HK := Lib.hid hK; clear hK
      have e7 : u 7 = .pointer (some ⟨bb, oo + kk * 7, none⟩) := hd 7 (by decide +kernel) (by decide) (by decide)
      refine wpOp_of rfl (by rfl) ?_
      go_simp
      exact k_of (HK.out (.pointer (some ⟨bb, oo + kk * 7 + 4, none⟩)) _ rfl hB (Below.refl _ _)) (by rw [← u1_eq e7]; kernel_rfl)
    · intro _ _ u W hB hv hd K hK
      have HK := Lib.hid hK; clear hK
      have e8 : u 8 = .pointer (some ⟨bb, oo + kk * 7 + 4, none⟩) := hd 8 (by decide +kernel) (by decide) (by decide)
      refine wpOp_of rfl (by rfl) ?_
      obtain ⟨z2, z3, z4, z5⟩ := hx W hB.out
      go_simp
      exact k_of (HK.out (.agg #[.int .i64 x.slo, .int .i64 x.shi]) _ rfl hB (Below.refl _ _)) (by rw [← u1_eq e8]; kernel_rfl)
    · intro ha; exact absurd (by decide) ha
    · intro ha; exact absurd (by decide) ha
    · intro _ ha; exact absurd (by decide) ha
    · intro _ ha; exact absurd (by decide) ha
  case done =>
    intro L u W hL hB hd hV
    have hv0 := hV.ok ⟨some 10, 0, 12, 36, #[.int .i64 0, .int .i64 0], #[.int .i64 x.mlo, .int .i64 x.mhi]⟩ (by simp)
    obtain ⟨G0, eG0, hN0⟩ := hv0.1 10 rfl (hL 10 (by decide))
    have hB0 := hv0.2 G0 ⟨hL 10 (by decide), eG0, hN0⟩
    rw [if_pos (hL 12 (by decide))] at hB0
    have hv1 := hV.ok ⟨some 11, 0, 13, 36, #[.int .i64 0, .int .i64 0], #[.int .i64 x.slo, .int .i64 x.shi]⟩ (by simp)
    obtain ⟨G1, eG1, hN1⟩ := hv1.1 11 rfl (hL 11 (by decide))
    have hB1 := hv1.2 G1 ⟨hL 11 (by decide), eG1, hN1⟩
    rw [if_pos (hL 13 (by decide))] at hB1
    exact k_of (HQ.out u G0 G1 W hB.out hN0 hN1 hB0 hB1) (by simp only [eG0, eG1])
end Go.Proofs.Ytalghiecjhfflaa

namespace Go.Proofs.Ytalghiecjhfflaa
open Go.RowKit Go.Shelf Go.Maps
attribute [local go_sem] Oper.semAt_some


theorem SpansIn.get {w : World} {A : Option Addr} {l : List (Int × Int)} (h : SpansIn w A l) {i : Nat} {p : Int × Int} (hi : l[i]? = some p) :
    ∃ b o, A = some ⟨b, o, none⟩ ∧ b < w.heap.size ∧ w.cell? ⟨b, o + i * 2, none⟩ = some (.int .i64 p.1) ∧ w.cell? ⟨b, o + i * 2 + 1, none⟩ = some (.int .i64 p.2) := by
  obtain ⟨b, o, e, hb, hc⟩ := h.at_ (by have := (List.getElem?_eq_some_iff.1 hi).1; omega)
  exact ⟨b, o, e, hb, hc i p hi 0 (by omega), hc i p hi 1 (by omega)⟩
set_option maxRecDepth 100000 in
set_option maxHeartbeats 4000000 in
theorem lots_any {w : World} {A T : Option Addr} {c tc : Nat} {l : List Bw} {t : List (Int × Int)} (h : BwsIn w A l) (_hc : l.length ≤ c) (ht : SpansIn w T t) :
    Calls Try.prog 66 #[.slice A l.length c, .slice T t.length tc] w fun e w' => e = .returned (.int .i64 (lotsE l t)) ∧ Below w.heap.size w w' := by
  have hl := h.len
  have htl := ht.len
  have HH := Lib.hid h
  have HT := Lib.hid ht
  clear h ht
  by_cases hlen : t.length = l.length
  · have HL := Lib.hid hlen
    have hn0 : ((t.length : Int) != (l.length : Int)) = false := by simp [hlen]
    clear hlen
    go_enter Try.func66, Try.ntmps66
    go_wp2_with fail
    go_loopw [16] (fun i W => ∃ k : Nat, k ≤ t.length ∧ i = .int .i64 k ∧ Hid (∀ j, j < k → lotK l t j = true) ∧ Hid (Below w.heap.size w W)) (fun i _ => t.length - (intOf i).toNat)
    case atStart => exact ⟨0, by omega, rfl, fun j hj => absurd hj (by omega), Below.refl _ _⟩
    case round =>
      obtain ⟨k, hk, rfl, HZ, HB⟩ := hrel
      clear hn0
      by_cases hlt : k < t.length
      · have hkl : k < l.length := by have := HL.out; omega
        obtain ⟨x, hx⟩ : ∃ x, l[k]? = some x := ⟨l[k], List.getElem?_eq_getElem hkl⟩
        obtain ⟨y, hy⟩ : ∃ y, t[k]? = some y := ⟨t[k], List.getElem?_eq_getElem hlt⟩
        obtain ⟨bb, o, rfl, hbb, c0, c1, c2, c3, c4, c5, c6⟩ := HH.out.get hx
        obtain ⟨tb, tof, rfl, htb, d0, d1⟩ := (HT.out.on HB.out).get hy
        have HX := Lib.hid (And.intro hbb (And.intro c2 (And.intro c3 (And.intro c4 c5))))
        have HN := Lib.hid (fun hn : lotB x y = false => lotsE_no HL.out hx hy hn)
        have HY := Lib.hid (fun hn : lotB x y = true => (show lotK l t k = true by unfold lotK; rw [hx, hy]; exact hn))
        clear c0 c1 c2 c3 c4 c5 c6 hbb hx hy
        go_wp2_with fail
        have hd0 := Bx.alloc (Bx.nil wr) #[.int .i64 y.1, .int .i64 y.2] 102
        refine wp_of_eq (lo6_region (S := fun W => Blk W wr.heap.size 102 #[.int .i64 y.1, .int .i64 y.2] ∧ SB w (wr.heap.size + 1) W) (N := wr.heap.size + 1) (bb := bb) (oo := o) (kk := k) (x := x) hkl
          (fun W h => by have e := HX.out; exact ⟨(h.2.b.cell (p := ⟨bb, _, none⟩) e.1).trans e.2.1, (h.2.b.cell (p := ⟨bb, _, none⟩) e.1).trans e.2.2.1, (h.2.b.cell (p := ⟨bb, _, none⟩) e.1).trans e.2.2.2.1, (h.2.b.cell (p := ⟨bb, _, none⟩) e.1).trans e.2.2.2.2⟩)
          (fun _ _ h hb => ⟨h.1.on hb, h.2.on hb⟩) (fun W W' G h hg hG => ⟨h.1.grown_ hg (by omega), h.2.put hg (by have := HB.out.size; omega)⟩) (fun W h => h.2.n) (Lib.hid ⟨hd0.get (by simp), HB.out.trans (hd0.b.mono HB.out.size), by simp⟩) (Lib.hid fun u G0 G1 W hS hG0 hG1 hB1 hB2 => ?_)) (by kernel_rfl)
        have v1 := hB1.cell 0; have v2 := hB1.cell 1; have v3 := hB2.cell 0; have v4 := hB2.cell 1; have v5 := hS.1.cell 0; have v6 := hS.1.cell 1
        have vl := hS.1.lt; have vl1 := hB1.lt; have vl2 := hB2.lt
        have HBW := Lib.hid hS.2.b
        clear hB1 hB2 hS hG0 hG1 hd0 d0 d1
        cases ha : inB y.1 x.mlo x.mhi with
        | false =>
          have HA := Lib.hid ha
          have HR := Lib.hid (HN.out (by unfold lotB; rw [ha]; rfl))
          clear ha
          go_wp2_with (first
            | (go_at_call 48; (with_reducible refine Calls.mono (within_oneB x.mlo x.mhi y.1 (c := 1) ?_) ?_); exact ints1_at (by simp); rintro e w1 ⟨rfl, hb⟩; rw [HA.out]; have HB3 := Lib.hid ((HBW.out.alloc HBW.out.size (.cells #[.int .i64 y.1] 3)).trans (hb.mono (HBW.out.alloc HBW.out.size (.cells #[.int .i64 y.1] 3)).size)); clear hb)
            | fail)
          go_ret
          exact ⟨ret_i64 HR.out.symm, HB3.out⟩
        | true =>
          have HA := Lib.hid ha
          cases hb0 : inB y.2 x.slo x.shi with
          | false =>
            have HA2 := Lib.hid hb0
            have HR := Lib.hid (HN.out (by unfold lotB; rw [ha, hb0]; rfl))
            clear ha hb0
            go_wp2_with (first
              | (go_at_call 48; (with_reducible refine Calls.mono (within_oneB x.mlo x.mhi y.1 (c := 1) ?_) ?_); exact ints1_at (by simp); rintro e w1 ⟨rfl, hb⟩; rw [HA.out]; have HB3 := Lib.hid ((HBW.out.alloc HBW.out.size (.cells #[.int .i64 y.1] 3)).trans (hb.mono (HBW.out.alloc HBW.out.size (.cells #[.int .i64 y.1] 3)).size)); have q3 := (hb.cell (p := ⟨G1, 0, none⟩) (by simp; omega)).trans (((Below.refl _ W).alloc (Nat.le_refl _) (.cells #[.int .i64 y.1] 3)).cell (p := ⟨G1, 0, none⟩) vl2); have q4 := (hb.cell (p := ⟨G1, 1, none⟩) (by simp; omega)).trans (((Below.refl _ W).alloc (Nat.le_refl _) (.cells #[.int .i64 y.1] 3)).cell (p := ⟨G1, 1, none⟩) vl2); have q6 := (hb.cell (p := ⟨wr.heap.size, 1, none⟩) (by simp; omega)).trans (((Below.refl _ W).alloc (Nat.le_refl _) (.cells #[.int .i64 y.1] 3)).cell (p := ⟨wr.heap.size, 1, none⟩) vl); rw [v3] at q3; rw [v4] at q4; rw [v6] at q6; have z1 := hb.size; simp only [World.size_alloc] at z1; clear hb)
              | (go_at_call 48; (with_reducible refine Calls.mono (within_oneB x.slo x.shi y.2 (c := 1) ?_) ?_); exact ints1_at (by simp); rintro e w1 ⟨rfl, hb⟩; rw [HA2.out]; have HB4 := Lib.hid ((HB3.out.alloc HB3.out.size (.cells #[.int .i64 y.2] 3)).trans (hb.mono (HB3.out.alloc HB3.out.size (.cells #[.int .i64 y.2] 3)).size)); clear hb)
              | fail)
            go_ret
            exact ⟨ret_i64 HR.out.symm, HB4.out⟩
          | true =>
            have HA2 := Lib.hid hb0
            have HR := Lib.hid (HY.out (by unfold lotB; rw [ha, hb0]; rfl))
            have HZ2 : Hid (∀ j, j < k + 1 → lotK l t j = true) := by
              intro j hj
              by_cases hjk : j = k
              · subst hjk; exact HR.out
              · exact HZ.out j (by omega)
            clear ha hb0
            go_wp2_with (first
              | (go_at_call 48; (with_reducible refine Calls.mono (within_oneB x.mlo x.mhi y.1 (c := 1) ?_) ?_); exact ints1_at (by simp); rintro e w1 ⟨rfl, hb⟩; rw [HA.out]; have HB3 := Lib.hid ((HBW.out.alloc HBW.out.size (.cells #[.int .i64 y.1] 3)).trans (hb.mono (HBW.out.alloc HBW.out.size (.cells #[.int .i64 y.1] 3)).size)); have q3 := (hb.cell (p := ⟨G1, 0, none⟩) (by simp; omega)).trans (((Below.refl _ W).alloc (Nat.le_refl _) (.cells #[.int .i64 y.1] 3)).cell (p := ⟨G1, 0, none⟩) vl2); have q4 := (hb.cell (p := ⟨G1, 1, none⟩) (by simp; omega)).trans (((Below.refl _ W).alloc (Nat.le_refl _) (.cells #[.int .i64 y.1] 3)).cell (p := ⟨G1, 1, none⟩) vl2); have q6 := (hb.cell (p := ⟨wr.heap.size, 1, none⟩) (by simp; omega)).trans (((Below.refl _ W).alloc (Nat.le_refl _) (.cells #[.int .i64 y.1] 3)).cell (p := ⟨wr.heap.size, 1, none⟩) vl); rw [v3] at q3; rw [v4] at q4; rw [v6] at q6; have z1 := hb.size; simp only [World.size_alloc] at z1; clear hb)
              | (go_at_call 48; (with_reducible refine Calls.mono (within_oneB x.slo x.shi y.2 (c := 1) ?_) ?_); exact ints1_at (by simp); rintro e w1 ⟨rfl, hb⟩; rw [HA2.out]; have HB4 := Lib.hid ((HB3.out.alloc HB3.out.size (.cells #[.int .i64 y.2] 3)).trans (hb.mono (HB3.out.alloc HB3.out.size (.cells #[.int .i64 y.2] 3)).size)); clear hb)
              | fail)
            go_roundw
            case rel => exact ⟨k + 1, Nat.succ_le_of_lt hlt, by go_num, HZ2, HB4⟩
            case measure => exact meas_one hlt
      · have hke : k = t.length := by omega
        have HR := Lib.hid (lotsE_yes HL.out (fun j hj => HZ.out j (by omega)))
        clear HZ
        go_wp2_with fail
        go_ret
        exact ⟨ret_i64 HR.out.symm, HB.out⟩
  · have HR := Lib.hid (show lotsE l t = 3 by unfold lotsE; rw [if_pos hlen])
    have hn0 : ((t.length : Int) != (l.length : Int)) = true := by simp; omega
    clear hlen
    go_enter Try.func66, Try.ntmps66
    go_wp2_with fail
    go_ret
    exact ⟨ret_i64 HR.out.symm, Below.refl _ _⟩
end Go.Proofs.Ytalghiecjhfflaa

namespace Go.Proofs.Ytalghiecjhfflaa
open Go.RowKit Go.Shelf Go.Maps
attribute [local go_sem] Oper.semAt_some


def bwCell (x : Bw) : List Value := [.string x.nm, .int .i64 x.pr, .int .i64 x.mlo, .int .i64 x.mhi, .int .i64 x.slo, .int .i64 x.shi, .slice x.ca x.cv.length x.cc]
def bwCells (l : List Bw) : List Value := l.flatMap bwCell
/-- Waxes that a call made (their curves lie where they lay). -/
def BwsOut (B : Nat) (w' : World) (v : Value) (l : List Bw) : Prop := w'.ownsRow B 78 7 v l.length (bwCells l)
theorem und_bws : Try.prog.underlying 22 = some (.slice 78) := by kernel_rfl
theorem infoBw : (Try.prog.info? 78).map (fun i => (i.zero, i.size, i.bytes)) = some (some (.agg #[.string ⟨#[]⟩, .int .i64 0, .int .i64 0, .int .i64 0, .int .i64 0, .int .i64 0, .slice none 0 0]), 7, 80) := by kernel_rfl
theorem bwCells_at : ∀ (l : List Bw) (i : Nat) (x : Bw), l[i]? = some x → ∀ j, j < 7 → (bwCells l)[i * 7 + j]? = some (encBw x j)
  | [], i, x, h, _, _ => by simp at h
  | y :: l, 0, x, h, j, hj => by
    simp at h; subst h
    match j, hj with
    | 0, _ => rfl
    | 1, _ => rfl
    | 2, _ => rfl
    | 3, _ => rfl
    | 4, _ => rfl
    | 5, _ => rfl
    | 6, _ => rfl
  | y :: l, i + 1, x, h, j, hj => by
    have ih := bwCells_at l i x (by simpa using h) j hj
    show (bwCell y ++ bwCells l)[(i + 1) * 7 + j]? = _
    rw [List.getElem?_append_right (by simp [bwCell]; omega)]
    rw [← ih]; congr 1; simp [bwCell]; omega
theorem bwCells_len : ∀ l : List Bw, (bwCells l).length = l.length * 7
  | [] => rfl
  | y :: l => by
    have ih := bwCells_len l
    show (bwCell y ++ bwCells l).length = _
    rw [List.length_append, ih]
    simp [bwCell]; omega
/-- A wax is changed in its place: cell by cell. -/
theorem bwCells_set : ∀ (l : List Bw) (i : Nat) (x y : Bw), l[i]? = some x → (∀ j, j < 7 → j ≠ 2 → j ≠ 3 → j ≠ 4 → j ≠ 5 → encBw x j = encBw y j) →
    ((((bwCells l).set (i * 7 + 2) (.int .i64 y.mlo)).set (i * 7 + 3) (.int .i64 y.mhi)).set (i * 7 + 4) (.int .i64 y.slo)).set (i * 7 + 5) (.int .i64 y.shi) = bwCells (l.set i y)
  | [], i, x, y, h, _ => by simp at h
  | z :: l, 0, x, y, h, he => by
    simp at h; subst h
    have h0 := he 0 (by omega) (by omega) (by omega) (by omega) (by omega)
    have h1 := he 1 (by omega) (by omega) (by omega) (by omega) (by omega)
    have h6 := he 6 (by omega) (by omega) (by omega) (by omega) (by omega)
    simp only [encBw] at h0 h1 h6
    simp at h0 h1 h6
    simp [bwCells, bwCell, h0, h1, h6]
  | z :: l, i + 1, x, y, h, he => by
    have ih := bwCells_set l i x y (by simpa using h) he
    have e : ∀ (s : List Value) (j : Nat) (u : Value), (bwCell z ++ s).set ((i + 1) * 7 + j) u = bwCell z ++ s.set (i * 7 + j) u := fun s j u => by
      rw [List.set_append_right _ _ (by simp [bwCell]; omega)]
      congr 2; simp [bwCell]; omega
    show ((((bwCell z ++ bwCells l).set ((i + 1) * 7 + 2) _).set _ _).set _ _).set _ _ = bwCell z ++ bwCells (l.set i y)
    rw [e, e, e, e, ih]
theorem BwsOut.reads {B n c : Nat} {w : World} {A : Option Addr} {l : List Bw} (h : BwsOut B w (.slice A n c) l) : n = l.length ∧ RowAt 7 encBw w w.heap.size A l ∧ l.length ≤ c ∧ l.length ≤ maxLen :=
  own_rowAt (enc := encBw) h (bwCells_at l)
/-- One cell of what a call owns is laid anew. -/
theorem own_set {B n n2 c sz g j : Nat} {e : TypeId} {w : World} {xs : List Value} (h : w.ownsRow B e sz (.slice (some ⟨g, 0, none⟩) n2 c) n xs) (_hj : j < n * sz) (u : Value) : (w.setCell ⟨g, j, none⟩ u).ownsRow B e sz (.slice (some ⟨g, 0, none⟩) n2 c) n (xs.set j u) := by
  refine ⟨by rw [List.length_set]; exact h.1, .inr ?_⟩
  rcases h.2 with ⟨h1, _⟩ | ⟨g', cap, cur, h1, h2, h3, h4, h5, h6, h7⟩
  · cases h1
  · cases h1
    refine ⟨g, _, cur.setIfInBounds j u, rfl, h2, ?_, h4, h5, by simpa using h6, ?_⟩
    · simp [World.setCell, Array.getElem?_modify, h3]
    · rw [Array.toList_setIfInBounds, List.take_set, h7]
theorem own_cell_at {B n n2 c sz g j : Nat} {e : TypeId} {w : World} {xs : List Value} {u : Value} (h : w.ownsRow B e sz (.slice (some ⟨g, 0, none⟩) n2 c) n xs) (hj : xs[j]? = some u) : w.cell? ⟨g, j, none⟩ = some u ∧ w.frozen? ⟨g, j, none⟩ = false := by
  rcases h.2 with ⟨h1, _⟩ | ⟨g', cap, cur, h1, h2, h3, h4, h5, h6, h7⟩
  · cases h1
  · cases h1
    have hb : Blk w g e cur := h3
    refine ⟨?_, hb.frozen j⟩
    have hc := hb.cell j
    rw [hc]
    have h8 : (cur.toList.take (n * sz))[j]? = some u := by rw [h7]; exact hj
    rw [List.getElem?_take] at h8
    split at h8
    · simpa using h8
    · cases h8
theorem own_at {B n n2 c sz g : Nat} {e : TypeId} {w : World} {xs : List Value} (h : w.ownsRow B e sz (.slice (some ⟨g, 0, none⟩) n2 c) n xs) : B ≤ g ∧ g < w.heap.size := by
  have := World.ownsRow.lt h g rfl
  exact this
section
variable {ops : Array Oper} {rest : List Oper} {o : Oper} {a : Act} {w : World} {Q : Exit → Act → World → Prop} {K : Act → World → Prop} {E : Prop} {B : Nat} {v : Value}
theorem own_none (w : World) (B : Nat) (T : TypeId) (sz : Nat) (hB : B ≤ w.heap.size) : (w.alloc (.cells #[] T)).ownsRow B T sz (.slice (some ⟨w.heap.size, 0, none⟩) 0 0) 0 [] :=
  ⟨by simp, .inr ⟨w.heap.size, 0, _, rfl, hB, heap_alloc_new w _, Nat.le_refl _, Nat.zero_le _, by simp, by simp⟩⟩
theorem appw_many (hgd : o.guard = none) (s x : Operand) (ho : o.op = .call { callee := .builtin .append, args := #[s, x], argTypes := #[22, 22] })
    {l2 : List Bw} {b of c : Nat} (hs : a.eval s = v) (hown : w.ownsRow B 78 7 v 0 []) (hx : a.eval x = .slice (some ⟨b, of, none⟩) l2.length c) (hc : BwsIn w (some ⟨b, of, none⟩) l2) (h0 : 0 < l2.length) (hl : l2.length < 1000000) (hB : B ≤ w.heap.size)
    (h : ∀ g cap w', BwsOut B w' (.slice (some ⟨g, 0, none⟩) l2.length cap) l2 → Below B w w' → w.grownBy w' v.ownBlock → wpList Try.prog ops Q rest (a.put o.dst (.slice (some ⟨g, 0, none⟩) l2.length cap)) w') : wpList Try.prog ops Q (o :: rest) a w := by
  obtain ⟨i0, hi0, hz0, hz1, hz2⟩ := info_parts infoBw
  refine wpList_append_lies w hgd s x 22 ho B 78 i0 _ 7 80 und_bws hi0 hz0 hz1 hz2 rfl (by decide) v 0 [] hs hown ⟨b, of, none⟩ l2.length c (bwCells l2) hx (bwCells_len l2) ?_ ?_ h0 (by unfold maxLen; omega) (by omega) hB _ rfl ?_
  · intro j u hj
    have hjl : j < l2.length * 7 := by have := (List.getElem?_eq_some_iff.1 hj).1; rwa [bwCells_len] at this
    have hd := Nat.div_add_mod j 7
    have hm := Nat.mod_lt j (show 0 < 7 by decide)
    obtain ⟨x, hx2⟩ : ∃ x, l2[j / 7]? = some x := ⟨l2[j / 7]'(by omega), List.getElem?_eq_getElem _⟩
    have h3 := bwCells_at l2 (j / 7) x hx2 (j % 7) hm
    rw [show j / 7 * 7 + j % 7 = j by omega, hj] at h3
    cases h3
    obtain ⟨b2, o2, he, _, hcc⟩ := hc.at_ h0
    cases he
    have h4 := hcc (j / 7) x hx2 (j % 7) hm
    rw [show of + j / 7 * 7 + j % 7 = of + j by omega] at h4
    by_cases hj0 : j = 0
    · subst hj0; simpa [Addr.add] using h4
    · simpa [Addr.add, hj0] using h4
  · intro u hu
    obtain ⟨x, hx2, hu2⟩ := List.mem_flatMap.1 hu
    simp only [bwCell, List.mem_cons, List.not_mem_nil, or_false] at hu2
    rcases hu2 with rfl | rfl | rfl | rfl | rfl | rfl | rfl <;> rfl
  · intro g cap w' h1 h2 _ _
    rw [Nat.zero_add] at h1 ⊢
    exact h g cap w' (by unfold BwsOut; simpa using h1) (own_low hown h2 hB) h2
theorem appi_many (hgd : o.guard = none) (s x : Operand) (ho : o.op = .call { callee := .builtin .append, args := #[s, x], argTypes := #[31, 31] })
    {l2 : List Int} {b of c : Nat} (hs : a.eval s = v) (hown : w.ownsRow B 3 1 v 0 []) (hx : a.eval x = .slice (some ⟨b, of, none⟩) l2.length c) (hc : IntsIn w (some ⟨b, of, none⟩) l2) (h0 : 0 < l2.length) (hl : l2.length < 1000000) (hB : B ≤ w.heap.size)
    (h : ∀ g cap w', IntsOut B w' (.slice (some ⟨g, 0, none⟩) l2.length cap) l2 → Below B w w' → w.grownBy w' v.ownBlock → wpList Try.prog ops Q rest (a.put o.dst (.slice (some ⟨g, 0, none⟩) l2.length cap)) w') : wpList Try.prog ops Q (o :: rest) a w := by
  obtain ⟨i0, hi0, hz0, hz1, hz2⟩ := info_parts infoInt
  refine wpList_append_lies w hgd s x 31 ho B 3 i0 (.int .i64 0) 1 8 und_ints hi0 hz0 hz1 hz2 rfl (by decide) v 0 [] hs hown ⟨b, of, none⟩ l2.length c (l2.map (Value.int .i64)) hx (by simp) ?_ (by simp [Value.oneCell']) h0 (by unfold maxLen; omega) (by omega) hB _ rfl ?_
  · intro j u hj
    rw [List.getElem?_map] at hj
    obtain ⟨z, hz, rfl⟩ := Option.map_eq_some_iff.1 hj
    have h4 := ints_cell hc hz
    by_cases hj0 : j = 0
    · subst hj0; simpa [Addr.add] using h4
    · simpa [Addr.add, hj0] using h4
  · intro g cap w' h1 h2 _ _
    rw [Nat.zero_add] at h1 ⊢
    exact h g cap w' (by unfold IntsOut; simpa using h1) (own_low hown h2 hB) h2
end
end Go.Proofs.Ytalghiecjhfflaa

namespace Go.Proofs.Ytalghiecjhfflaa
open Go.RowKit Go.Shelf Go.Maps
attribute [local go_sem] Oper.semAt_some


set_option maxRecDepth 100000 in
theorem cloneW_any {w : World} {b o c : Nat} {l : List Bw} (h : BwsIn w (some ⟨b, o, none⟩) l) (h0 : 0 < l.length) (h8 : l.length ≤ 1000) :
    Calls Try.prog 67 #[.slice (some ⟨b, o, none⟩) l.length c] w fun e w' => ∃ g cap, e = .returned (.slice (some ⟨g, 0, none⟩) l.length cap) ∧ BwsOut w.heap.size w' (.slice (some ⟨g, 0, none⟩) l.length cap) l ∧ Below w.heap.size w w' := by
  have HI := Lib.hid h
  have HB := Lib.hid ((Below.refl _ w).alloc (Nat.le_refl _) (.cells #[] 78))
  clear h
  have hn : ∀ n c W, (binOp .eql 22 (.slice (some ⟨b, o, none⟩) n c) (.slice none 0 0)).run Try.prog W = .ok (.bool false) W := fun n c W => by kernel_rfl
  go_enter Try.func67, Try.ntmps67
  go_wp2_with (first
    | (at_builtin; go_must (refine appw_many rfl _ _ rfl (l2 := l) rfl (own_none w w.heap.size 78 7 (Nat.le_refl _)) rfl (HI.out.on HB.out) h0 (by omega) (by simp) ?_); intro g cap w4 h1 h2 h3)
    | fail)
  go_ret
  exact ⟨_, _, rfl, h1, HB.out.trans h2⟩


set_option maxRecDepth 100000 in
theorem cloneI_any {w : World} {b o c : Nat} {l : List Int} (h : IntsIn w (some ⟨b, o, none⟩) l) (h0 : 0 < l.length) (h8 : l.length ≤ 1000) :
    Calls Try.prog 104 #[.slice (some ⟨b, o, none⟩) l.length c] w fun e w' => ∃ g cap, e = .returned (.slice (some ⟨g, 0, none⟩) l.length cap) ∧ IntsOut w.heap.size w' (.slice (some ⟨g, 0, none⟩) l.length cap) l ∧ Below w.heap.size w w' := by
  have HI := Lib.hid h
  have HB := Lib.hid ((Below.refl _ w).alloc (Nat.le_refl _) (.cells #[] 3))
  clear h
  have hn : ∀ n c W, (binOp .eql 31 (.slice (some ⟨b, o, none⟩) n c) (.slice none 0 0)).run Try.prog W = .ok (.bool false) W := fun n c W => by kernel_rfl
  go_enter Try.func104, Try.ntmps104
  go_wp2_with (first
    | (at_builtin; go_must (refine appi_many rfl _ _ rfl (l2 := l) rfl (own_none w w.heap.size 3 1 (Nat.le_refl _)) rfl (HI.out.on HB.out) h0 (by omega) (by simp) ?_); intro g cap w4 h1 h2 h3)
    | fail)
  go_ret
  exact ⟨_, _, rfl, h1, HB.out.trans h2⟩
end Go.Proofs.Ytalghiecjhfflaa

namespace Go.Proofs.Ytalghiecjhfflaa
open Go.RowKit Go.Shelf Go.Maps
attribute [local go_sem] Oper.semAt_some


/-- A wax that is just like a lot of it; the first k waxes so. -/
def exB (x : Bw) (y : Int × Int) : Bw := ⟨x.nm, x.pr, y.1, y.1, y.2, y.2, x.ca, x.cv, x.cc⟩
def exK (l : List Bw) (t : List (Int × Int)) : Nat → List Bw
  | 0 => l
  | k + 1 => match l[k]?, t[k]? with
    | some x, some y => (exK l t k).set k (exB x y)
    | _, _ => exK l t k
theorem exK_len (l : List Bw) (t : List (Int × Int)) : ∀ k, (exK l t k).length = l.length
  | 0 => rfl
  | k + 1 => by
    rw [exK]
    split
    · rw [List.length_set, exK_len l t k]
    · exact exK_len l t k
theorem exK_succ {l : List Bw} {t : List (Int × Int)} {k : Nat} {x : Bw} {y : Int × Int} (hx : l[k]? = some x) (hy : t[k]? = some y) : exK l t (k + 1) = (exK l t k).set k (exB x y) := by rw [exK, hx, hy]
theorem exK_get {l : List Bw} {t : List (Int × Int)} (hlen : t.length = l.length) : ∀ (k i : Nat) (x : Bw), k ≤ l.length → l[i]? = some x → (exK l t k)[i]? = if i < k then (t[i]?).map (exB x) else some x
  | 0, i, x, _, hx => by simpa [exK] using hx
  | k + 1, i, x, hk, hx => by
    obtain ⟨z, hz⟩ : ∃ z, l[k]? = some z := ⟨l[k]'(by omega), List.getElem?_eq_getElem _⟩
    obtain ⟨y, hy⟩ : ∃ y, t[k]? = some y := ⟨t[k]'(by omega), List.getElem?_eq_getElem _⟩
    rw [exK_succ hz hy, List.getElem?_set]
    by_cases hik : k = i
    · subst hik
      rw [hx] at hz; cases hz
      rw [if_pos rfl, if_pos (by rw [exK_len]; omega), if_pos (by omega), hy]; rfl
    · rw [if_neg hik, exK_get hlen k i x (by omega) hx]
      by_cases hlt : i < k
      · rw [if_pos hlt, if_pos (by omega)]
      · rw [if_neg hlt, if_neg (by omega)]
theorem exK_all {l : List Bw} {t : List (Int × Int)} (hlen : t.length = l.length) : exK l t l.length = List.zipWith exB l t := by
  refine List.ext_getElem? fun i => ?_
  by_cases hi : i < l.length
  · obtain ⟨x, hx⟩ : ∃ x, l[i]? = some x := ⟨l[i], List.getElem?_eq_getElem hi⟩
    obtain ⟨y, hy⟩ : ∃ y, t[i]? = some y := ⟨t[i]'(by omega), List.getElem?_eq_getElem _⟩
    rw [exK_get hlen _ i x (Nat.le_refl _) hx, if_pos hi, List.getElem?_zipWith, hx, hy]; rfl
  · rw [List.getElem?_eq_none (by rw [exK_len]; omega), List.getElem?_eq_none (by rw [List.length_zipWith]; omega)]
theorem ex_mem {l : List Bw} {t : List (Int × Int)} {z : Bw} (h : z ∈ List.zipWith exB l t) : ∃ (i : Nat) (x : Bw) (y : Int × Int), l[i]? = some x ∧ t[i]? = some y ∧ z = exB x y := by
  obtain ⟨i, hi⟩ := List.getElem?_of_mem h
  rw [List.getElem?_zipWith] at hi
  cases h1 : l[i]? with
  | none => rw [h1] at hi; simp at hi
  | some x =>
    cases h2 : t[i]? with
    | none => rw [h1, h2] at hi; simp at hi
    | some y => rw [h1, h2] at hi; simp at hi; exact ⟨i, x, y, h1, h2, hi.symm⟩
theorem ex_ok {l : List Bw} {t : List (Int × Int)} (hl : ∀ x ∈ l, BwOk x) (ht : lotsE l t = 0) : ∀ z ∈ List.zipWith exB l t, BwOk z := fun z hz => by
  obtain ⟨i, x, y, hx, hy, rfl⟩ := ex_mem hz
  have ok := hl x (List.mem_of_getElem? hx)
  obtain ⟨h1, h2⟩ := (lots_ok.1 ht).2 i x y hx hy
  exact ⟨ok.pr, ⟨by show (0 : Int) ≤ y.1; have := ok.m; omega, Int.le_refl _, by show y.1 ≤ 2000; have := ok.m; omega⟩, ⟨by show (0 : Int) ≤ y.2; have := ok.s; omega, Int.le_refl _, by show y.2 ≤ 1000; have := ok.s; omega⟩, ok.len, ok.cv, ok.up⟩
/-- Waxes that a call owns, as waxes that come in. -/
theorem ex_in {w w' : World} {A : Option Addr} {B g n cap : Nat} {l l2 : List Bw} (h : BwsIn w A l) (hb : Below w.heap.size w w') (ho : BwsOut B w' (.slice (some ⟨g, 0, none⟩) n cap) l2) (hm : ∀ z ∈ l2, ∃ x ∈ l, z.ca = x.ca ∧ z.cv = x.cv ∧ z.nm = x.nm) : BwsIn w' (some ⟨g, 0, none⟩) l2 := by
  obtain ⟨h1, h2, h3, h4⟩ := ho.reads
  refine ⟨h2, fun z hz => ?_, by unfold maxLen at h4; omega, fun z hz => ?_⟩
  · obtain ⟨x, hx, e1, e2, e3⟩ := hm z hz
    rw [e1, e2]; exact (h.cv x hx).on hb
  · obtain ⟨x, hx, e1, e2, e3⟩ := hm z hz
    rw [e3]; exact h.nm x hx
/-- Waxes of the call's own, and what was there. -/
structure OtB (w1 : World) (v : Value) (l : List Bw) (W : World) : Prop where
  own : BwsOut w1.heap.size W v l
  b : Below w1.heap.size w1 W
theorem OtB.on {w1 W W' : World} {v : Value} {l : List Bw} (h : OtB w1 v l W) (hb : Below W.heap.size W W') : OtB w1 v l W' := ⟨own_below h.own hb, h.b.trans (hb.mono h.b.size)⟩
/-- What Made answers. -/
def madeV (l : List Bw) (r : List Int) (t : List (Int × Int)) : Int × Int × Int := if orE [bdE l, recE l.length r, lotsE l t] ≠ 0 then (0, 0, orE [bdE l, recE l.length r, lotsE l t]) else (figV softV (List.zipWith exB l t) r, figV (fun x n => n * x.slo) (List.zipWith exB l t) r, 0)

/-- What each operation leaves. -/
def md12R (_P : Nat) (f : Fg) : Nat → Value → World → Prop
  | 0, v, _ => v = .agg #[.int .i64 f.s, .int .i64 f.h, .int .i64 f.a, .int .i64 f.z, .int .i64 f.c]
  | 1, v, _ => v = .agg #[.int .i64 f.s, .int .i64 f.h]
  | 2, v, _ => v = .int .i64 f.s
  | 3, v, _ => v = .agg #[.int .i64 f.s, .int .i64 f.h, .int .i64 f.a, .int .i64 f.z, .int .i64 f.c]
  | 4, v, _ => v = .agg #[.int .i64 f.a, .int .i64 f.z]
  | 5, v, _ => v = .int .i64 f.a
  | 6, v, _ => v = .int .i64 f.s
  | 7, v, _ => v = .int .i64 f.a
  | 8, v, _ => v = .int .i64 0
  | _, _, _ => True
theorem md12R_on (P : Nat) (f : Fg) : ∀ i, i < 9 → ∀ v W W', md12R P f i v W → Below W.heap.size W W' → md12R P f i v W' := by
  iterate 9 (refine all_succ ?_ ?_)
  · exact all_zero
  · exact fun _ _ _ h _ => h
  · exact fun _ _ _ h _ => h
  · exact fun _ _ _ h _ => h
  · exact fun _ _ _ h _ => h
  · exact fun _ _ _ h _ => h
  · exact fun _ _ _ h _ => h
  · exact fun _ _ _ h _ => h
  · exact fun _ _ _ h _ => h
  · exact fun _ _ _ h _ => h
set_option maxRecDepth 100000 in
set_option maxHeartbeats 8000000 in
theorem md12_region {S : World → Prop} (hon : ∀ W W', S W → Below W.heap.size W W' → S W') {P : Nat} {f : Fg} (hP : ∀ W, S W → Blk W P 105 #[.int .i64 f.s, .int .i64 f.h, .int .i64 f.a, .int .i64 f.z, .int .i64 f.c]) {Q : Exit → Act → World → Prop} {s0 s1 s2 s3 s4 s5 s9 s10 s11 s12 s14 s15 s16 s17 s18 s19 s20 s21 s22 s23 s24 s25 s26 s27 s28 s29 s30 s31 s32 s33 s34 s35 s36 s37 s38 s39 s40 s41 s42 s43 s44 s45 s46 s47 s48 s49 s50 s51 s52 s53 s54 s55 s56 s57 s58 : Value} {W0 : World} (HL : Hid (S W0))
    (HQ : Hid (∀ (u : Nat → Value) (W : World), S W → Q .normal ⟨#[s0, s1, s2, s3, s4, s5, .int .i64 f.s, .int .i64 f.a, .int .i64 0, s9, s10, s11, s12, .pointer (some ⟨P, 0, none⟩), s14, s15, s16, s17, s18, s19, s20, s21, s22, s23, s24, s25, s26, s27, s28, s29, s30, s31, s32, s33, s34, s35, s36, s37, s38, s39, s40, s41, s42, s43, s44, s45, s46, s47, s48, s49, s50, s51, s52, s53, s54, s55, s56, s57, s58, u 0, u 1, u 2, u 3, u 4, u 5], []⟩ W)) :
    Code.wp Try.prog ((Try.f22.body.bind (regionAt 12)).getD .skip) Q ⟨#[s0, s1, s2, s3, s4, s5, .int .i64 0, .int .i64 0, .int .i64 0, s9, s10, s11, s12, .pointer (some ⟨P, 0, none⟩), s14, s15, s16, s17, s18, s19, s20, s21, s22, s23, s24, s25, s26, s27, s28, s29, s30, s31, s32, s33, s34, s35, s36, s37, s38, s39, s40, s41, s42, s43, s44, s45, s46, s47, s48, s49, s50, s51, s52, s53, s54, s55, s56, s57, s58, undef, undef, undef, undef, undef, undef], []⟩ W0 := by
  conv => arg 2; whnf
  refine wp_region_spec (by kernel_rfl) 9 (by kernel_rfl) (fun u => ⟨#[s0, s1, s2, s3, s4, s5, u 6, u 7, u 8, s9, s10, s11, s12, .pointer (some ⟨P, 0, none⟩), s14, s15, s16, s17, s18, s19, s20, s21, s22, s23, s24, s25, s26, s27, s28, s29, s30, s31, s32, s33, s34, s35, s36, s37, s38, s39, s40, s41, s42, s43, s44, s45, s46, s47, s48, s49, s50, s51, s52, s53, s54, s55, s56, s57, s58, u 0, u 1, u 2, u 3, u 4, u 5], []⟩) (fun i => if i = 6 then .int .i64 0 else if i = 7 then .int .i64 0 else if i = 8 then .int .i64 0 else undef) (fun W => Hid (S W)) (md12R P f) (by kernel_rfl) (hon _ _ HL.out (Below.refl _ _).drew) (fun i v W W2 hi h hb => md12R_on P f i hi v W W2 h hb) (by decide +kernel) ?_ ?_
  · iterate 9 (refine all_succ ?_ ?_)
    · exact all_zero
    · intro u W hB _ hd _ K hK
      have HK := Lib.hid hK; clear hK
      refine wpOp_of rfl (by rfl) ?_
      have z0 := (hP W hB.out).cell 0; have z1 := (hP W hB.out).cell 1; have z2 := (hP W hB.out).cell 2; have z3 := (hP W hB.out).cell 3; have z4 := (hP W hB.out).cell 4
      go_simp
      exact k_of (HK.out (.agg #[.int .i64 f.s, .int .i64 f.h, .int .i64 f.a, .int .i64 f.z, .int .i64 f.c]) _ rfl hB (Below.refl _ _)) (by kernel_rfl)
    · intro u W hB _ hd _ K hK
      have HK := Lib.hid hK; clear hK
      have e0 : u 0 = .agg #[.int .i64 f.s, .int .i64 f.h, .int .i64 f.a, .int .i64 f.z, .int .i64 f.c] := hd 0 (by decide +kernel)
      refine wpOp_of rfl (by rfl) ?_
      go_simp
      refine (melt_any f.s f.h f.a f.z f.c W).mono ?_
      rintro e w' ⟨rfl, hb⟩
      exact k_of (HK.out (.agg #[.int .i64 f.s, .int .i64 f.h]) _ rfl (hon _ _ hB.out hb) hb) (by rw [← u1_eq e0]; kernel_rfl)
    · intro u W hB _ hd _ K hK
      have HK := Lib.hid hK; clear hK
      have e1 : u 1 = .agg #[.int .i64 f.s, .int .i64 f.h] := hd 1 (by decide +kernel)
      refine wpOp_of rfl (by rfl) ?_
      go_simp
      exact k_of (HK.out (.int .i64 f.s) _ rfl hB (Below.refl _ _)) (by rw [← u1_eq e1]; kernel_rfl)
    · intro u W hB _ hd _ K hK
      have HK := Lib.hid hK; clear hK
      refine wpOp_of rfl (by rfl) ?_
      have z0 := (hP W hB.out).cell 0; have z1 := (hP W hB.out).cell 1; have z2 := (hP W hB.out).cell 2; have z3 := (hP W hB.out).cell 3; have z4 := (hP W hB.out).cell 4
      go_simp
      exact k_of (HK.out (.agg #[.int .i64 f.s, .int .i64 f.h, .int .i64 f.a, .int .i64 f.z, .int .i64 f.c]) _ rfl hB (Below.refl _ _)) (by kernel_rfl)
    · intro u W hB _ hd _ K hK
      have HK := Lib.hid hK; clear hK
      have e3 : u 3 = .agg #[.int .i64 f.s, .int .i64 f.h, .int .i64 f.a, .int .i64 f.z, .int .i64 f.c] := hd 3 (by decide +kernel)
      refine wpOp_of rfl (by rfl) ?_
      go_simp
      refine (shrink_any f.s f.h f.a f.z f.c W).mono ?_
      rintro e w' ⟨rfl, hb⟩
      exact k_of (HK.out (.agg #[.int .i64 f.a, .int .i64 f.z]) _ rfl (hon _ _ hB.out hb) hb) (by rw [← u1_eq e3]; kernel_rfl)
    · intro u W hB _ hd _ K hK
      have HK := Lib.hid hK; clear hK
      have e4 : u 4 = .agg #[.int .i64 f.a, .int .i64 f.z] := hd 4 (by decide +kernel)
      refine wpOp_of rfl (by rfl) ?_
      go_simp
      exact k_of (HK.out (.int .i64 f.a) _ rfl hB (Below.refl _ _)) (by rw [← u1_eq e4]; kernel_rfl)
    · intro u W hB _ hd _ K hK
      have HK := Lib.hid hK; clear hK
      have e2 : u 2 = .int .i64 f.s := hd 2 (by decide +kernel)
      refine wpOp_of rfl (by rfl) ?_
      go_simp
      exact k_of (HK.out (.int .i64 f.s) _ rfl hB (Below.refl _ _)) (by rw [← u1_eq e2]; kernel_rfl)
    · intro u W hB _ hd _ K hK
      have HK := Lib.hid hK; clear hK
      have e5 : u 5 = .int .i64 f.a := hd 5 (by decide +kernel)
      refine wpOp_of rfl (by rfl) ?_
      go_simp
      exact k_of (HK.out (.int .i64 f.a) _ rfl hB (Below.refl _ _)) (by rw [← u1_eq e5]; kernel_rfl)
    · intro u W hB _ hd _ K hK
      have HK := Lib.hid hK; clear hK
      refine wpOp_of rfl (by rfl) ?_
      go_simp
      exact k_of (HK.out (.int .i64 0) _ rfl hB (Below.refl _ _)) (by kernel_rfl)
  · intro u W hB hd
    have e6 : u 6 = .int .i64 f.s := hd 6 (by decide)
    have e7 : u 7 = .int .i64 f.a := hd 7 (by decide)
    have e8 : u 8 = .int .i64 0 := hd 8 (by decide)
    exact k_of (HQ.out u W hB.out) (by simp only [e6, e7, e8])
end Go.Proofs.Ytalghiecjhfflaa
