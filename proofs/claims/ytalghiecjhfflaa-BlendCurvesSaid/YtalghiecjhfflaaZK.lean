/- ref02.down; Add: a region. -/
import Derived.Test.YtalghiecjhfflaaZE
namespace Go.Proofs.Ytalghiecjhfflaa
open Go.RowKit Go.Shelf Go.Maps
attribute [local go_sem] Oper.semAt_some

set_option maxRecDepth 100000 in
theorem rdown_any {a b : Int} (hb : 0 < b ∧ b ≤ 1000000) (ha : -1000000000000 ≤ a ∧ a ≤ 1000000000000) (w : World) : Calls Try.prog 77 #[.int .i64 a, .int .i64 b] w fun e w' => e = .returned (.int .i64 (flo a b)) ∧ w' = w := by
  have hb0 : ¬ (b = 0) := by omega
  have h1 := Int.tdiv_mul_add_tmod a b
  have h2 := Int.natAbs_tdiv_le_natAbs a b
  have h5 := Int.tmod_lt_of_pos a hb.1
  have h6 := Int.tmod_lt_of_pos (-a) hb.1
  rw [Int.neg_tmod] at h6
  have q1 : IntKind.i64.wrap (a.tmod b) = a.tmod b := IntWalk.i64_in _ (by omega)
  have q2 : IntKind.i64.wrap (a.tdiv b) = a.tdiv b := IntWalk.i64_in _ (by omega)
  have q3 : IntKind.i64.wrap (a.tdiv b - 1) = a.tdiv b - 1 := IntWalk.i64_in _ (by omega)
  clear h1 h2 h5 h6
  by_cases h : a.tmod b < 0
  · have H := Lib.hid (flo_t hb.1 h)
    clear hb ha
    go_enter Try.func77, Try.ntmps77
    go_wp2_with fail
    go_ret
    exact ⟨ret_i64 H.out.symm, rfl⟩
  · have H := Lib.hid (flo_f hb.1 h)
    have hd : decide (a.tmod b < 0) = false := decide_eq_false h
    clear hb ha h
    go_enter Try.func77, Try.ntmps77
    go_wp2_with fail
    go_ret
    exact ⟨ret_i64 H.out.symm, rfl⟩

/-- What each operation leaves. -/
def rad8F (cb co cn cc e f : Nat) (y1 y2 : Pt) : Nat → Value → Prop
  | 0, v => v = .slice (some ⟨cb, co, none⟩) cn cc
  | 1, v => v = .int .i64 (f : Int)
  | 2, v => v = .int .i64 (e : Int)
  | 3, v => v = .pointer (some ⟨cb, co + e * 2, none⟩)
  | 4, v => v = .agg #[.int .i64 y1.p, .int .i64 y1.a]
  | 5, v => v = .slice (some ⟨cb, co, none⟩) cn cc
  | 6, v => v = .int .i64 (f : Int)
  | 7, v => v = .pointer (some ⟨cb, co + f * 2, none⟩)
  | 8, v => v = .agg #[.int .i64 y2.p, .int .i64 y2.a]
  | 9, _ => True
  | 10, _ => True
  | 11, _ => True
  | 12, _ => True
  | _, _ => True
set_option maxRecDepth 100000 in
set_option maxHeartbeats 8000000 in
theorem rad8_region {cb co cn cc e f N : Nat} {y1 y2 : Pt} {S : World → Prop} (hw : IntKind.i64.wrap ((f : Int) - 1) = (e : Int)) (he : (e : Int) < (cn : Int)) (hf : (f : Int) < (cn : Int)) (hp1 : ∀ W, S W → W.cell? ⟨cb, co + e * 2, none⟩ = some (.int .i64 y1.p) ∧ W.cell? ⟨cb, co + e * 2 + 1, none⟩ = some (.int .i64 y1.a)) (hp2 : ∀ W, S W → W.cell? ⟨cb, co + f * 2, none⟩ = some (.int .i64 y2.p) ∧ W.cell? ⟨cb, co + f * 2 + 1, none⟩ = some (.int .i64 y2.a)) (hon : ∀ W W', S W → Below W.heap.size W W' → S W') (hput : ∀ W W' G, S W → W.grownBy W' (some G) → (N ≤ G) → S W') (hN : ∀ W, S W → N ≤ W.heap.size) {Q : Exit → Act → World → Prop} {s1 s2 s3 s4 s8 s9 s10 s11 s12 s13 s14 s15 s16 s17 s18 s19 s20 s21 s22 s23 s24 s25 s26 s36 s37 s38 s39 s40 s41 s42 s43 s44 s45 s46 s47 s48 s49 s50 s51 s52 s53 s54 s55 s56 s57 s58 s59 s60 s61 s62 s63 s64 s65 s6 s7 s27 s28 s29 s30 s31 s32 s33 s34 s35 : Value} {W0 : World} (HL : Hid (S W0))
    (HQ : Hid (∀ (u : Nat → Value) (G0 G1 : Nat) (W : World), S W → N ≤ G0 → N ≤ G1 → Blk W (G0) 84 #[.int .i64 y1.p, .int .i64 y1.a] → Blk W (G1) 84 #[.int .i64 y2.p, .int .i64 y2.a] → Q .normal ⟨#[.slice (some ⟨cb, co, none⟩) cn cc, s1, s2, s3, s4, .int .i64 (f : Int), .pointer (some ⟨G0, 0, none⟩), .pointer (some ⟨G1, 0, none⟩), s8, s9, s10, s11, s12, s13, s14, s15, s16, s17, s18, s19, s20, s21, s22, s23, s24, s25, s26, u 0, u 1, u 2, u 3, u 4, u 5, u 6, u 7, u 8, s36, s37, s38, s39, s40, s41, s42, s43, s44, s45, s46, s47, s48, s49, s50, s51, s52, s53, s54, s55, s56, s57, s58, s59, s60, s61, s62, s63, s64, s65], []⟩ W)) :
    Code.wp Try.prog ((Try.f58.body.bind (regionAt 8)).getD .skip) Q ⟨#[.slice (some ⟨cb, co, none⟩) cn cc, s1, s2, s3, s4, .int .i64 (f : Int), s6, s7, s8, s9, s10, s11, s12, s13, s14, s15, s16, s17, s18, s19, s20, s21, s22, s23, s24, s25, s26, s27, s28, s29, s30, s31, s32, s33, s34, s35, s36, s37, s38, s39, s40, s41, s42, s43, s44, s45, s46, s47, s48, s49, s50, s51, s52, s53, s54, s55, s56, s57, s58, s59, s60, s61, s62, s63, s64, s65], []⟩ W0 := by
  conv => arg 2; whnf
  refine wp_region_vars (by kernel_rfl) 13 (by kernel_rfl) (fun u => ⟨#[.slice (some ⟨cb, co, none⟩) cn cc, s1, s2, s3, s4, .int .i64 (f : Int), u 9, u 10, s8, s9, s10, s11, s12, s13, s14, s15, s16, s17, s18, s19, s20, s21, s22, s23, s24, s25, s26, u 0, u 1, u 2, u 3, u 4, u 5, u 6, u 7, u 8, s36, s37, s38, s39, s40, s41, s42, s43, s44, s45, s46, s47, s48, s49, s50, s51, s52, s53, s54, s55, s56, s57, s58, s59, s60, s61, s62, s63, s64, s65], []⟩) (fun i => if i = 0 then s27 else if i = 1 then s28 else if i = 2 then s29 else if i = 3 then s30 else if i = 4 then s31 else if i = 5 then s32 else if i = 6 then s33 else if i = 7 then s34 else if i = 8 then s35 else if i = 9 then s6 else if i = 10 then s7 else undef) (fun W => Hid (S W)) (rad8F cb co cn cc e f y1 y2) (N) [⟨some 9, 0, 11, 84, #[.int .i64 0, .int .i64 0], #[.int .i64 y1.p, .int .i64 y1.a]⟩, ⟨some 10, 0, 12, 84, #[.int .i64 0, .int .i64 0], #[.int .i64 y2.p, .int .i64 y2.a]⟩] [9, 10] [11, 12] rfl rfl (by kernel_rfl) (hon _ _ HL.out (Below.refl _ _).drew) ?hV (fun W h => hN W h.out) ?hg (by decide +kernel) (fun W W' h hb => hon W W' h.out hb) ?hp ?hA ?hP (by decide) (by decide) (by decide) (by decide) (by decide) ?step ?done
  case hV =>
    refine ⟨fun q hq => ⟨fun a e hl => (by cases hl), fun G hG => ?_⟩, fun q hq r hr hne G h1 h2 => ?_⟩
    · simp only [List.mem_cons, List.not_mem_nil, or_false] at hq
      rcases hq with rfl | rfl
      · exact absurd hG.1 (by decide)
      · exact absurd hG.1 (by decide)
    · simp only [List.mem_cons, List.not_mem_nil, or_false] at hq
      rcases hq with rfl | rfl
      · exact absurd h1.1 (by decide)
      · exact absurd h1.1 (by decide)
  case hg =>
    intro q hq ha
    simp only [List.mem_cons, List.not_mem_nil, or_false] at hq
    rcases hq with rfl | rfl
    · cases ha
    · cases ha
  case hp =>
    intro W W' G h hg hG
    refine hput W W' G h.out hg ?_
    rcases hG with h1 | ⟨q, hq, ha, h2⟩
    · exact h1
    · simp only [List.mem_cons, List.not_mem_nil, or_false] at hq
      rcases hq with rfl | rfl
      · cases ha
      · cases ha
  case hA =>
    intro q hq i ha
    simp only [List.mem_cons, List.not_mem_nil, or_false] at hq
    rcases hq with rfl | rfl
    · cases ha
      refine ⟨by show _ ∈ waits _ _ 11; decide +kernel, fun u W hB K hK => ?_⟩
      have HK := Lib.hid hK; clear hK
      refine wpOp_of rfl (by rfl) ?_
      go_simp
      exact k_of HK.out (by kernel_rfl)
    · cases ha
      refine ⟨by show _ ∈ waits _ _ 12; decide +kernel, fun u W hB K hK => ?_⟩
      have HK := Lib.hid hK; clear hK
      refine wpOp_of rfl (by rfl) ?_
      go_simp
      exact k_of HK.out (by kernel_rfl)
  case hP =>
    intro q hq u W hB hd G hG hb K hK
    have HK := Lib.hid hK; clear hK
    simp only [List.mem_cons, List.not_mem_nil, or_false] at hq
    rcases hq with rfl | rfl
    · obtain ⟨-, eG, hle⟩ := hG
      replace eG : u 9 = .pointer (some ⟨G, 0, none⟩) := eG
      replace hd : ∀ j ∈ waits .any _ 11, j ∉ [9, 10] → j ∉ [11, 12] → rad8F cb co cn cc e f y1 y2 j (u j) := hd
      have e4 : u 4 = .agg #[.int .i64 y1.p, .int .i64 y1.a] := hd 4 (by decide +kernel) (by decide) (by decide)
      replace hb : Blk W G 84 #[.int .i64 0, .int .i64 0] := hb
      have hb2 := ((hb).set_ 0 (.int .i64 y1.p)).set_ 1 (.int .i64 y1.a)
      simp only [List.setIfInBounds_toArray, List.set_cons_zero, List.set_cons_succ] at hb2
      have hg2 : W.grownBy _ (some (G)) := grown_more (grown_more (World.grownBy.refl W (some G)) 0 (.int .i64 y1.p)) 1 (.int .i64 y1.a)
      have fz0 := hb.frozen 0
      have cl0 := hb.cell 0
      have fz1 := hb.frozen 1
      have cl1 := hb.cell 1
      have gl := hb.lt
      have HB2 := Lib.hid hb2
      have HG2 := Lib.hid hg2
      clear hb2 hg2
      refine wpOp_of rfl (by rfl) ?_
      go_simp
      exact k_of (HK.out _ HB2.out HG2.out) (by rw [← u1_eq eG, ← u1_eq e4] <;> kernel_rfl)
    · obtain ⟨-, eG, hle⟩ := hG
      replace eG : u 10 = .pointer (some ⟨G, 0, none⟩) := eG
      replace hd : ∀ j ∈ waits .any _ 12, j ∉ [9, 10] → j ∉ [11, 12] → rad8F cb co cn cc e f y1 y2 j (u j) := hd
      have e8 : u 8 = .agg #[.int .i64 y2.p, .int .i64 y2.a] := hd 8 (by decide +kernel) (by decide) (by decide)
      replace hb : Blk W G 84 #[.int .i64 0, .int .i64 0] := hb
      have hb2 := ((hb).set_ 0 (.int .i64 y2.p)).set_ 1 (.int .i64 y2.a)
      simp only [List.setIfInBounds_toArray, List.set_cons_zero, List.set_cons_succ] at hb2
      have hg2 : W.grownBy _ (some (G)) := grown_more (grown_more (World.grownBy.refl W (some G)) 0 (.int .i64 y2.p)) 1 (.int .i64 y2.a)
      have fz0 := hb.frozen 0
      have cl0 := hb.cell 0
      have fz1 := hb.frozen 1
      have cl1 := hb.cell 1
      have gl := hb.lt
      have HB2 := Lib.hid hb2
      have HG2 := Lib.hid hg2
      clear hb2 hg2
      refine wpOp_of rfl (by rfl) ?_
      go_simp
      exact k_of (HK.out _ HB2.out HG2.out) (by rw [← u1_eq eG, ← u1_eq e8] <;> kernel_rfl)
  case step =>
    iterate 13 (refine all_succ ?_ ?_)
    · exact all_zero
    · intro _ _ u W hB hv hd K hK
      have HK := Lib.hid hK; clear hK
      refine wpOp_of rfl (by rfl) ?_
      go_simp
      exact k_of (HK.out (.slice (some ⟨cb, co, none⟩) cn cc) _ rfl hB (Below.refl _ _)) (by kernel_rfl)
    · intro _ _ u W hB hv hd K hK
      have HK := Lib.hid hK; clear hK
      refine wpOp_of rfl (by rfl) ?_
      go_simp
      exact k_of (HK.out (.int .i64 (f : Int)) _ rfl hB (Below.refl _ _)) (by kernel_rfl)
    · intro _ _ u W hB hv hd K hK
      have HK := Lib.hid hK; clear hK
      have e1 : u 1 = .int .i64 (f : Int) := hd 1 (by decide +kernel) (by decide) (by decide)
      refine wpOp_of rfl (by rfl) ?_
      go_simp
      exact k_of (HK.out (.int .i64 (e : Int)) _ rfl hB (Below.refl _ _)) (by rw [← u1_eq e1]; kernel_rfl)
    · intro _ _ u W hB hv hd K hK
      have HK := Lib.hid hK; clear hK
      have e0 : u 0 = .slice (some ⟨cb, co, none⟩) cn cc := hd 0 (by decide +kernel) (by decide) (by decide)
      have e2 : u 2 = .int .i64 (e : Int) := hd 2 (by decide +kernel) (by decide) (by decide)
      refine wpOp_of rfl (by rfl) ?_
      go_simp
      exact k_of (HK.out (.pointer (some ⟨cb, co + e * 2, none⟩)) _ rfl hB (Below.refl _ _)) (by rw [← u1_eq e0, ← u1_eq e2]; kernel_rfl)
    · intro _ _ u W hB hv hd K hK
      have HK := Lib.hid hK; clear hK
      have e3 : u 3 = .pointer (some ⟨cb, co + e * 2, none⟩) := hd 3 (by decide +kernel) (by decide) (by decide)
      refine wpOp_of rfl (by rfl) ?_
      obtain ⟨z0, z1⟩ := hp1 W hB.out
      go_simp
      exact k_of (HK.out (.agg #[.int .i64 y1.p, .int .i64 y1.a]) _ rfl hB (Below.refl _ _)) (by rw [← u1_eq e3]; kernel_rfl)
    · intro _ _ u W hB hv hd K hK
      have HK := Lib.hid hK; clear hK
      refine wpOp_of rfl (by rfl) ?_
      go_simp
      exact k_of (HK.out (.slice (some ⟨cb, co, none⟩) cn cc) _ rfl hB (Below.refl _ _)) (by kernel_rfl)
    · intro _ _ u W hB hv hd K hK
      have HK := Lib.hid hK; clear hK
      refine wpOp_of rfl (by rfl) ?_
      go_simp
      exact k_of (HK.out (.int .i64 (f : Int)) _ rfl hB (Below.refl _ _)) (by kernel_rfl)
    · intro _ _ u W hB hv hd K hK
      have HK := Lib.hid hK; clear hK
      have e5 : u 5 = .slice (some ⟨cb, co, none⟩) cn cc := hd 5 (by decide +kernel) (by decide) (by decide)
      have e6 : u 6 = .int .i64 (f : Int) := hd 6 (by decide +kernel) (by decide) (by decide)
      refine wpOp_of rfl (by rfl) ?_
      go_simp
      exact k_of (HK.out (.pointer (some ⟨cb, co + f * 2, none⟩)) _ rfl hB (Below.refl _ _)) (by rw [← u1_eq e5, ← u1_eq e6]; kernel_rfl)
    · intro _ _ u W hB hv hd K hK
      have HK := Lib.hid hK; clear hK
      have e7 : u 7 = .pointer (some ⟨cb, co + f * 2, none⟩) := hd 7 (by decide +kernel) (by decide) (by decide)
      refine wpOp_of rfl (by rfl) ?_
      obtain ⟨z0, z1⟩ := hp2 W hB.out
      go_simp
      exact k_of (HK.out (.agg #[.int .i64 y2.p, .int .i64 y2.a]) _ rfl hB (Below.refl _ _)) (by rw [← u1_eq e7]; kernel_rfl)
    · intro ha; exact absurd (by decide) ha
    · intro ha; exact absurd (by decide) ha
    · intro _ ha; exact absurd (by decide) ha
    · intro _ ha; exact absurd (by decide) ha
  case done =>
    intro L u W hL hB hd hV
    have hv0 := hV.ok ⟨some 9, 0, 11, 84, #[.int .i64 0, .int .i64 0], #[.int .i64 y1.p, .int .i64 y1.a]⟩ (by simp)
    obtain ⟨G0, eG0, hN0⟩ := hv0.1 9 rfl (hL 9 (by decide))
    have hB0 := hv0.2 G0 ⟨hL 9 (by decide), eG0, hN0⟩
    rw [if_pos (hL 11 (by decide))] at hB0
    have hv1 := hV.ok ⟨some 10, 0, 12, 84, #[.int .i64 0, .int .i64 0], #[.int .i64 y2.p, .int .i64 y2.a]⟩ (by simp)
    obtain ⟨G1, eG1, hN1⟩ := hv1.1 10 rfl (hL 10 (by decide))
    have hB1 := hv1.2 G1 ⟨hL 10 (by decide), eG1, hN1⟩
    rw [if_pos (hL 12 (by decide))] at hB1
    exact k_of (HQ.out u G0 G1 W hB.out hN0 hN1 hB0 hB1) (by simp only [eG0, eG1])
end Go.Proofs.Ytalghiecjhfflaa
