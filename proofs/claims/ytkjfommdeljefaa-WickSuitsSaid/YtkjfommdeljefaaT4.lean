/- ref03.Ends: its regions that draw, and its contract. -/
import Derived.Test.YtkjfommdeljefaaT3
namespace Go.Proofs.Ytkjfommdeljefaa
open Go.RowKit Go.Shelf Go.Maps
attribute [local go_sem] Oper.semAt_some

/-- What each operation leaves. -/
def re1F (P C b o xb xo : Nat) (qk : Int) (p : Sp) (c : Cd) (k : Wk) (x : Wx) : Nat → Value → Prop
  | 0, v => v = .pointer (some ⟨P, 0, none⟩)
  | 1, v => v = .slice (some ⟨b, o, none⟩) p.s.ks.length p.kc
  | 2, v => v = .int .i64 qk
  | 3, v => v = .pointer (some ⟨b, o + qk.toNat * 4, none⟩)
  | 4, v => v = .agg #[.string k.nm, .int .i64 k.th, .int .i64 k.plo, .int .i64 k.phi]
  | 5, v => v = .pointer (some ⟨P, 1, none⟩)
  | 6, v => v = .slice (some ⟨xb, xo, none⟩) p.s.xs.length p.xc
  | 7, v => v = .pointer (some ⟨C, 0, none⟩)
  | 8, v => v = .int .i64 c.wax
  | 9, v => v = .pointer (some ⟨xb, xo + c.wax.toNat * 8, none⟩)
  | 10, v => v = .agg #[.string x.nm, .int .i64 x.flo, .int .i64 x.fhi, .int .i64 x.rlo, .int .i64 x.rhi, .int .i64 x.slo, .int .i64 x.shi, .int .i64 x.ch]
  | 11, _ => True
  | 12, _ => True
  | 13, _ => True
  | 14, _ => True
  | _, _ => True
set_option maxRecDepth 100000 in
set_option maxHeartbeats 8000000 in
theorem re1_region {P C b o xb xo N : Nat} {qk : Int} {p : Sp} {c : Cd} {k : Wk} {x : Wx} {S : World → Prop} (h0 : 0 ≤ qk) (hq : qk < p.s.ks.length) (hw0 : 0 ≤ c.wax) (hwl : c.wax < p.s.xs.length) (hP : ∀ W, S W → Blk W P 27 #[.slice (some ⟨b, o, none⟩) p.s.ks.length p.kc, .slice (some ⟨xb, xo, none⟩) p.s.xs.length p.xc, .int .i64 p.s.flo, .int .i64 p.s.fhi, .int .i64 p.s.plo, .int .i64 p.s.phi]) (hC : ∀ W, S W → Blk W C 34 #[.int .i64 c.wax, .int .i64 c.dia, .int .i64 c.dra, .int .i64 c.clo, .int .i64 c.chi]) (hk : ∀ W, S W → W.cell? ⟨b, o + qk.toNat * 4, none⟩ = some (.string k.nm) ∧ W.cell? ⟨b, o + qk.toNat * 4 + 1, none⟩ = some (.int .i64 k.th) ∧ W.cell? ⟨b, o + qk.toNat * 4 + 2, none⟩ = some (.int .i64 k.plo) ∧ W.cell? ⟨b, o + qk.toNat * 4 + 3, none⟩ = some (.int .i64 k.phi)) (hx : ∀ W, S W → W.cell? ⟨xb, xo + c.wax.toNat * 8, none⟩ = some (.string x.nm) ∧ W.cell? ⟨xb, xo + c.wax.toNat * 8 + 1, none⟩ = some (.int .i64 x.flo) ∧ W.cell? ⟨xb, xo + c.wax.toNat * 8 + 2, none⟩ = some (.int .i64 x.fhi) ∧ W.cell? ⟨xb, xo + c.wax.toNat * 8 + 3, none⟩ = some (.int .i64 x.rlo) ∧ W.cell? ⟨xb, xo + c.wax.toNat * 8 + 4, none⟩ = some (.int .i64 x.rhi) ∧ W.cell? ⟨xb, xo + c.wax.toNat * 8 + 5, none⟩ = some (.int .i64 x.slo) ∧ W.cell? ⟨xb, xo + c.wax.toNat * 8 + 6, none⟩ = some (.int .i64 x.shi) ∧ W.cell? ⟨xb, xo + c.wax.toNat * 8 + 7, none⟩ = some (.int .i64 x.ch)) (hon : ∀ W W', S W → Below W.heap.size W W' → S W') (hput : ∀ W W' G, S W → W.grownBy W' (some G) → (N ≤ G) → S W') (hN : ∀ W, S W → N ≤ W.heap.size) {Q : Exit → Act → World → Prop} {s0 s2 s4 s6 s7 s21 s22 s23 s24 s25 s26 s27 s28 s29 s30 s31 s32 s33 s34 s35 s36 s37 s38 s39 s40 s41 s42 s43 s44 s45 s46 s47 s48 s49 s50 s51 s52 s53 s54 s55 s56 s57 : Value} {W0 : World} (HL : Hid (S W0))
    (HQ : Hid (∀ (u : Nat → Value) (G0 G1 : Nat) (W : World), S W → N ≤ G0 → N ≤ G1 → Blk W (G0) 74 #[.string k.nm, .int .i64 k.th, .int .i64 k.plo, .int .i64 k.phi] → Blk W (G1) 80 #[.string x.nm, .int .i64 x.flo, .int .i64 x.fhi, .int .i64 x.rlo, .int .i64 x.rhi, .int .i64 x.slo, .int .i64 x.shi, .int .i64 x.ch] → Q .normal ⟨#[s0, .int .i64 qk, s2, .pointer (some ⟨P, 0, none⟩), s4, .pointer (some ⟨C, 0, none⟩), s6, s7, .pointer (some ⟨G0, 0, none⟩), .pointer (some ⟨G1, 0, none⟩), u 0, u 1, u 2, u 3, u 4, u 5, u 6, u 7, u 8, u 9, u 10, s21, s22, s23, s24, s25, s26, s27, s28, s29, s30, s31, s32, s33, s34, s35, s36, s37, s38, s39, s40, s41, s42, s43, s44, s45, s46, s47, s48, s49, s50, s51, s52, s53, s54, s55, s56, s57], []⟩ W)) :
    Code.wp Try.prog ((Try.f38.body.bind (regionAt 1)).getD .skip) Q ⟨#[s0, .int .i64 qk, s2, .pointer (some ⟨P, 0, none⟩), s4, .pointer (some ⟨C, 0, none⟩), s6, s7, undef, undef, undef, undef, undef, undef, undef, undef, undef, undef, undef, undef, undef, s21, s22, s23, s24, s25, s26, s27, s28, s29, s30, s31, s32, s33, s34, s35, s36, s37, s38, s39, s40, s41, s42, s43, s44, s45, s46, s47, s48, s49, s50, s51, s52, s53, s54, s55, s56, s57], []⟩ W0 := by
  conv => arg 2; whnf
  refine wp_region_vars (by kernel_rfl) 15 (by kernel_rfl) (fun u => ⟨#[s0, .int .i64 qk, s2, .pointer (some ⟨P, 0, none⟩), s4, .pointer (some ⟨C, 0, none⟩), s6, s7, u 11, u 12, u 0, u 1, u 2, u 3, u 4, u 5, u 6, u 7, u 8, u 9, u 10, s21, s22, s23, s24, s25, s26, s27, s28, s29, s30, s31, s32, s33, s34, s35, s36, s37, s38, s39, s40, s41, s42, s43, s44, s45, s46, s47, s48, s49, s50, s51, s52, s53, s54, s55, s56, s57], []⟩) (fun i => undef) (fun W => Hid (S W)) (re1F P C b o xb xo qk p c k x) (N) [⟨some 11, 0, 13, 74, #[.string ⟨#[]⟩, .int .i64 0, .int .i64 0, .int .i64 0], #[.string k.nm, .int .i64 k.th, .int .i64 k.plo, .int .i64 k.phi]⟩, ⟨some 12, 0, 14, 80, #[.string ⟨#[]⟩, .int .i64 0, .int .i64 0, .int .i64 0, .int .i64 0, .int .i64 0, .int .i64 0, .int .i64 0], #[.string x.nm, .int .i64 x.flo, .int .i64 x.fhi, .int .i64 x.rlo, .int .i64 x.rhi, .int .i64 x.slo, .int .i64 x.shi, .int .i64 x.ch]⟩] [11, 12] [13, 14] rfl rfl (by kernel_rfl) (hon _ _ HL.out (Below.refl _ _).drew) ?hV (fun W h => hN W h.out) ?hg (by decide +kernel) (fun W W' h hb => hon W W' h.out hb) ?hp ?hA ?hP (by decide) (by decide) (by decide) (by decide) (by decide) ?step ?done
  case hV =>
    refine ⟨fun q hq => ⟨fun a e hl => (by cases hl), fun G hG => ?_⟩, fun q hq r hr hne G h1 h2 => ?_⟩
    · simp only [List.mem_cons, List.not_mem_nil, or_false] at hq
      rcases hq with rfl | rfl
      · exact absurd hG.1 (by decide)
      · exact absurd hG.1 (by decide)
    · simp only [List.mem_cons, List.not_mem_nil, or_false] at hq
      rcases hq with rfl | rfl
      · exact absurd h1.1 (by decide)
      · exact absurd h1.1 (by decide)
  case hg =>
    intro q hq ha
    simp only [List.mem_cons, List.not_mem_nil, or_false] at hq
    rcases hq with rfl | rfl
    · cases ha
    · cases ha
  case hp =>
    intro W W' G h hg hG
    refine hput W W' G h.out hg ?_
    rcases hG with h1 | ⟨q, hq, ha, h2⟩
    · exact h1
    · simp only [List.mem_cons, List.not_mem_nil, or_false] at hq
      rcases hq with rfl | rfl
      · cases ha
      · cases ha
  case hA =>
    intro q hq i ha
    simp only [List.mem_cons, List.not_mem_nil, or_false] at hq
    rcases hq with rfl | rfl
    · cases ha
      refine ⟨by show _ ∈ waits _ _ 13; decide +kernel, fun u W hB K hK => ?_⟩
      have HK := Lib.hid hK; clear hK
      refine wpOp_of rfl (by rfl) ?_
      go_simp
      exact k_of HK.out (by kernel_rfl)
    · cases ha
      refine ⟨by show _ ∈ waits _ _ 14; decide +kernel, fun u W hB K hK => ?_⟩
      have HK := Lib.hid hK; clear hK
      refine wpOp_of rfl (by rfl) ?_
      go_simp
      exact k_of HK.out (by kernel_rfl)
  case hP =>
    intro q hq u W hB hd G hG hb K hK
    have HK := Lib.hid hK; clear hK
    simp only [List.mem_cons, List.not_mem_nil, or_false] at hq
    rcases hq with rfl | rfl
    · obtain ⟨-, eG, hle⟩ := hG
      replace eG : u 11 = .pointer (some ⟨G, 0, none⟩) := eG
      replace hd : ∀ j ∈ waits .any _ 13, j ∉ [11, 12] → j ∉ [13, 14] → re1F P C b o xb xo qk p c k x j (u j) := hd
      have e4 : u 4 = .agg #[.string k.nm, .int .i64 k.th, .int .i64 k.plo, .int .i64 k.phi] := hd 4 (by decide +kernel) (by decide) (by decide)
      replace hb : Blk W G 74 #[.string ⟨#[]⟩, .int .i64 0, .int .i64 0, .int .i64 0] := hb
      have hb2 := ((((hb).set_ 0 (.string k.nm)).set_ 1 (.int .i64 k.th)).set_ 2 (.int .i64 k.plo)).set_ 3 (.int .i64 k.phi)
      simp only [List.setIfInBounds_toArray, List.set_cons_zero, List.set_cons_succ] at hb2
      have hg2 : W.grownBy _ (some (G)) := grown_more (grown_more (grown_more (grown_more (World.grownBy.refl W (some G)) 0 (.string k.nm)) 1 (.int .i64 k.th)) 2 (.int .i64 k.plo)) 3 (.int .i64 k.phi)
      have fz0 := hb.frozen 0
      have cl0 := hb.cell 0
      have fz1 := hb.frozen 1
      have cl1 := hb.cell 1
      have fz2 := hb.frozen 2
      have cl2 := hb.cell 2
      have fz3 := hb.frozen 3
      have cl3 := hb.cell 3
      have gl := hb.lt
      have HB2 := Lib.hid hb2
      have HG2 := Lib.hid hg2
      clear hb2 hg2
      refine wpOp_of rfl (by rfl) ?_
      go_simp
      exact k_of (HK.out _ HB2.out HG2.out) (by rw [← u1_eq eG, ← u1_eq e4] <;> kernel_rfl)
    · obtain ⟨-, eG, hle⟩ := hG
      replace eG : u 12 = .pointer (some ⟨G, 0, none⟩) := eG
      replace hd : ∀ j ∈ waits .any _ 14, j ∉ [11, 12] → j ∉ [13, 14] → re1F P C b o xb xo qk p c k x j (u j) := hd
      have e10 : u 10 = .agg #[.string x.nm, .int .i64 x.flo, .int .i64 x.fhi, .int .i64 x.rlo, .int .i64 x.rhi, .int .i64 x.slo, .int .i64 x.shi, .int .i64 x.ch] := hd 10 (by decide +kernel) (by decide) (by decide)
      replace hb : Blk W G 80 #[.string ⟨#[]⟩, .int .i64 0, .int .i64 0, .int .i64 0, .int .i64 0, .int .i64 0, .int .i64 0, .int .i64 0] := hb
      have hb2 := ((((((((hb).set_ 0 (.string x.nm)).set_ 1 (.int .i64 x.flo)).set_ 2 (.int .i64 x.fhi)).set_ 3 (.int .i64 x.rlo)).set_ 4 (.int .i64 x.rhi)).set_ 5 (.int .i64 x.slo)).set_ 6 (.int .i64 x.shi)).set_ 7 (.int .i64 x.ch)
      simp only [List.setIfInBounds_toArray, List.set_cons_zero, List.set_cons_succ] at hb2
      have hg2 : W.grownBy _ (some (G)) := grown_more (grown_more (grown_more (grown_more (grown_more (grown_more (grown_more (grown_more (World.grownBy.refl W (some G)) 0 (.string x.nm)) 1 (.int .i64 x.flo)) 2 (.int .i64 x.fhi)) 3 (.int .i64 x.rlo)) 4 (.int .i64 x.rhi)) 5 (.int .i64 x.slo)) 6 (.int .i64 x.shi)) 7 (.int .i64 x.ch)
      have fz0 := hb.frozen 0
      have cl0 := hb.cell 0
      have fz1 := hb.frozen 1
      have cl1 := hb.cell 1
      have fz2 := hb.frozen 2
      have cl2 := hb.cell 2
      have fz3 := hb.frozen 3
      have cl3 := hb.cell 3
      have fz4 := hb.frozen 4
      have cl4 := hb.cell 4
      have fz5 := hb.frozen 5
      have cl5 := hb.cell 5
      have fz6 := hb.frozen 6
      have cl6 := hb.cell 6
      have fz7 := hb.frozen 7
      have cl7 := hb.cell 7
      have gl := hb.lt
      have HB2 := Lib.hid hb2
      have HG2 := Lib.hid hg2
      clear hb2 hg2
      refine wpOp_of rfl (by rfl) ?_
      go_simp
      exact k_of (HK.out _ HB2.out HG2.out) (by rw [← u1_eq eG, ← u1_eq e10] <;> kernel_rfl)
  case step =>
    iterate 15 (refine all_succ ?_ ?_)
    · exact all_zero
    · intro _ _ u W hB hv hd K hK
      have HK := Lib.hid hK; clear hK
      refine wpOp_of rfl (by rfl) ?_
      go_simp
      exact k_of (HK.out (.pointer (some ⟨P, 0, none⟩)) _ rfl hB (Below.refl _ _)) (by kernel_rfl)
    · intro _ _ u W hB hv hd K hK
      have HK := Lib.hid hK; clear hK
      have e0 : u 0 = .pointer (some ⟨P, 0, none⟩) := hd 0 (by decide +kernel) (by decide) (by decide)
      refine wpOp_of rfl (by rfl) ?_
      have z0 := (hP W hB.out).cell 0
      go_simp
      exact k_of (HK.out (.slice (some ⟨b, o, none⟩) p.s.ks.length p.kc) _ rfl hB (Below.refl _ _)) (by rw [← u1_eq e0]; kernel_rfl)
    · intro _ _ u W hB hv hd K hK
      have HK := Lib.hid hK; clear hK
      refine wpOp_of rfl (by rfl) ?_
      go_simp
      exact k_of (HK.out (.int .i64 qk) _ rfl hB (Below.refl _ _)) (by kernel_rfl)
    · intro _ _ u W hB hv hd K hK
      have HK := Lib.hid hK; clear hK
      have e1 : u 1 = .slice (some ⟨b, o, none⟩) p.s.ks.length p.kc := hd 1 (by decide +kernel) (by decide) (by decide)
      have e2 : u 2 = .int .i64 qk := hd 2 (by decide +kernel) (by decide) (by decide)
      refine wpOp_of rfl (by rfl) ?_
      go_simp
      exact k_of (HK.out (.pointer (some ⟨b, o + qk.toNat * 4, none⟩)) _ rfl hB (Below.refl _ _)) (by rw [← u1_eq e1, ← u1_eq e2]; kernel_rfl)
    · intro _ _ u W hB hv hd K hK
      have HK := Lib.hid hK; clear hK
      have e3 : u 3 = .pointer (some ⟨b, o + qk.toNat * 4, none⟩) := hd 3 (by decide +kernel) (by decide) (by decide)
      refine wpOp_of rfl (by rfl) ?_
      obtain ⟨z0, z1, z2, z3⟩ := hk W hB.out
      go_simp
      exact k_of (HK.out (.agg #[.string k.nm, .int .i64 k.th, .int .i64 k.plo, .int .i64 k.phi]) _ rfl hB (Below.refl _ _)) (by rw [← u1_eq e3]; kernel_rfl)
    · intro _ _ u W hB hv hd K hK
      have HK := Lib.hid hK; clear hK
      refine wpOp_of rfl (by rfl) ?_
      go_simp
      exact k_of (HK.out (.pointer (some ⟨P, 1, none⟩)) _ rfl hB (Below.refl _ _)) (by kernel_rfl)
    · intro _ _ u W hB hv hd K hK
      have HK := Lib.hid hK; clear hK
      have e5 : u 5 = .pointer (some ⟨P, 1, none⟩) := hd 5 (by decide +kernel) (by decide) (by decide)
      refine wpOp_of rfl (by rfl) ?_
      have z1 := (hP W hB.out).cell 1
      go_simp
      exact k_of (HK.out (.slice (some ⟨xb, xo, none⟩) p.s.xs.length p.xc) _ rfl hB (Below.refl _ _)) (by rw [← u1_eq e5]; kernel_rfl)
    · intro _ _ u W hB hv hd K hK
      have HK := Lib.hid hK; clear hK
      refine wpOp_of rfl (by rfl) ?_
      go_simp
      exact k_of (HK.out (.pointer (some ⟨C, 0, none⟩)) _ rfl hB (Below.refl _ _)) (by kernel_rfl)
    · intro _ _ u W hB hv hd K hK
      have HK := Lib.hid hK; clear hK
      have e7 : u 7 = .pointer (some ⟨C, 0, none⟩) := hd 7 (by decide +kernel) (by decide) (by decide)
      refine wpOp_of rfl (by rfl) ?_
      have z0 := (hC W hB.out).cell 0
      go_simp
      exact k_of (HK.out (.int .i64 c.wax) _ rfl hB (Below.refl _ _)) (by rw [← u1_eq e7]; kernel_rfl)
    · intro _ _ u W hB hv hd K hK
      have HK := Lib.hid hK; clear hK
      have e6 : u 6 = .slice (some ⟨xb, xo, none⟩) p.s.xs.length p.xc := hd 6 (by decide +kernel) (by decide) (by decide)
      have e8 : u 8 = .int .i64 c.wax := hd 8 (by decide +kernel) (by decide) (by decide)
      refine wpOp_of rfl (by rfl) ?_
      go_simp
      exact k_of (HK.out (.pointer (some ⟨xb, xo + c.wax.toNat * 8, none⟩)) _ rfl hB (Below.refl _ _)) (by rw [← u1_eq e6, ← u1_eq e8]; kernel_rfl)
    · intro _ _ u W hB hv hd K hK
      have HK := Lib.hid hK; clear hK
      have e9 : u 9 = .pointer (some ⟨xb, xo + c.wax.toNat * 8, none⟩) := hd 9 (by decide +kernel) (by decide) (by decide)
      refine wpOp_of rfl (by rfl) ?_
      obtain ⟨z0, z1, z2, z3, z4, z5, z6, z7⟩ := hx W hB.out
      go_simp
      exact k_of (HK.out (.agg #[.string x.nm, .int .i64 x.flo, .int .i64 x.fhi, .int .i64 x.rlo, .int .i64 x.rhi, .int .i64 x.slo, .int .i64 x.shi, .int .i64 x.ch]) _ rfl hB (Below.refl _ _)) (by rw [← u1_eq e9]; kernel_rfl)
    · intro ha; exact absurd (by decide) ha
    · intro ha; exact absurd (by decide) ha
    · intro _ ha; exact absurd (by decide) ha
    · intro _ ha; exact absurd (by decide) ha
  case done =>
    intro L u W hL hB hd hV
    have hv0 := hV.ok ⟨some 11, 0, 13, 74, #[.string ⟨#[]⟩, .int .i64 0, .int .i64 0, .int .i64 0], #[.string k.nm, .int .i64 k.th, .int .i64 k.plo, .int .i64 k.phi]⟩ (by simp)
    obtain ⟨G0, eG0, hN0⟩ := hv0.1 11 rfl (hL 11 (by decide))
    have hB0 := hv0.2 G0 ⟨hL 11 (by decide), eG0, hN0⟩
    rw [if_pos (hL 13 (by decide))] at hB0
    have hv1 := hV.ok ⟨some 12, 0, 14, 80, #[.string ⟨#[]⟩, .int .i64 0, .int .i64 0, .int .i64 0, .int .i64 0, .int .i64 0, .int .i64 0, .int .i64 0], #[.string x.nm, .int .i64 x.flo, .int .i64 x.fhi, .int .i64 x.rlo, .int .i64 x.rhi, .int .i64 x.slo, .int .i64 x.shi, .int .i64 x.ch]⟩ (by simp)
    obtain ⟨G1, eG1, hN1⟩ := hv1.1 12 rfl (hL 12 (by decide))
    have hB1 := hv1.2 G1 ⟨hL 12 (by decide), eG1, hN1⟩
    rw [if_pos (hL 14 (by decide))] at hB1
    exact k_of (HQ.out u G0 G1 W hB.out hN0 hN1 hB0 hB1) (by simp only [eG0, eG1])

/-- What each operation leaves. -/
def re2F (C Kw Gw : Nat) (c : Cd) (k : Wk) (x : Wx) : Nat → Value → Prop
  | 0, v => v = .pointer (some ⟨Kw, 2, none⟩)
  | 1, v => v = .pointer (some ⟨Kw, 2, none⟩)
  | 2, v => v = .int .i64 k.plo
  | 3, v => v = .pointer (some ⟨Gw, 1, none⟩)
  | 4, v => v = .pointer (some ⟨Gw, 1, none⟩)
  | 5, v => v = .int .i64 x.flo
  | 6, v => v = .pointer (some ⟨Gw, 3, none⟩)
  | 7, v => v = .pointer (some ⟨Gw, 3, none⟩)
  | 8, v => v = .int .i64 x.rlo
  | 9, v => v = .pointer (some ⟨Gw, 5, none⟩)
  | 10, v => v = .pointer (some ⟨Gw, 5, none⟩)
  | 11, v => v = .int .i64 x.slo
  | 12, v => v = .pointer (some ⟨C, 2, none⟩)
  | 13, v => v = .int .i64 c.dra
  | 14, v => v = .int .i64 (-c.dra)
  | 15, v => v = .pointer (some ⟨C, 3, none⟩)
  | 16, v => v = .pointer (some ⟨C, 4, none⟩)
  | 17, v => v = .int .i64 c.chi
  | 18, v => v = .agg #[.int .i64 k.plo, .int .i64 x.flo, .int .i64 x.rlo, .int .i64 x.slo, .int .i64 (-c.dra), .int .i64 c.chi]
  | 19, v => v = .pointer (some ⟨Kw, 2, none⟩)
  | 20, v => v = .pointer (some ⟨Kw, 3, none⟩)
  | 21, v => v = .int .i64 k.phi
  | 22, v => v = .pointer (some ⟨Gw, 1, none⟩)
  | 23, v => v = .pointer (some ⟨Gw, 2, none⟩)
  | 24, v => v = .int .i64 x.fhi
  | 25, v => v = .pointer (some ⟨Gw, 3, none⟩)
  | 26, v => v = .pointer (some ⟨Gw, 4, none⟩)
  | 27, v => v = .int .i64 x.rhi
  | 28, v => v = .pointer (some ⟨Gw, 5, none⟩)
  | 29, v => v = .pointer (some ⟨Gw, 6, none⟩)
  | 30, v => v = .int .i64 x.shi
  | 31, v => v = .pointer (some ⟨C, 2, none⟩)
  | 32, v => v = .int .i64 c.dra
  | 33, v => v = .pointer (some ⟨C, 3, none⟩)
  | 34, v => v = .pointer (some ⟨C, 3, none⟩)
  | 35, v => v = .int .i64 c.clo
  | 36, v => v = .agg #[.int .i64 k.phi, .int .i64 x.fhi, .int .i64 x.rhi, .int .i64 x.shi, .int .i64 c.dra, .int .i64 c.clo]
  | 37, _ => True
  | 38, _ => True
  | _, _ => True
set_option maxRecDepth 100000 in
set_option maxHeartbeats 8000000 in
theorem re2_region {C Kw Gw R1 R2 N : Nat} {c : Cd} {k : Wk} {x : Wx} {S : World → Prop} (hwr : IntKind.i64.wrap (-c.dra) = -c.dra) (hC : ∀ W, S W → Blk W C 34 #[.int .i64 c.wax, .int .i64 c.dia, .int .i64 c.dra, .int .i64 c.clo, .int .i64 c.chi]) (hK : ∀ W, S W → Blk W Kw 74 #[.string k.nm, .int .i64 k.th, .int .i64 k.plo, .int .i64 k.phi]) (hG : ∀ W, S W → Blk W Gw 80 #[.string x.nm, .int .i64 x.flo, .int .i64 x.fhi, .int .i64 x.rlo, .int .i64 x.rhi, .int .i64 x.slo, .int .i64 x.shi, .int .i64 x.ch]) (hon : ∀ W W', S W → Below W.heap.size W W' → S W') (hput : ∀ W W' G, S W → W.grownBy W' (some G) → (N ≤ G ∨ G = R1 ∨ G = R2) → S W') (hN : ∀ W, S W → N ≤ W.heap.size) {Q : Exit → Act → World → Prop} {s0 s1 s2 s3 s4 s10 s11 s12 s13 s14 s15 s16 s17 s18 s19 s20 : Value} {W0 : World} (HL : Hid (S W0)) (hk0 : Blk W0 (R1) 36 #[.int .i64 0, .int .i64 0, .int .i64 0, .int .i64 0, .int .i64 0, .int .i64 0]) (hg0 : R1 < N) (hk1 : Blk W0 (R2) 36 #[.int .i64 0, .int .i64 0, .int .i64 0, .int .i64 0, .int .i64 0, .int .i64 0]) (hg1 : R2 < N) (hn0_1 : R1 ≠ R2)
    (HQ : Hid (∀ (u : Nat → Value) (W : World), S W → Blk W (R1) 36 #[.int .i64 k.plo, .int .i64 x.flo, .int .i64 x.rlo, .int .i64 x.slo, .int .i64 (-c.dra), .int .i64 c.chi] → Blk W (R2) 36 #[.int .i64 k.phi, .int .i64 x.fhi, .int .i64 x.rhi, .int .i64 x.shi, .int .i64 c.dra, .int .i64 c.clo] → Q .normal ⟨#[s0, s1, s2, s3, s4, .pointer (some ⟨C, 0, none⟩), .pointer (some ⟨R1, 0, none⟩), .pointer (some ⟨R2, 0, none⟩), .pointer (some ⟨Kw, 0, none⟩), .pointer (some ⟨Gw, 0, none⟩), s10, s11, s12, s13, s14, s15, s16, s17, s18, s19, s20, u 0, u 1, u 2, u 3, u 4, u 5, u 6, u 7, u 8, u 9, u 10, u 11, u 12, u 13, u 14, u 15, u 16, u 17, u 18, u 19, u 20, u 21, u 22, u 23, u 24, u 25, u 26, u 27, u 28, u 29, u 30, u 31, u 32, u 33, u 34, u 35, u 36], []⟩ W)) :
    Code.wp Try.prog ((Try.f38.body.bind (regionAt 2)).getD .skip) Q ⟨#[s0, s1, s2, s3, s4, .pointer (some ⟨C, 0, none⟩), .pointer (some ⟨R1, 0, none⟩), .pointer (some ⟨R2, 0, none⟩), .pointer (some ⟨Kw, 0, none⟩), .pointer (some ⟨Gw, 0, none⟩), s10, s11, s12, s13, s14, s15, s16, s17, s18, s19, s20, undef, undef, undef, undef, undef, undef, undef, undef, undef, undef, undef, undef, undef, undef, undef, undef, undef, undef, undef, undef, undef, undef, undef, undef, undef, undef, undef, undef, undef, undef, undef, undef, undef, undef, undef, undef, undef], []⟩ W0 := by
  conv => arg 2; whnf
  refine wp_region_vars (by kernel_rfl) 39 (by kernel_rfl) (fun u => ⟨#[s0, s1, s2, s3, s4, .pointer (some ⟨C, 0, none⟩), .pointer (some ⟨R1, 0, none⟩), .pointer (some ⟨R2, 0, none⟩), .pointer (some ⟨Kw, 0, none⟩), .pointer (some ⟨Gw, 0, none⟩), s10, s11, s12, s13, s14, s15, s16, s17, s18, s19, s20, u 0, u 1, u 2, u 3, u 4, u 5, u 6, u 7, u 8, u 9, u 10, u 11, u 12, u 13, u 14, u 15, u 16, u 17, u 18, u 19, u 20, u 21, u 22, u 23, u 24, u 25, u 26, u 27, u 28, u 29, u 30, u 31, u 32, u 33, u 34, u 35, u 36], []⟩) (fun i => undef) (fun W => Hid (S W)) (re2F C Kw Gw c k x) (N) [⟨none, R1, 37, 36, #[.int .i64 0, .int .i64 0, .int .i64 0, .int .i64 0, .int .i64 0, .int .i64 0], #[.int .i64 k.plo, .int .i64 x.flo, .int .i64 x.rlo, .int .i64 x.slo, .int .i64 (-c.dra), .int .i64 c.chi]⟩, ⟨none, R2, 38, 36, #[.int .i64 0, .int .i64 0, .int .i64 0, .int .i64 0, .int .i64 0, .int .i64 0], #[.int .i64 k.phi, .int .i64 x.fhi, .int .i64 x.rhi, .int .i64 x.shi, .int .i64 c.dra, .int .i64 c.clo]⟩] [] [37, 38] rfl rfl (by kernel_rfl) (hon _ _ HL.out (Below.refl _ _).drew) ?hV (fun W h => hN W h.out) ?hg (by decide +kernel) (fun W W' h hb => hon W W' h.out hb) ?hp ?hA ?hP (by decide) (by decide) (by decide) (by decide) (by decide) ?step ?done
  case hV =>
    refine ⟨fun q hq => ⟨fun a e hl => (by cases hl), fun G hG => ?_⟩, fun q hq r hr hne G h1 h2 => ?_⟩
    · simp only [List.mem_cons, List.not_mem_nil, or_false] at hq
      rcases hq with rfl | rfl
      · obtain ⟨rfl, -⟩ := hG; exact hk0.drew
      · obtain ⟨rfl, -⟩ := hG; exact hk1.drew
    · simp only [List.mem_cons, List.not_mem_nil, or_false] at hq
      rcases hq with rfl | rfl
      · simp only [List.mem_cons, List.not_mem_nil, or_false] at hr
        rcases hr with rfl | rfl
        · exact absurd rfl hne
        · exact hn0_1 (h1.1.symm.trans h2.1)
      · simp only [List.mem_cons, List.not_mem_nil, or_false] at hr
        rcases hr with rfl | rfl
        · exact hn0_1 (h2.1.symm.trans h1.1)
        · exact absurd rfl hne
  case hg =>
    intro q hq ha
    simp only [List.mem_cons, List.not_mem_nil, or_false] at hq
    rcases hq with rfl | rfl
    · exact hg0
    · exact hg1
  case hp =>
    intro W W' G h hg hG
    refine hput W W' G h.out hg ?_
    rcases hG with h1 | ⟨q, hq, ha, h2⟩
    · exact .inl h1
    · simp only [List.mem_cons, List.not_mem_nil, or_false] at hq
      rcases hq with rfl | rfl
      · exact .inr (.inl h2)
      · exact .inr (.inr h2)
  case hA =>
    intro q hq i ha
    simp only [List.mem_cons, List.not_mem_nil, or_false] at hq
    rcases hq with rfl | rfl
    · cases ha
    · cases ha
  case hP =>
    intro q hq u W hB hd G hG hb K hK
    have HK := Lib.hid hK; clear hK
    simp only [List.mem_cons, List.not_mem_nil, or_false] at hq
    rcases hq with rfl | rfl
    · have hGe : G = R1 := hG.1
      rw [hGe] at hb HK
      clear hG hGe
      replace hd : ∀ j ∈ waits .any _ 37, j ∉ [] → j ∉ [37, 38] → re2F C Kw Gw c k x j (u j) := hd
      have e18 : u 18 = .agg #[.int .i64 k.plo, .int .i64 x.flo, .int .i64 x.rlo, .int .i64 x.slo, .int .i64 (-c.dra), .int .i64 c.chi] := hd 18 (by decide +kernel) (by decide) (by decide)
      replace hb : Blk W R1 36 #[.int .i64 0, .int .i64 0, .int .i64 0, .int .i64 0, .int .i64 0, .int .i64 0] := hb
      have hb2 := ((((((hb).set_ 0 (.int .i64 k.plo)).set_ 1 (.int .i64 x.flo)).set_ 2 (.int .i64 x.rlo)).set_ 3 (.int .i64 x.slo)).set_ 4 (.int .i64 (-c.dra))).set_ 5 (.int .i64 c.chi)
      simp only [List.setIfInBounds_toArray, List.set_cons_zero, List.set_cons_succ] at hb2
      have hg2 : W.grownBy _ (some (R1)) := grown_more (grown_more (grown_more (grown_more (grown_more (grown_more (World.grownBy.refl W (some R1)) 0 (.int .i64 k.plo)) 1 (.int .i64 x.flo)) 2 (.int .i64 x.rlo)) 3 (.int .i64 x.slo)) 4 (.int .i64 (-c.dra))) 5 (.int .i64 c.chi)
      have fz0 := hb.frozen 0
      have cl0 := hb.cell 0
      have fz1 := hb.frozen 1
      have cl1 := hb.cell 1
      have fz2 := hb.frozen 2
      have cl2 := hb.cell 2
      have fz3 := hb.frozen 3
      have cl3 := hb.cell 3
      have fz4 := hb.frozen 4
      have cl4 := hb.cell 4
      have fz5 := hb.frozen 5
      have cl5 := hb.cell 5
      have gl := hb.lt
      have HB2 := Lib.hid hb2
      have HG2 := Lib.hid hg2
      clear hb2 hg2
      refine wpOp_of rfl (by rfl) ?_
      go_simp
      exact k_of (HK.out _ HB2.out HG2.out) (by rw [← u1_eq e18] <;> kernel_rfl)
    · have hGe : G = R2 := hG.1
      rw [hGe] at hb HK
      clear hG hGe
      replace hd : ∀ j ∈ waits .any _ 38, j ∉ [] → j ∉ [37, 38] → re2F C Kw Gw c k x j (u j) := hd
      have e36 : u 36 = .agg #[.int .i64 k.phi, .int .i64 x.fhi, .int .i64 x.rhi, .int .i64 x.shi, .int .i64 c.dra, .int .i64 c.clo] := hd 36 (by decide +kernel) (by decide) (by decide)
      replace hb : Blk W R2 36 #[.int .i64 0, .int .i64 0, .int .i64 0, .int .i64 0, .int .i64 0, .int .i64 0] := hb
      have hb2 := ((((((hb).set_ 0 (.int .i64 k.phi)).set_ 1 (.int .i64 x.fhi)).set_ 2 (.int .i64 x.rhi)).set_ 3 (.int .i64 x.shi)).set_ 4 (.int .i64 c.dra)).set_ 5 (.int .i64 c.clo)
      simp only [List.setIfInBounds_toArray, List.set_cons_zero, List.set_cons_succ] at hb2
      have hg2 : W.grownBy _ (some (R2)) := grown_more (grown_more (grown_more (grown_more (grown_more (grown_more (World.grownBy.refl W (some R2)) 0 (.int .i64 k.phi)) 1 (.int .i64 x.fhi)) 2 (.int .i64 x.rhi)) 3 (.int .i64 x.shi)) 4 (.int .i64 c.dra)) 5 (.int .i64 c.clo)
      have fz0 := hb.frozen 0
      have cl0 := hb.cell 0
      have fz1 := hb.frozen 1
      have cl1 := hb.cell 1
      have fz2 := hb.frozen 2
      have cl2 := hb.cell 2
      have fz3 := hb.frozen 3
      have cl3 := hb.cell 3
      have fz4 := hb.frozen 4
      have cl4 := hb.cell 4
      have fz5 := hb.frozen 5
      have cl5 := hb.cell 5
      have gl := hb.lt
      have HB2 := Lib.hid hb2
      have HG2 := Lib.hid hg2
      clear hb2 hg2
      refine wpOp_of rfl (by rfl) ?_
      go_simp
      exact k_of (HK.out _ HB2.out HG2.out) (by rw [← u1_eq e36] <;> kernel_rfl)
  case step =>
    iterate 39 (refine all_succ ?_ ?_)
    · exact all_zero
    · intro _ _ u W hB hv hd K hK
      have HK := Lib.hid hK; clear hK
      refine wpOp_of rfl (by rfl) ?_
      go_simp
      exact k_of (HK.out (.pointer (some ⟨Kw, 2, none⟩)) _ rfl hB (Below.refl _ _)) (by kernel_rfl)
    · intro _ _ u W hB hv hd K hK
      have HK := Lib.hid hK; clear hK
      have e0 : u 0 = .pointer (some ⟨Kw, 2, none⟩) := hd 0 (by decide +kernel) (by decide) (by decide)
      refine wpOp_of rfl (by rfl) ?_
      go_simp
      exact k_of (HK.out (.pointer (some ⟨Kw, 2, none⟩)) _ rfl hB (Below.refl _ _)) (by rw [← u1_eq e0]; kernel_rfl)
    · intro _ _ u W hB hv hd K hK
      have HK := Lib.hid hK; clear hK
      have e1 : u 1 = .pointer (some ⟨Kw, 2, none⟩) := hd 1 (by decide +kernel) (by decide) (by decide)
      refine wpOp_of rfl (by rfl) ?_
      have z2 := (hK W hB.out).cell 2
      go_simp
      exact k_of (HK.out (.int .i64 k.plo) _ rfl hB (Below.refl _ _)) (by rw [← u1_eq e1]; kernel_rfl)
    · intro _ _ u W hB hv hd K hK
      have HK := Lib.hid hK; clear hK
      refine wpOp_of rfl (by rfl) ?_
      go_simp
      exact k_of (HK.out (.pointer (some ⟨Gw, 1, none⟩)) _ rfl hB (Below.refl _ _)) (by kernel_rfl)
    · intro _ _ u W hB hv hd K hK
      have HK := Lib.hid hK; clear hK
      have e3 : u 3 = .pointer (some ⟨Gw, 1, none⟩) := hd 3 (by decide +kernel) (by decide) (by decide)
      refine wpOp_of rfl (by rfl) ?_
      go_simp
      exact k_of (HK.out (.pointer (some ⟨Gw, 1, none⟩)) _ rfl hB (Below.refl _ _)) (by rw [← u1_eq e3]; kernel_rfl)
    · intro _ _ u W hB hv hd K hK
      have HK := Lib.hid hK; clear hK
      have e4 : u 4 = .pointer (some ⟨Gw, 1, none⟩) := hd 4 (by decide +kernel) (by decide) (by decide)
      refine wpOp_of rfl (by rfl) ?_
      have z1 := (hG W hB.out).cell 1
      go_simp
      exact k_of (HK.out (.int .i64 x.flo) _ rfl hB (Below.refl _ _)) (by rw [← u1_eq e4]; kernel_rfl)
    · intro _ _ u W hB hv hd K hK
      have HK := Lib.hid hK; clear hK
      refine wpOp_of rfl (by rfl) ?_
      go_simp
      exact k_of (HK.out (.pointer (some ⟨Gw, 3, none⟩)) _ rfl hB (Below.refl _ _)) (by kernel_rfl)
    · intro _ _ u W hB hv hd K hK
      have HK := Lib.hid hK; clear hK
      have e6 : u 6 = .pointer (some ⟨Gw, 3, none⟩) := hd 6 (by decide +kernel) (by decide) (by decide)
      refine wpOp_of rfl (by rfl) ?_
      go_simp
      exact k_of (HK.out (.pointer (some ⟨Gw, 3, none⟩)) _ rfl hB (Below.refl _ _)) (by rw [← u1_eq e6]; kernel_rfl)
    · intro _ _ u W hB hv hd K hK
      have HK := Lib.hid hK; clear hK
      have e7 : u 7 = .pointer (some ⟨Gw, 3, none⟩) := hd 7 (by decide +kernel) (by decide) (by decide)
      refine wpOp_of rfl (by rfl) ?_
      have z3 := (hG W hB.out).cell 3
      go_simp
      exact k_of (HK.out (.int .i64 x.rlo) _ rfl hB (Below.refl _ _)) (by rw [← u1_eq e7]; kernel_rfl)
    · intro _ _ u W hB hv hd K hK
      have HK := Lib.hid hK; clear hK
      refine wpOp_of rfl (by rfl) ?_
      go_simp
      exact k_of (HK.out (.pointer (some ⟨Gw, 5, none⟩)) _ rfl hB (Below.refl _ _)) (by kernel_rfl)
    · intro _ _ u W hB hv hd K hK
      have HK := Lib.hid hK; clear hK
      have e9 : u 9 = .pointer (some ⟨Gw, 5, none⟩) := hd 9 (by decide +kernel) (by decide) (by decide)
      refine wpOp_of rfl (by rfl) ?_
      go_simp
      exact k_of (HK.out (.pointer (some ⟨Gw, 5, none⟩)) _ rfl hB (Below.refl _ _)) (by rw [← u1_eq e9]; kernel_rfl)
    · intro _ _ u W hB hv hd K hK
      have HK := Lib.hid hK; clear hK
      have e10 : u 10 = .pointer (some ⟨Gw, 5, none⟩) := hd 10 (by decide +kernel) (by decide) (by decide)
      refine wpOp_of rfl (by rfl) ?_
      have z5 := (hG W hB.out).cell 5
      go_simp
      exact k_of (HK.out (.int .i64 x.slo) _ rfl hB (Below.refl _ _)) (by rw [← u1_eq e10]; kernel_rfl)
    · intro _ _ u W hB hv hd K hK
      have HK := Lib.hid hK; clear hK
      refine wpOp_of rfl (by rfl) ?_
      go_simp
      exact k_of (HK.out (.pointer (some ⟨C, 2, none⟩)) _ rfl hB (Below.refl _ _)) (by kernel_rfl)
    · intro _ _ u W hB hv hd K hK
      have HK := Lib.hid hK; clear hK
      have e12 : u 12 = .pointer (some ⟨C, 2, none⟩) := hd 12 (by decide +kernel) (by decide) (by decide)
      refine wpOp_of rfl (by rfl) ?_
      have z2 := (hC W hB.out).cell 2
      go_simp
      exact k_of (HK.out (.int .i64 c.dra) _ rfl hB (Below.refl _ _)) (by rw [← u1_eq e12]; kernel_rfl)
    · intro _ _ u W hB hv hd K hK
      have HK := Lib.hid hK; clear hK
      have e13 : u 13 = .int .i64 c.dra := hd 13 (by decide +kernel) (by decide) (by decide)
      refine wpOp_of rfl (by rfl) ?_
      go_simp
      exact k_of (HK.out (.int .i64 (-c.dra)) _ rfl hB (Below.refl _ _)) (by rw [← u1_eq e13]; kernel_rfl)
    · intro _ _ u W hB hv hd K hK
      have HK := Lib.hid hK; clear hK
      refine wpOp_of rfl (by rfl) ?_
      go_simp
      exact k_of (HK.out (.pointer (some ⟨C, 3, none⟩)) _ rfl hB (Below.refl _ _)) (by kernel_rfl)
    · intro _ _ u W hB hv hd K hK
      have HK := Lib.hid hK; clear hK
      have e15 : u 15 = .pointer (some ⟨C, 3, none⟩) := hd 15 (by decide +kernel) (by decide) (by decide)
      refine wpOp_of rfl (by rfl) ?_
      go_simp
      exact k_of (HK.out (.pointer (some ⟨C, 4, none⟩)) _ rfl hB (Below.refl _ _)) (by rw [← u1_eq e15]; kernel_rfl)
    · intro _ _ u W hB hv hd K hK
      have HK := Lib.hid hK; clear hK
      have e16 : u 16 = .pointer (some ⟨C, 4, none⟩) := hd 16 (by decide +kernel) (by decide) (by decide)
      refine wpOp_of rfl (by rfl) ?_
      have z4 := (hC W hB.out).cell 4
      go_simp
      exact k_of (HK.out (.int .i64 c.chi) _ rfl hB (Below.refl _ _)) (by rw [← u1_eq e16]; kernel_rfl)
    · intro _ _ u W hB hv hd K hK
      have HK := Lib.hid hK; clear hK
      have e2 : u 2 = .int .i64 k.plo := hd 2 (by decide +kernel) (by decide) (by decide)
      have e5 : u 5 = .int .i64 x.flo := hd 5 (by decide +kernel) (by decide) (by decide)
      have e8 : u 8 = .int .i64 x.rlo := hd 8 (by decide +kernel) (by decide) (by decide)
      have e11 : u 11 = .int .i64 x.slo := hd 11 (by decide +kernel) (by decide) (by decide)
      have e14 : u 14 = .int .i64 (-c.dra) := hd 14 (by decide +kernel) (by decide) (by decide)
      have e17 : u 17 = .int .i64 c.chi := hd 17 (by decide +kernel) (by decide) (by decide)
      refine wpOp_of rfl (by rfl) ?_
      go_simp
      exact k_of (HK.out (.agg #[.int .i64 k.plo, .int .i64 x.flo, .int .i64 x.rlo, .int .i64 x.slo, .int .i64 (-c.dra), .int .i64 c.chi]) _ rfl hB (Below.refl _ _)) (by rw [← u1_eq e2, ← u1_eq e5, ← u1_eq e8, ← u1_eq e11, ← u1_eq e14, ← u1_eq e17]; kernel_rfl)
    · intro _ _ u W hB hv hd K hK
      have HK := Lib.hid hK; clear hK
      refine wpOp_of rfl (by rfl) ?_
      go_simp
      exact k_of (HK.out (.pointer (some ⟨Kw, 2, none⟩)) _ rfl hB (Below.refl _ _)) (by kernel_rfl)
    · intro _ _ u W hB hv hd K hK
      have HK := Lib.hid hK; clear hK
      have e19 : u 19 = .pointer (some ⟨Kw, 2, none⟩) := hd 19 (by decide +kernel) (by decide) (by decide)
      refine wpOp_of rfl (by rfl) ?_
      go_simp
      exact k_of (HK.out (.pointer (some ⟨Kw, 3, none⟩)) _ rfl hB (Below.refl _ _)) (by rw [← u1_eq e19]; kernel_rfl)
    · intro _ _ u W hB hv hd K hK
      have HK := Lib.hid hK; clear hK
      have e20 : u 20 = .pointer (some ⟨Kw, 3, none⟩) := hd 20 (by decide +kernel) (by decide) (by decide)
      refine wpOp_of rfl (by rfl) ?_
      have z3 := (hK W hB.out).cell 3
      go_simp
      exact k_of (HK.out (.int .i64 k.phi) _ rfl hB (Below.refl _ _)) (by rw [← u1_eq e20]; kernel_rfl)
    · intro _ _ u W hB hv hd K hK
      have HK := Lib.hid hK; clear hK
      refine wpOp_of rfl (by rfl) ?_
      go_simp
      exact k_of (HK.out (.pointer (some ⟨Gw, 1, none⟩)) _ rfl hB (Below.refl _ _)) (by kernel_rfl)
    · intro _ _ u W hB hv hd K hK
      have HK := Lib.hid hK; clear hK
      have e22 : u 22 = .pointer (some ⟨Gw, 1, none⟩) := hd 22 (by decide +kernel) (by decide) (by decide)
      refine wpOp_of rfl (by rfl) ?_
      go_simp
      exact k_of (HK.out (.pointer (some ⟨Gw, 2, none⟩)) _ rfl hB (Below.refl _ _)) (by rw [← u1_eq e22]; kernel_rfl)
    · intro _ _ u W hB hv hd K hK
      have HK := Lib.hid hK; clear hK
      have e23 : u 23 = .pointer (some ⟨Gw, 2, none⟩) := hd 23 (by decide +kernel) (by decide) (by decide)
      refine wpOp_of rfl (by rfl) ?_
      have z2 := (hG W hB.out).cell 2
      go_simp
      exact k_of (HK.out (.int .i64 x.fhi) _ rfl hB (Below.refl _ _)) (by rw [← u1_eq e23]; kernel_rfl)
    · intro _ _ u W hB hv hd K hK
      have HK := Lib.hid hK; clear hK
      refine wpOp_of rfl (by rfl) ?_
      go_simp
      exact k_of (HK.out (.pointer (some ⟨Gw, 3, none⟩)) _ rfl hB (Below.refl _ _)) (by kernel_rfl)
    · intro _ _ u W hB hv hd K hK
      have HK := Lib.hid hK; clear hK
      have e25 : u 25 = .pointer (some ⟨Gw, 3, none⟩) := hd 25 (by decide +kernel) (by decide) (by decide)
      refine wpOp_of rfl (by rfl) ?_
      go_simp
      exact k_of (HK.out (.pointer (some ⟨Gw, 4, none⟩)) _ rfl hB (Below.refl _ _)) (by rw [← u1_eq e25]; kernel_rfl)
    · intro _ _ u W hB hv hd K hK
      have HK := Lib.hid hK; clear hK
      have e26 : u 26 = .pointer (some ⟨Gw, 4, none⟩) := hd 26 (by decide +kernel) (by decide) (by decide)
      refine wpOp_of rfl (by rfl) ?_
      have z4 := (hG W hB.out).cell 4
      go_simp
      exact k_of (HK.out (.int .i64 x.rhi) _ rfl hB (Below.refl _ _)) (by rw [← u1_eq e26]; kernel_rfl)
    · intro _ _ u W hB hv hd K hK
      have HK := Lib.hid hK; clear hK
      refine wpOp_of rfl (by rfl) ?_
      go_simp
      exact k_of (HK.out (.pointer (some ⟨Gw, 5, none⟩)) _ rfl hB (Below.refl _ _)) (by kernel_rfl)
    · intro _ _ u W hB hv hd K hK
      have HK := Lib.hid hK; clear hK
      have e28 : u 28 = .pointer (some ⟨Gw, 5, none⟩) := hd 28 (by decide +kernel) (by decide) (by decide)
      refine wpOp_of rfl (by rfl) ?_
      go_simp
      exact k_of (HK.out (.pointer (some ⟨Gw, 6, none⟩)) _ rfl hB (Below.refl _ _)) (by rw [← u1_eq e28]; kernel_rfl)
    · intro _ _ u W hB hv hd K hK
      have HK := Lib.hid hK; clear hK
      have e29 : u 29 = .pointer (some ⟨Gw, 6, none⟩) := hd 29 (by decide +kernel) (by decide) (by decide)
      refine wpOp_of rfl (by rfl) ?_
      have z6 := (hG W hB.out).cell 6
      go_simp
      exact k_of (HK.out (.int .i64 x.shi) _ rfl hB (Below.refl _ _)) (by rw [← u1_eq e29]; kernel_rfl)
    · intro _ _ u W hB hv hd K hK
      have HK := Lib.hid hK; clear hK
      refine wpOp_of rfl (by rfl) ?_
      go_simp
      exact k_of (HK.out (.pointer (some ⟨C, 2, none⟩)) _ rfl hB (Below.refl _ _)) (by kernel_rfl)
    · intro _ _ u W hB hv hd K hK
      have HK := Lib.hid hK; clear hK
      have e31 : u 31 = .pointer (some ⟨C, 2, none⟩) := hd 31 (by decide +kernel) (by decide) (by decide)
      refine wpOp_of rfl (by rfl) ?_
      have z2 := (hC W hB.out).cell 2
      go_simp
      exact k_of (HK.out (.int .i64 c.dra) _ rfl hB (Below.refl _ _)) (by rw [← u1_eq e31]; kernel_rfl)
    · intro _ _ u W hB hv hd K hK
      have HK := Lib.hid hK; clear hK
      refine wpOp_of rfl (by rfl) ?_
      go_simp
      exact k_of (HK.out (.pointer (some ⟨C, 3, none⟩)) _ rfl hB (Below.refl _ _)) (by kernel_rfl)
    · intro _ _ u W hB hv hd K hK
      have HK := Lib.hid hK; clear hK
      have e33 : u 33 = .pointer (some ⟨C, 3, none⟩) := hd 33 (by decide +kernel) (by decide) (by decide)
      refine wpOp_of rfl (by rfl) ?_
      go_simp
      exact k_of (HK.out (.pointer (some ⟨C, 3, none⟩)) _ rfl hB (Below.refl _ _)) (by rw [← u1_eq e33]; kernel_rfl)
    · intro _ _ u W hB hv hd K hK
      have HK := Lib.hid hK; clear hK
      have e34 : u 34 = .pointer (some ⟨C, 3, none⟩) := hd 34 (by decide +kernel) (by decide) (by decide)
      refine wpOp_of rfl (by rfl) ?_
      have z3 := (hC W hB.out).cell 3
      go_simp
      exact k_of (HK.out (.int .i64 c.clo) _ rfl hB (Below.refl _ _)) (by rw [← u1_eq e34]; kernel_rfl)
    · intro _ _ u W hB hv hd K hK
      have HK := Lib.hid hK; clear hK
      have e21 : u 21 = .int .i64 k.phi := hd 21 (by decide +kernel) (by decide) (by decide)
      have e24 : u 24 = .int .i64 x.fhi := hd 24 (by decide +kernel) (by decide) (by decide)
      have e27 : u 27 = .int .i64 x.rhi := hd 27 (by decide +kernel) (by decide) (by decide)
      have e30 : u 30 = .int .i64 x.shi := hd 30 (by decide +kernel) (by decide) (by decide)
      have e32 : u 32 = .int .i64 c.dra := hd 32 (by decide +kernel) (by decide) (by decide)
      have e35 : u 35 = .int .i64 c.clo := hd 35 (by decide +kernel) (by decide) (by decide)
      refine wpOp_of rfl (by rfl) ?_
      go_simp
      exact k_of (HK.out (.agg #[.int .i64 k.phi, .int .i64 x.fhi, .int .i64 x.rhi, .int .i64 x.shi, .int .i64 c.dra, .int .i64 c.clo]) _ rfl hB (Below.refl _ _)) (by rw [← u1_eq e21, ← u1_eq e24, ← u1_eq e27, ← u1_eq e30, ← u1_eq e32, ← u1_eq e35]; kernel_rfl)
    · intro _ ha; exact absurd (by decide) ha
    · intro _ ha; exact absurd (by decide) ha
  case done =>
    intro L u W hL hB hd hV
    have hv0 := hV.ok ⟨none, R1, 37, 36, #[.int .i64 0, .int .i64 0, .int .i64 0, .int .i64 0, .int .i64 0, .int .i64 0], #[.int .i64 k.plo, .int .i64 x.flo, .int .i64 x.rlo, .int .i64 x.slo, .int .i64 (-c.dra), .int .i64 c.chi]⟩ (by simp)
    have hB0 := hv0.2 (R1) ⟨rfl, hg0⟩
    rw [if_pos (hL 37 (by decide))] at hB0
    have hv1 := hV.ok ⟨none, R2, 38, 36, #[.int .i64 0, .int .i64 0, .int .i64 0, .int .i64 0, .int .i64 0, .int .i64 0], #[.int .i64 k.phi, .int .i64 x.fhi, .int .i64 x.rhi, .int .i64 x.shi, .int .i64 c.dra, .int .i64 c.clo]⟩ (by simp)
    have hB1 := hv1.2 (R2) ⟨rfl, hg1⟩
    rw [if_pos (hL 38 (by decide))] at hB1
    exact k_of (HQ.out u W hB.out hB0 hB1) (rfl)


set_option maxRecDepth 100000 in
set_option maxHeartbeats 4000000 in
theorem rends_any {w : World} {p : Sp} {c : Cd} {q : Int} {k : Wk} {x : Wx} (h : ShIn w p) (h0 : 0 ≤ q) (hk : p.s.ks[q.toNat]? = some k) (hc0 : 0 ≤ c.wax) (hx : p.s.xs[c.wax.toNat]? = some x) (hd : 0 ≤ c.dra ∧ c.dra ≤ 90) :
    Calls Try.prog 38 #[.agg #[.slice p.ka p.s.ks.length p.kc, .slice p.xa p.s.xs.length p.xc, .int .i64 p.s.flo, .int .i64 p.s.fhi, .int .i64 p.s.plo, .int .i64 p.s.phi], .int .i64 q, .agg #[.int .i64 c.wax, .int .i64 c.dia, .int .i64 c.dra, .int .i64 c.clo, .int .i64 c.chi]] w fun e w' => e = .returned (.tuple #[.agg #[.int .i64 (weakT k x c).pull, .int .i64 (weakT k x c).flow, .int .i64 (weakT k x c).rise, .int .i64 (weakT k x c).spr, .int .i64 (weakT k x c).dra, .int .i64 (weakT k x c).cold], .agg #[.int .i64 (strongT k x c).pull, .int .i64 (strongT k x c).flow, .int .i64 (strongT k x c).rise, .int .i64 (strongT k x c).spr, .int .i64 (strongT k x c).dra, .int .i64 (strongT k x c).cold]]) ∧ Below w.heap.size w w' := by
  obtain ⟨b, o, hka, hbb, hkc⟩ := wks_at h.ks.at_ hk
  obtain ⟨xb, xo, hxa, hxb, hxc⟩ := wxs_at h.xs.at_ hx
  have hq : q < p.s.ks.length := by have := (List.getElem?_eq_some_iff.1 hk).1; omega
  have hwl : c.wax < p.s.xs.length := by have := (List.getElem?_eq_some_iff.1 hx).1; omega
  have hb0 := (((Bx.nil w).alloc #[.slice p.ka p.s.ks.length p.kc, .slice p.xa p.s.xs.length p.xc, .int .i64 p.s.flo, .int .i64 p.s.fhi, .int .i64 p.s.plo, .int .i64 p.s.phi] 27).alloc #[.int .i64 c.wax, .int .i64 c.dia, .int .i64 c.dra, .int .i64 c.clo, .int .i64 c.chi] 34).alloc #[.int .i64 0, .int .i64 0, .int .i64 0, .int .i64 0, .int .i64 0, .int .i64 0] 36 |>.alloc #[.int .i64 0, .int .i64 0, .int .i64 0, .int .i64 0, .int .i64 0, .int .i64 0] 36
  simp only [World.size_alloc] at hb0
  have HB := Lib.hid hb0
  have HQ := Lib.hid (And.intro h0 hq)
  have HW := Lib.hid (And.intro hc0 hwl)
  have HK := Lib.hid (And.intro hbb hkc)
  have HX := Lib.hid (And.intro hxb hxc)
  have HWR := Lib.hid (show IntKind.i64.wrap (-c.dra) = -c.dra from IntWalk.i64_in _ (by omega))
  rw [hka, hxa] at HB
  clear h hk hx hb0 h0 hq hc0 hwl hbb hkc hxb hxc
  go_enter Try.func38, Try.ntmps38
  simp only [hka, hxa]
  go_wp2_with fail
  refine wp_of_eq (re1_region (S := Bx w [(w.heap.size + 1 + 1 + 1, 36, #[.int .i64 0, .int .i64 0, .int .i64 0, .int .i64 0, .int .i64 0, .int .i64 0]), (w.heap.size + 1 + 1, 36, #[.int .i64 0, .int .i64 0, .int .i64 0, .int .i64 0, .int .i64 0, .int .i64 0]), (w.heap.size + 1, 34, #[.int .i64 c.wax, .int .i64 c.dia, .int .i64 c.dra, .int .i64 c.clo, .int .i64 c.chi]), (w.heap.size, 27, #[.slice (some ⟨b, o, none⟩) p.s.ks.length p.kc, .slice (some ⟨xb, xo, none⟩) p.s.xs.length p.xc, .int .i64 p.s.flo, .int .i64 p.s.fhi, .int .i64 p.s.plo, .int .i64 p.s.phi])]) (N := w.heap.size + 4) (P := w.heap.size) (C := w.heap.size + 1) (b := b) (o := o) (xb := xb) (xo := xo) (qk := q) (p := p) (c := c) (k := k) (x := x) HQ.out.1 HQ.out.2 HW.out.1 HW.out.2 (fun W h => h.get (by simp)) (fun W h => h.get (by simp))
    (fun W h => by have hb := h.b; obtain ⟨e1, e2, e3, e4⟩ := HK.out.2; exact ⟨(hb.cell (p := ⟨b, _, none⟩) HK.out.1).trans e1, (hb.cell (p := ⟨b, _, none⟩) HK.out.1).trans e2, (hb.cell (p := ⟨b, _, none⟩) HK.out.1).trans e3, (hb.cell (p := ⟨b, _, none⟩) HK.out.1).trans e4⟩)
    (fun W h => by have hb := h.b; obtain ⟨e1, e2, e3, e4, e5, e6, e7, e8⟩ := HX.out.2; exact ⟨(hb.cell (p := ⟨xb, _, none⟩) HX.out.1).trans e1, (hb.cell (p := ⟨xb, _, none⟩) HX.out.1).trans e2, (hb.cell (p := ⟨xb, _, none⟩) HX.out.1).trans e3, (hb.cell (p := ⟨xb, _, none⟩) HX.out.1).trans e4, (hb.cell (p := ⟨xb, _, none⟩) HX.out.1).trans e5, (hb.cell (p := ⟨xb, _, none⟩) HX.out.1).trans e6, (hb.cell (p := ⟨xb, _, none⟩) HX.out.1).trans e7, (hb.cell (p := ⟨xb, _, none⟩) HX.out.1).trans e8⟩)
    (fun _ _ h hb => h.on hb) (fun W W' G h hg hG => h.put hg (by omega) (fun q hq => by simp only [List.mem_cons, List.not_mem_nil, or_false] at hq; rcases hq with rfl | rfl | rfl | rfl <;> (simp only; omega))) (fun W h => by have := (h.at_ _ List.mem_cons_self).2.lt; omega) HB (Lib.hid fun u G0 G1 W hS hG0 hG1 hB0 hB1 => ?_)) (by kernel_rfl)
  have HS := Lib.hid hS
  have HE := Lib.hid (And.intro hB0 hB1)
  have HG := Lib.hid (And.intro hG0 (And.intro hG1 (And.intro hB0.lt (And.intro hB1.lt hS.b.size))))
  clear hS hB0 hB1 hG0 hG1 HB
  go_wp2_with fail
  refine wp_of_eq (re2_region (S := fun V => (Blk V (w.heap.size + 1) 34 #[.int .i64 c.wax, .int .i64 c.dia, .int .i64 c.dra, .int .i64 c.clo, .int .i64 c.chi] ∧ Blk V G0 74 #[.string k.nm, .int .i64 k.th, .int .i64 k.plo, .int .i64 k.phi] ∧ Blk V G1 80 #[.string x.nm, .int .i64 x.flo, .int .i64 x.fhi, .int .i64 x.rlo, .int .i64 x.rhi, .int .i64 x.slo, .int .i64 x.shi, .int .i64 x.ch]) ∧ SB w W.heap.size V) (N := W.heap.size) (C := w.heap.size + 1) (Kw := G0) (Gw := G1) (R1 := w.heap.size + 1 + 1) (R2 := w.heap.size + 1 + 1 + 1) (c := c) (k := k) (x := x) HWR.out (fun W h => h.1.1) (fun W h => h.1.2.1) (fun W h => h.1.2.2)
    (fun _ _ h hb => ⟨⟨h.1.1.on hb, h.1.2.1.on hb, h.1.2.2.on hb⟩, h.2.on hb⟩) (fun V V' G h hg hG => by obtain ⟨g0, g1, g2, g3, g4⟩ := HG.out; exact ⟨⟨h.1.1.grown_ hg (by omega), h.1.2.1.grown_ hg (by omega), h.1.2.2.grown_ hg (by omega)⟩, h.2.put hg (by omega)⟩) (fun W h => h.2.n) (Lib.hid ⟨⟨HS.out.get (by simp), HE.out.1, HE.out.2⟩, HS.out.b, Nat.le_refl _⟩) (HS.out.get (by simp)) (by obtain ⟨g0, g1, g2, g3, g4⟩ := HG.out; omega) (HS.out.get (by simp)) (by obtain ⟨g0, g1, g2, g3, g4⟩ := HG.out; omega) (by omega) (Lib.hid fun u2 W2 hS2 hA hB => ?_)) (by kernel_rfl)
  have hF := Lib.hid hS2.2.b
  have a0 := hA.cell 0; have a1 := hA.cell 1; have a2 := hA.cell 2; have a3 := hA.cell 3; have a4 := hA.cell 4; have a5 := hA.cell 5
  have b0 := hB.cell 0; have b1 := hB.cell 1; have b2 := hB.cell 2; have b3 := hB.cell 3; have b4 := hB.cell 4; have b5 := hB.cell 5
  clear hS2 hA hB
  go_wp2_with fail
  refine bodyPost_ret (v := .tuple #[.agg #[.int .i64 (weakT k x c).pull, .int .i64 (weakT k x c).flow, .int .i64 (weakT k x c).rise, .int .i64 (weakT k x c).spr, .int .i64 (weakT k x c).dra, .int .i64 (weakT k x c).cold], .agg #[.int .i64 (strongT k x c).pull, .int .i64 (strongT k x c).flow, .int .i64 (strongT k x c).rise, .int .i64 (strongT k x c).spr, .int .i64 (strongT k x c).dra, .int .i64 (strongT k x c).cold]]) ?_ rfl ⟨rfl, hF.out⟩
  simp [results, Try.results38, go_sem, a0, a1, a2, a3, a4, a5, b0, b1, b2, b3, b4, b5, weakT, strongT]
end Go.Proofs.Ytkjfommdeljefaa
