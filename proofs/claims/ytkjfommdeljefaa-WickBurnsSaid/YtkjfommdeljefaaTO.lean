/- ref03.Burn: its contract. -/
import Derived.Test.YtkjfommdeljefaaTK
import Derived.Test.YtkjfommdeljefaaT2
import Derived.Test.YtkjfommdeljefaaQz
namespace Go.Proofs.Ytkjfommdeljefaa
open Go.RowKit Go.Shelf Go.Maps
attribute [local go_sem] Oper.semAt_some

/-- What each operation leaves. -/
def rn5F (_P _C _T1 _T2 : Nat) (p : Sp) (c : Cd) (lo hi : Tu) (b1 b2 : Bn) : Nat → Value → Prop
  | 0, v => v = .agg #[.slice p.ka p.s.ks.length p.kc, .slice p.xa p.s.xs.length p.xc, .int .i64 p.s.flo, .int .i64 p.s.fhi, .int .i64 p.s.plo, .int .i64 p.s.phi]
  | 1, v => v = .agg #[.int .i64 c.wax, .int .i64 c.dia, .int .i64 c.dra, .int .i64 c.clo, .int .i64 c.chi]
  | 2, v => v = .agg #[.int .i64 lo.pull, .int .i64 lo.flow, .int .i64 lo.rise, .int .i64 lo.spr, .int .i64 lo.dra, .int .i64 lo.cold]
  | 3, v => v = .agg #[.int .i64 b1.rate, .int .i64 b1.flame, .int .i64 b1.pool]
  | 4, v => v = .agg #[.slice p.ka p.s.ks.length p.kc, .slice p.xa p.s.xs.length p.xc, .int .i64 p.s.flo, .int .i64 p.s.fhi, .int .i64 p.s.plo, .int .i64 p.s.phi]
  | 5, v => v = .agg #[.int .i64 c.wax, .int .i64 c.dia, .int .i64 c.dra, .int .i64 c.clo, .int .i64 c.chi]
  | 6, v => v = .agg #[.int .i64 hi.pull, .int .i64 hi.flow, .int .i64 hi.rise, .int .i64 hi.spr, .int .i64 hi.dra, .int .i64 hi.cold]
  | 7, v => v = .agg #[.int .i64 b2.rate, .int .i64 b2.flame, .int .i64 b2.pool]
  | 8, _ => True
  | 9, _ => True
  | 10, v => v = .int .i64 0
  | _, _ => True
set_option maxRecDepth 100000 in
set_option maxHeartbeats 8000000 in
theorem rn5_region {R1 R2 N P C T1 T2 : Nat} {p : Sp} {c : Cd} {lo hi : Tu} {b1 b2 : Bn} {S : World → Prop} (hP : ∀ W, S W → Blk W P 27 #[.slice p.ka p.s.ks.length p.kc, .slice p.xa p.s.xs.length p.xc, .int .i64 p.s.flo, .int .i64 p.s.fhi, .int .i64 p.s.plo, .int .i64 p.s.phi]) (hC : ∀ W, S W → Blk W C 34 #[.int .i64 c.wax, .int .i64 c.dia, .int .i64 c.dra, .int .i64 c.clo, .int .i64 c.chi]) (h1 : ∀ W, S W → Blk W T1 36 #[.int .i64 lo.pull, .int .i64 lo.flow, .int .i64 lo.rise, .int .i64 lo.spr, .int .i64 lo.dra, .int .i64 lo.cold]) (h2 : ∀ W, S W → Blk W T2 36 #[.int .i64 hi.pull, .int .i64 hi.flow, .int .i64 hi.rise, .int .i64 hi.spr, .int .i64 hi.dra, .int .i64 hi.cold]) (H1 : Hid (∀ W, S W → Calls Try.prog 54 #[.agg #[.slice p.ka p.s.ks.length p.kc, .slice p.xa p.s.xs.length p.xc, .int .i64 p.s.flo, .int .i64 p.s.fhi, .int .i64 p.s.plo, .int .i64 p.s.phi], .agg #[.int .i64 c.wax, .int .i64 c.dia, .int .i64 c.dra, .int .i64 c.clo, .int .i64 c.chi], .agg #[.int .i64 lo.pull, .int .i64 lo.flow, .int .i64 lo.rise, .int .i64 lo.spr, .int .i64 lo.dra, .int .i64 lo.cold]] W fun e w' => e = .returned (.agg #[.int .i64 b1.rate, .int .i64 b1.flame, .int .i64 b1.pool]) ∧ Below W.heap.size W w')) (H2 : Hid (∀ W, S W → Calls Try.prog 54 #[.agg #[.slice p.ka p.s.ks.length p.kc, .slice p.xa p.s.xs.length p.xc, .int .i64 p.s.flo, .int .i64 p.s.fhi, .int .i64 p.s.plo, .int .i64 p.s.phi], .agg #[.int .i64 c.wax, .int .i64 c.dia, .int .i64 c.dra, .int .i64 c.clo, .int .i64 c.chi], .agg #[.int .i64 hi.pull, .int .i64 hi.flow, .int .i64 hi.rise, .int .i64 hi.spr, .int .i64 hi.dra, .int .i64 hi.cold]] W fun e w' => e = .returned (.agg #[.int .i64 b2.rate, .int .i64 b2.flame, .int .i64 b2.pool]) ∧ Below W.heap.size W w')) (hon : ∀ W W', S W → Below W.heap.size W W' → S W') (hput : ∀ W W' G, S W → W.grownBy W' (some G) → (N ≤ G ∨ G = R1 ∨ G = R2) → S W') (hN : ∀ W, S W → N ≤ W.heap.size) {Q : Exit → Act → World → Prop} {s0 s1 s2 s4 s9 s12 s13 s14 s15 s16 s17 s18 s19 s20 s21 s22 s23 s24 s25 s26 s27 : Value} {W0 : World} (HL : Hid (S W0)) (hk0 : Blk W0 (R1) 40 #[.int .i64 0, .int .i64 0, .int .i64 0]) (hg0 : R1 < N) (hk1 : Blk W0 (R2) 40 #[.int .i64 0, .int .i64 0, .int .i64 0]) (hg1 : R2 < N) (hn0_1 : R1 ≠ R2)
    (HQ : Hid (∀ (u : Nat → Value) (W : World), S W → Blk W (R1) 40 #[.int .i64 b1.rate, .int .i64 b1.flame, .int .i64 b1.pool] → Blk W (R2) 40 #[.int .i64 b2.rate, .int .i64 b2.flame, .int .i64 b2.pool] → Q .normal ⟨#[s0, s1, s2, .pointer (some ⟨P, 0, none⟩), s4, .pointer (some ⟨C, 0, none⟩), .pointer (some ⟨R1, 0, none⟩), .pointer (some ⟨R2, 0, none⟩), .int .i64 0, s9, .pointer (some ⟨T1, 0, none⟩), .pointer (some ⟨T2, 0, none⟩), s12, s13, s14, s15, s16, s17, s18, s19, s20, s21, s22, s23, s24, s25, s26, s27, u 0, u 1, u 2, u 3, u 4, u 5, u 6, u 7], []⟩ W)) :
    Code.wp Try.prog ((Try.f20.body.bind (regionAt 5)).getD .skip) Q ⟨#[s0, s1, s2, .pointer (some ⟨P, 0, none⟩), s4, .pointer (some ⟨C, 0, none⟩), .pointer (some ⟨R1, 0, none⟩), .pointer (some ⟨R2, 0, none⟩), .int .i64 0, s9, .pointer (some ⟨T1, 0, none⟩), .pointer (some ⟨T2, 0, none⟩), s12, s13, s14, s15, s16, s17, s18, s19, s20, s21, s22, s23, s24, s25, s26, s27, undef, undef, undef, undef, undef, undef, undef, undef], []⟩ W0 := by
  conv => arg 2; whnf
  refine wp_region_vars (by kernel_rfl) 11 (by kernel_rfl) (fun u => ⟨#[s0, s1, s2, .pointer (some ⟨P, 0, none⟩), s4, .pointer (some ⟨C, 0, none⟩), .pointer (some ⟨R1, 0, none⟩), .pointer (some ⟨R2, 0, none⟩), u 10, s9, .pointer (some ⟨T1, 0, none⟩), .pointer (some ⟨T2, 0, none⟩), s12, s13, s14, s15, s16, s17, s18, s19, s20, s21, s22, s23, s24, s25, s26, s27, u 0, u 1, u 2, u 3, u 4, u 5, u 6, u 7], []⟩) (fun i => if i = 10 then .int .i64 0 else undef) (fun W => Hid (S W)) (rn5F P C T1 T2 p c lo hi b1 b2) (N) [⟨none, R1, 8, 40, #[.int .i64 0, .int .i64 0, .int .i64 0], #[.int .i64 b1.rate, .int .i64 b1.flame, .int .i64 b1.pool]⟩, ⟨none, R2, 9, 40, #[.int .i64 0, .int .i64 0, .int .i64 0], #[.int .i64 b2.rate, .int .i64 b2.flame, .int .i64 b2.pool]⟩] [] [8, 9] rfl rfl (by kernel_rfl) (hon _ _ HL.out (Below.refl _ _).drew) ?hV (fun W h => hN W h.out) ?hg (by decide +kernel) (fun W W' h hb => hon W W' h.out hb) ?hp ?hA ?hP (by decide) (by decide) (by decide) (by decide) (by decide) ?step ?done
  case hV =>
    refine ⟨fun q hq => ⟨fun a e hl => (by cases hl), fun G hG => ?_⟩, fun q hq r hr hne G h1 h2 => ?_⟩
    · simp only [List.mem_cons, List.not_mem_nil, or_false] at hq
      rcases hq with rfl | rfl
      · obtain ⟨rfl, -⟩ := hG; exact hk0.drew
      · obtain ⟨rfl, -⟩ := hG; exact hk1.drew
    · simp only [List.mem_cons, List.not_mem_nil, or_false] at hq
      rcases hq with rfl | rfl
      · simp only [List.mem_cons, List.not_mem_nil, or_false] at hr
        rcases hr with rfl | rfl
        · exact absurd rfl hne
        · exact hn0_1 (h1.1.symm.trans h2.1)
      · simp only [List.mem_cons, List.not_mem_nil, or_false] at hr
        rcases hr with rfl | rfl
        · exact hn0_1 (h2.1.symm.trans h1.1)
        · exact absurd rfl hne
  case hg =>
    intro q hq ha
    simp only [List.mem_cons, List.not_mem_nil, or_false] at hq
    rcases hq with rfl | rfl
    · exact hg0
    · exact hg1
  case hp =>
    intro W W' G h hg hG
    refine hput W W' G h.out hg ?_
    rcases hG with h1 | ⟨q, hq, ha, h2⟩
    · exact .inl h1
    · simp only [List.mem_cons, List.not_mem_nil, or_false] at hq
      rcases hq with rfl | rfl
      · exact .inr (.inl h2)
      · exact .inr (.inr h2)
  case hA =>
    intro q hq i ha
    simp only [List.mem_cons, List.not_mem_nil, or_false] at hq
    rcases hq with rfl | rfl
    · cases ha
    · cases ha
  case hP =>
    intro q hq u W hB hd G hG hb K hK
    have HK := Lib.hid hK; clear hK
    simp only [List.mem_cons, List.not_mem_nil, or_false] at hq
    rcases hq with rfl | rfl
    · have hGe : G = R1 := hG.1
      rw [hGe] at hb HK
      clear hG hGe
      replace hd : ∀ j ∈ waits .any _ 8, j ∉ [] → j ∉ [8, 9] → rn5F P C T1 T2 p c lo hi b1 b2 j (u j) := hd
      have e3 : u 3 = .agg #[.int .i64 b1.rate, .int .i64 b1.flame, .int .i64 b1.pool] := hd 3 (by decide +kernel) (by decide) (by decide)
      replace hb : Blk W R1 40 #[.int .i64 0, .int .i64 0, .int .i64 0] := hb
      have hb2 := (((hb).set_ 0 (.int .i64 b1.rate)).set_ 1 (.int .i64 b1.flame)).set_ 2 (.int .i64 b1.pool)
      simp only [List.setIfInBounds_toArray, List.set_cons_zero, List.set_cons_succ] at hb2
      have hg2 : W.grownBy _ (some (R1)) := grown_more (grown_more (grown_more (World.grownBy.refl W (some R1)) 0 (.int .i64 b1.rate)) 1 (.int .i64 b1.flame)) 2 (.int .i64 b1.pool)
      have fz0 := hb.frozen 0
      have cl0 := hb.cell 0
      have fz1 := hb.frozen 1
      have cl1 := hb.cell 1
      have fz2 := hb.frozen 2
      have cl2 := hb.cell 2
      have gl := hb.lt
      have HB2 := Lib.hid hb2
      have HG2 := Lib.hid hg2
      clear hb2 hg2
      refine wpOp_of rfl (by rfl) ?_
      go_simp
      exact k_of (HK.out _ HB2.out HG2.out) (by rw [← u1_eq e3] <;> kernel_rfl)
    · have hGe : G = R2 := hG.1
      rw [hGe] at hb HK
      clear hG hGe
      replace hd : ∀ j ∈ waits .any _ 9, j ∉ [] → j ∉ [8, 9] → rn5F P C T1 T2 p c lo hi b1 b2 j (u j) := hd
      have e7 : u 7 = .agg #[.int .i64 b2.rate, .int .i64 b2.flame, .int .i64 b2.pool] := hd 7 (by decide +kernel) (by decide) (by decide)
      replace hb : Blk W R2 40 #[.int .i64 0, .int .i64 0, .int .i64 0] := hb
      have hb2 := (((hb).set_ 0 (.int .i64 b2.rate)).set_ 1 (.int .i64 b2.flame)).set_ 2 (.int .i64 b2.pool)
      simp only [List.setIfInBounds_toArray, List.set_cons_zero, List.set_cons_succ] at hb2
      have hg2 : W.grownBy _ (some (R2)) := grown_more (grown_more (grown_more (World.grownBy.refl W (some R2)) 0 (.int .i64 b2.rate)) 1 (.int .i64 b2.flame)) 2 (.int .i64 b2.pool)
      have fz0 := hb.frozen 0
      have cl0 := hb.cell 0
      have fz1 := hb.frozen 1
      have cl1 := hb.cell 1
      have fz2 := hb.frozen 2
      have cl2 := hb.cell 2
      have gl := hb.lt
      have HB2 := Lib.hid hb2
      have HG2 := Lib.hid hg2
      clear hb2 hg2
      refine wpOp_of rfl (by rfl) ?_
      go_simp
      exact k_of (HK.out _ HB2.out HG2.out) (by rw [← u1_eq e7] <;> kernel_rfl)
  case step =>
    iterate 11 (refine all_succ ?_ ?_)
    · exact all_zero
    · intro _ _ u W hB hv hd K hK
      have HK := Lib.hid hK; clear hK
      refine wpOp_of rfl (by rfl) ?_
      have z0 := (hP W hB.out).cell 0; have z1 := (hP W hB.out).cell 1; have z2 := (hP W hB.out).cell 2; have z3 := (hP W hB.out).cell 3; have z4 := (hP W hB.out).cell 4; have z5 := (hP W hB.out).cell 5
      go_simp
      exact k_of (HK.out (.agg #[.slice p.ka p.s.ks.length p.kc, .slice p.xa p.s.xs.length p.xc, .int .i64 p.s.flo, .int .i64 p.s.fhi, .int .i64 p.s.plo, .int .i64 p.s.phi]) _ rfl hB (Below.refl _ _)) (by kernel_rfl)
    · intro _ _ u W hB hv hd K hK
      have HK := Lib.hid hK; clear hK
      refine wpOp_of rfl (by rfl) ?_
      have z0 := (hC W hB.out).cell 0; have z1 := (hC W hB.out).cell 1; have z2 := (hC W hB.out).cell 2; have z3 := (hC W hB.out).cell 3; have z4 := (hC W hB.out).cell 4
      go_simp
      exact k_of (HK.out (.agg #[.int .i64 c.wax, .int .i64 c.dia, .int .i64 c.dra, .int .i64 c.clo, .int .i64 c.chi]) _ rfl hB (Below.refl _ _)) (by kernel_rfl)
    · intro _ _ u W hB hv hd K hK
      have HK := Lib.hid hK; clear hK
      refine wpOp_of rfl (by rfl) ?_
      have z0 := (h1 W hB.out).cell 0; have z1 := (h1 W hB.out).cell 1; have z2 := (h1 W hB.out).cell 2; have z3 := (h1 W hB.out).cell 3; have z4 := (h1 W hB.out).cell 4; have z5 := (h1 W hB.out).cell 5
      go_simp
      exact k_of (HK.out (.agg #[.int .i64 lo.pull, .int .i64 lo.flow, .int .i64 lo.rise, .int .i64 lo.spr, .int .i64 lo.dra, .int .i64 lo.cold]) _ rfl hB (Below.refl _ _)) (by kernel_rfl)
    · intro _ _ u W hB hv hd K hK
      have HK := Lib.hid hK; clear hK
      have e0 : u 0 = .agg #[.slice p.ka p.s.ks.length p.kc, .slice p.xa p.s.xs.length p.xc, .int .i64 p.s.flo, .int .i64 p.s.fhi, .int .i64 p.s.plo, .int .i64 p.s.phi] := hd 0 (by decide +kernel) (by decide) (by decide)
      have e1 : u 1 = .agg #[.int .i64 c.wax, .int .i64 c.dia, .int .i64 c.dra, .int .i64 c.clo, .int .i64 c.chi] := hd 1 (by decide +kernel) (by decide) (by decide)
      have e2 : u 2 = .agg #[.int .i64 lo.pull, .int .i64 lo.flow, .int .i64 lo.rise, .int .i64 lo.spr, .int .i64 lo.dra, .int .i64 lo.cold] := hd 2 (by decide +kernel) (by decide) (by decide)
      refine wpOp_of rfl (by rfl) ?_
      go_simp
      refine (H1.out W hB.out).mono ?_
      rintro e w' ⟨rfl, hb⟩
      exact k_of (HK.out (.agg #[.int .i64 b1.rate, .int .i64 b1.flame, .int .i64 b1.pool]) _ rfl (hon _ _ hB.out hb) hb) (by rw [← u1_eq e0, ← u1_eq e1, ← u1_eq e2]; kernel_rfl)
    · intro _ _ u W hB hv hd K hK
      have HK := Lib.hid hK; clear hK
      refine wpOp_of rfl (by rfl) ?_
      have z0 := (hP W hB.out).cell 0; have z1 := (hP W hB.out).cell 1; have z2 := (hP W hB.out).cell 2; have z3 := (hP W hB.out).cell 3; have z4 := (hP W hB.out).cell 4; have z5 := (hP W hB.out).cell 5
      go_simp
      exact k_of (HK.out (.agg #[.slice p.ka p.s.ks.length p.kc, .slice p.xa p.s.xs.length p.xc, .int .i64 p.s.flo, .int .i64 p.s.fhi, .int .i64 p.s.plo, .int .i64 p.s.phi]) _ rfl hB (Below.refl _ _)) (by kernel_rfl)
    · intro _ _ u W hB hv hd K hK
      have HK := Lib.hid hK; clear hK
      refine wpOp_of rfl (by rfl) ?_
      have z0 := (hC W hB.out).cell 0; have z1 := (hC W hB.out).cell 1; have z2 := (hC W hB.out).cell 2; have z3 := (hC W hB.out).cell 3; have z4 := (hC W hB.out).cell 4
      go_simp
      exact k_of (HK.out (.agg #[.int .i64 c.wax, .int .i64 c.dia, .int .i64 c.dra, .int .i64 c.clo, .int .i64 c.chi]) _ rfl hB (Below.refl _ _)) (by kernel_rfl)
    · intro _ _ u W hB hv hd K hK
      have HK := Lib.hid hK; clear hK
      refine wpOp_of rfl (by rfl) ?_
      have z0 := (h2 W hB.out).cell 0; have z1 := (h2 W hB.out).cell 1; have z2 := (h2 W hB.out).cell 2; have z3 := (h2 W hB.out).cell 3; have z4 := (h2 W hB.out).cell 4; have z5 := (h2 W hB.out).cell 5
      go_simp
      exact k_of (HK.out (.agg #[.int .i64 hi.pull, .int .i64 hi.flow, .int .i64 hi.rise, .int .i64 hi.spr, .int .i64 hi.dra, .int .i64 hi.cold]) _ rfl hB (Below.refl _ _)) (by kernel_rfl)
    · intro _ _ u W hB hv hd K hK
      have HK := Lib.hid hK; clear hK
      have e4 : u 4 = .agg #[.slice p.ka p.s.ks.length p.kc, .slice p.xa p.s.xs.length p.xc, .int .i64 p.s.flo, .int .i64 p.s.fhi, .int .i64 p.s.plo, .int .i64 p.s.phi] := hd 4 (by decide +kernel) (by decide) (by decide)
      have e5 : u 5 = .agg #[.int .i64 c.wax, .int .i64 c.dia, .int .i64 c.dra, .int .i64 c.clo, .int .i64 c.chi] := hd 5 (by decide +kernel) (by decide) (by decide)
      have e6 : u 6 = .agg #[.int .i64 hi.pull, .int .i64 hi.flow, .int .i64 hi.rise, .int .i64 hi.spr, .int .i64 hi.dra, .int .i64 hi.cold] := hd 6 (by decide +kernel) (by decide) (by decide)
      refine wpOp_of rfl (by rfl) ?_
      go_simp
      refine (H2.out W hB.out).mono ?_
      rintro e w' ⟨rfl, hb⟩
      exact k_of (HK.out (.agg #[.int .i64 b2.rate, .int .i64 b2.flame, .int .i64 b2.pool]) _ rfl (hon _ _ hB.out hb) hb) (by rw [← u1_eq e4, ← u1_eq e5, ← u1_eq e6]; kernel_rfl)
    · intro _ ha; exact absurd (by decide) ha
    · intro _ ha; exact absurd (by decide) ha
    · intro _ _ u W hB hv hd K hK
      have HK := Lib.hid hK; clear hK
      refine wpOp_of rfl (by rfl) ?_
      go_simp
      exact k_of (HK.out (.int .i64 0) _ rfl hB (Below.refl _ _)) (by kernel_rfl)
  case done =>
    intro L u W hL hB hd hV
    have hv0 := hV.ok ⟨none, R1, 8, 40, #[.int .i64 0, .int .i64 0, .int .i64 0], #[.int .i64 b1.rate, .int .i64 b1.flame, .int .i64 b1.pool]⟩ (by simp)
    have hB0 := hv0.2 (R1) ⟨rfl, hg0⟩
    rw [if_pos (hL 8 (by decide))] at hB0
    have hv1 := hV.ok ⟨none, R2, 9, 40, #[.int .i64 0, .int .i64 0, .int .i64 0], #[.int .i64 b2.rate, .int .i64 b2.flame, .int .i64 b2.pool]⟩ (by simp)
    have hB1 := hv1.2 (R2) ⟨rfl, hg1⟩
    rw [if_pos (hL 9 (by decide))] at hB1
    have e10 : u 10 = .int .i64 0 := hd 10 (by decide) (by decide) (by decide)
    exact k_of (HQ.out u W hB.out hB0 hB1) (by simp only [e10])


set_option maxRecDepth 100000 in
set_option maxHeartbeats 2000000 in
theorem rBurn_err {w : World} {p : Sp} {c : Cd} {q : Int} (h : ShIn w p) (he : askE p.s q c ≠ 0) :
    Calls Try.prog 20 #[.agg #[.slice p.ka p.s.ks.length p.kc, .slice p.xa p.s.xs.length p.xc, .int .i64 p.s.flo, .int .i64 p.s.fhi, .int .i64 p.s.plo, .int .i64 p.s.phi], .int .i64 q, .agg #[.int .i64 c.wax, .int .i64 c.dia, .int .i64 c.dra, .int .i64 c.clo, .int .i64 c.chi]] w fun e w' => e = .returned (.tuple #[.agg #[.int .i64 0, .int .i64 0, .int .i64 0], .agg #[.int .i64 0, .int .i64 0, .int .i64 0], .int .i64 (askE p.s q c)]) ∧ Below w.heap.size w w' := by
  have hb0 := ((((Bx.nil w).alloc #[.slice p.ka p.s.ks.length p.kc, .slice p.xa p.s.xs.length p.xc, .int .i64 p.s.flo, .int .i64 p.s.fhi, .int .i64 p.s.plo, .int .i64 p.s.phi] 27).alloc #[.int .i64 c.wax, .int .i64 c.dia, .int .i64 c.dra, .int .i64 c.clo, .int .i64 c.chi] 34).alloc #[.int .i64 0, .int .i64 0, .int .i64 0] 40).alloc #[.int .i64 0, .int .i64 0, .int .i64 0] 40
  simp only [World.size_alloc] at hb0
  have HB : Hid (Bx w _ _) := Lib.hid hb0
  have HA := Lib.hid (fun (W : World) (hb : Below w.heap.size w W) => rasked_any q c (h.on hb))
  have hz : (askE p.s q c != 0) = true := by simpa using he
  clear h hb0 he
  generalize askE p.s q c = z at *
  go_enter Try.func20, Try.ntmps20
  go_wp2_with (first | (go_at_call 52; (with_reducible refine (HA.out _ HB.out.b).mono ?_); rintro e w1 ⟨rfl, hb⟩; have HC := Lib.hid (HB.out.on hb); clear hb; have rb : Blk _ (w.heap.size + 1 + 1) 40 #[.int .i64 0, .int .i64 0, .int .i64 0] := HC.out.get (by simp); have r0 := rb.cell 0; have r1 := rb.cell 1; have r2 := rb.cell 2; have rl := rb.lt; have rf0 := rb.frozen 0; have rf1 := rb.frozen 1; have rf2 := rb.frozen 2; clear rb; have tb : Blk _ (w.heap.size + 1 + 1 + 1) 40 #[.int .i64 0, .int .i64 0, .int .i64 0] := HC.out.get (by simp); have t0 := tb.cell 0; have t1 := tb.cell 1; have t2 := tb.cell 2; have tl := tb.lt; have tf0 := tb.frozen 0; have tf1 := tb.frozen 1; have tf2 := tb.frozen 2; clear tb) | fail)
  refine bodyPost_ret (v := .tuple #[.agg #[.int .i64 0, .int .i64 0, .int .i64 0], .agg #[.int .i64 0, .int .i64 0, .int .i64 0], .int .i64 z]) ?_ rfl ⟨rfl, ?_⟩
  · simp [results, Try.results20, go_sem, *]
  · repeat (first | (with_reducible exact HC.out.b) | with_reducible refine Below.setCell ?_ (by simp; try omega) _)
set_option maxRecDepth 100000 in
set_option maxHeartbeats 2000000 in
theorem rBurn_ok {w : World} {p : Sp} {c : Cd} {q : Int} {k : Wk} {x : Wx} (h : ShIn w p) (ha : Ask p.s q c k x) (hs : askE p.s q c = 0) :
    Calls Try.prog 20 #[.agg #[.slice p.ka p.s.ks.length p.kc, .slice p.xa p.s.xs.length p.xc, .int .i64 p.s.flo, .int .i64 p.s.fhi, .int .i64 p.s.plo, .int .i64 p.s.phi], .int .i64 q, .agg #[.int .i64 c.wax, .int .i64 c.dia, .int .i64 c.dra, .int .i64 c.clo, .int .i64 c.chi]] w fun e w' => e = .returned (.tuple #[.agg #[.int .i64 (burn x (weakT k x c)).rate, .int .i64 (burn x (weakT k x c)).flame, .int .i64 (burn x (weakT k x c)).pool], .agg #[.int .i64 (burn x (strongT k x c)).rate, .int .i64 (burn x (strongT k x c)).flame, .int .i64 (burn x (strongT k x c)).pool], .int .i64 0]) ∧ Below w.heap.size w w' := by
  have hb0 := ((((Bx.nil w).alloc #[.slice p.ka p.s.ks.length p.kc, .slice p.xa p.s.xs.length p.xc, .int .i64 p.s.flo, .int .i64 p.s.fhi, .int .i64 p.s.plo, .int .i64 p.s.phi] 27).alloc #[.int .i64 c.wax, .int .i64 c.dia, .int .i64 c.dra, .int .i64 c.clo, .int .i64 c.chi] 34).alloc #[.int .i64 0, .int .i64 0, .int .i64 0] 40).alloc #[.int .i64 0, .int .i64 0, .int .i64 0] 40
  simp only [World.size_alloc] at hb0
  have HB : Hid (Bx w _ _) := Lib.hid hb0
  have HA := Lib.hid (fun (W : World) (hb : Below w.heap.size w W) => rasked_any q c (h.on hb))
  rw [hs] at HA
  have HT := Lib.hid (fun (W : World) (hb : Below w.heap.size w W) => rends_any (h.on hb) ha.h0 ha.hk ha.cd.wax.1 ha.hx ha.cd.dra)
  have HU1 := Lib.hid (fun (W : World) (hb : Below w.heap.size w W) => rburns_any (h.on hb) ha.sh.nk.1 ha.cd.wax.1 ha.hx ha.xo ((weak_ok ha.ko ha.xo ha.cd).in_ ha.ko ha.xo ha.cd))
  have HU2 := Lib.hid (fun (W : World) (hb : Below w.heap.size w W) => rburns_any (h.on hb) ha.sh.nk.1 ha.cd.wax.1 ha.hx ha.xo ((strong_ok ha.ko ha.xo ha.cd).in_ ha.ko ha.xo ha.cd))
  clear h hb0 ha hs
  generalize burn x (weakT k x c) = b1 at *
  generalize burn x (strongT k x c) = b2 at *
  generalize weakT k x c = lo at *
  generalize strongT k x c = hi at *
  go_enter Try.func20, Try.ntmps20
  go_wp2_with (first
    | (go_at_call 52; (with_reducible refine (HA.out _ HB.out.b).mono ?_); rintro e w1 ⟨rfl, hb⟩; have HC := Lib.hid (HB.out.on hb); clear hb; have sb : Blk _ (w.heap.size) 27 #[.slice p.ka p.s.ks.length p.kc, .slice p.xa p.s.xs.length p.xc, .int .i64 p.s.flo, .int .i64 p.s.fhi, .int .i64 p.s.plo, .int .i64 p.s.phi] := HC.out.get (by simp); have s0 := sb.cell 0; have s1 := sb.cell 1; have s2 := sb.cell 2; have s3 := sb.cell 3; have s4 := sb.cell 4; have s5 := sb.cell 5; have sl := sb.lt; clear sb; have cb : Blk _ (w.heap.size + 1) 34 #[.int .i64 c.wax, .int .i64 c.dia, .int .i64 c.dra, .int .i64 c.clo, .int .i64 c.chi] := HC.out.get (by simp); have c0 := cb.cell 0; have c1 := cb.cell 1; have c2 := cb.cell 2; have c3 := cb.cell 3; have c4 := cb.cell 4; have cl := cb.lt; clear cb)
    | (go_at_call 38; (with_reducible refine (HT.out _ HC.out.b).mono ?_); rintro e w2 ⟨rfl, hb⟩; have HD := Lib.hid (HC.out.on hb); clear hb s0 s1 s2 s3 s4 s5 sl c0 c1 c2 c3 c4 cl)
    | fail)
  have hd0 := (HD.out.alloc #[.int .i64 lo.pull, .int .i64 lo.flow, .int .i64 lo.rise, .int .i64 lo.spr, .int .i64 lo.dra, .int .i64 lo.cold] 36).alloc #[.int .i64 hi.pull, .int .i64 hi.flow, .int .i64 hi.rise, .int .i64 hi.spr, .int .i64 hi.dra, .int .i64 hi.cold] 36
  simp only [World.size_alloc] at hd0
  have HE := Lib.hid hd0
  have HN : Hid (w.heap.size + 4 ≤ w2.heap.size) := by have hz : Blk w2 (w.heap.size + 1 + 1 + 1) 40 #[.int .i64 0, .int .i64 0, .int .i64 0] := HD.out.get (by simp); have := hz.lt; exact Lib.hid (by omega)
  clear hd0
  refine wp_of_eq (rn5_region (S := fun W => (Blk W w.heap.size 27 #[.slice p.ka p.s.ks.length p.kc, .slice p.xa p.s.xs.length p.xc, .int .i64 p.s.flo, .int .i64 p.s.fhi, .int .i64 p.s.plo, .int .i64 p.s.phi] ∧ Blk W (w.heap.size + 1) 34 #[.int .i64 c.wax, .int .i64 c.dia, .int .i64 c.dra, .int .i64 c.clo, .int .i64 c.chi] ∧ Blk W w2.heap.size 36 #[.int .i64 lo.pull, .int .i64 lo.flow, .int .i64 lo.rise, .int .i64 lo.spr, .int .i64 lo.dra, .int .i64 lo.cold] ∧ Blk W (w2.heap.size + 1) 36 #[.int .i64 hi.pull, .int .i64 hi.flow, .int .i64 hi.rise, .int .i64 hi.spr, .int .i64 hi.dra, .int .i64 hi.cold]) ∧ SB w (w2.heap.size + 2) W) (N := w2.heap.size + 2) (P := w.heap.size) (C := w.heap.size + 1) (T1 := w2.heap.size) (T2 := w2.heap.size + 1) (R1 := w.heap.size + 1 + 1) (R2 := w.heap.size + 1 + 1 + 1) (p := p) (c := c) (lo := lo) (hi := hi) (b1 := b1) (b2 := b2) (fun W h => h.1.1) (fun W h => h.1.2.1) (fun W h => h.1.2.2.1) (fun W h => h.1.2.2.2) (Lib.hid fun W h => HU1.out W h.2.b) (Lib.hid fun W h => HU2.out W h.2.b)
    (fun _ _ h hb => ⟨⟨h.1.1.on hb, h.1.2.1.on hb, h.1.2.2.1.on hb, h.1.2.2.2.on hb⟩, h.2.on hb⟩) (fun W W' G h hg hG => by have := HN.out; exact ⟨⟨h.1.1.grown_ hg (by omega), h.1.2.1.grown_ hg (by omega), h.1.2.2.1.grown_ hg (by omega), h.1.2.2.2.grown_ hg (by omega)⟩, h.2.put hg (by omega)⟩) (fun W h => h.2.n) (Lib.hid ⟨⟨HE.out.get (by simp), HE.out.get (by simp), HE.out.get (by simp), HE.out.get (by simp)⟩, HE.out.b, by simp⟩) (HE.out.get (by simp)) (by have := HN.out; omega) (HE.out.get (by simp)) (by have := HN.out; omega) (by omega) (Lib.hid fun u W hS hA hB => ?_)) (by kernel_rfl)
  have hF := Lib.hid hS.2.b
  have x0 := hA.cell 0; have x1 := hA.cell 1; have x2 := hA.cell 2; have y0 := hB.cell 0; have y1 := hB.cell 1; have y2 := hB.cell 2
  clear hS hA hB
  go_wp2_with fail
  refine bodyPost_ret (v := .tuple #[.agg #[.int .i64 b1.rate, .int .i64 b1.flame, .int .i64 b1.pool], .agg #[.int .i64 b2.rate, .int .i64 b2.flame, .int .i64 b2.pool], .int .i64 0]) ?_ rfl ⟨rfl, hF.out⟩
  simp [results, Try.results20, go_sem, x0, x1, x2, y0, y1, y2]
end Go.Proofs.Ytkjfommdeljefaa
