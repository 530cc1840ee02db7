/- ref03.Burns: its region that draws, its contract. -/
import Derived.Test.YtkjfommdeljefaaT4
namespace Go.Proofs.Ytkjfommdeljefaa
open Go.RowKit Go.Shelf Go.Maps
attribute [local go_sem] Oper.semAt_some

/-- What each operation leaves. -/
def rb2F (P C T0 _b _o xb xo : Nat) (dd : Int) (p : Sp) (c : Cd) (x : Wx) (t : Tu) : Nat → Value → Prop
  | 0, v => v = .int .i64 dd
  | 1, v => v = .int .i64 (dd * 100)
  | 2, v => v = .int .i64 dd
  | 3, v => v = .pointer (some ⟨T0, 2, none⟩)
  | 4, v => v = .int .i64 t.rise
  | 5, v => v = .int .i64 (dd * t.rise)
  | 6, v => v = .int .i64 dd
  | 7, v => v = .pointer (some ⟨T0, 3, none⟩)
  | 8, v => v = .int .i64 t.spr
  | 9, v => v = .int .i64 (dd * t.spr)
  | 10, v => v = .pointer (some ⟨T0, 5, none⟩)
  | 11, v => v = .int .i64 t.cold
  | 12, v => v = .pointer (some ⟨P, 1, none⟩)
  | 13, v => v = .slice (some ⟨xb, xo, none⟩) p.s.xs.length p.xc
  | 14, v => v = .pointer (some ⟨C, 0, none⟩)
  | 15, v => v = .int .i64 c.wax
  | 16, v => v = .pointer (some ⟨xb, xo + c.wax.toNat * 8, none⟩)
  | 17, v => v = .pointer (some ⟨xb, xo + c.wax.toNat * 8 + 7, none⟩)
  | 18, v => v = .int .i64 x.ch
  | 19, v => v = .int .i64 (t.cold * x.ch)
  | 20, v => v = .int .i64 (t.cold * x.ch * 100000)
  | 21, v => v = .int .i64 (dd * t.spr - t.cold * x.ch * 100000)
  | 22, v => v = .agg #[.int .i64 (dd * 100), .int .i64 (dd * t.rise), .int .i64 (dd * t.spr - t.cold * x.ch * 100000)]
  | 23, _ => True
  | _, _ => True
set_option maxRecDepth 100000 in
set_option maxHeartbeats 8000000 in
theorem rb2_region {R0 N P C T0 b o xb xo : Nat} {dd : Int} {p : Sp} {c : Cd} {x : Wx} {t : Tu} {S : World → Prop} (hw0 : 0 ≤ c.wax) (hwl : c.wax < p.s.xs.length) (hw1 : IntKind.i64.wrap (dd * 100) = dd * 100) (hw2 : IntKind.i64.wrap (dd * t.rise) = dd * t.rise) (hw3 : IntKind.i64.wrap (dd * t.spr) = dd * t.spr) (hw4 : IntKind.i64.wrap (t.cold * x.ch) = t.cold * x.ch) (hw5 : IntKind.i64.wrap (t.cold * x.ch * 100000) = t.cold * x.ch * 100000) (hw6 : IntKind.i64.wrap (dd * t.spr - t.cold * x.ch * 100000) = dd * t.spr - t.cold * x.ch * 100000) (hP : ∀ W, S W → Blk W P 27 #[.slice (some ⟨b, o, none⟩) p.s.ks.length p.kc, .slice (some ⟨xb, xo, none⟩) p.s.xs.length p.xc, .int .i64 p.s.flo, .int .i64 p.s.fhi, .int .i64 p.s.plo, .int .i64 p.s.phi]) (hC : ∀ W, S W → Blk W C 34 #[.int .i64 c.wax, .int .i64 c.dia, .int .i64 c.dra, .int .i64 c.clo, .int .i64 c.chi]) (hT : ∀ W, S W → Blk W T0 36 #[.int .i64 t.pull, .int .i64 t.flow, .int .i64 t.rise, .int .i64 t.spr, .int .i64 t.dra, .int .i64 t.cold]) (hx : ∀ W, S W → W.cell? ⟨xb, xo + c.wax.toNat * 8 + 7, none⟩ = some (.int .i64 x.ch)) (hon : ∀ W W', S W → Below W.heap.size W W' → S W') (hput : ∀ W W' G, S W → W.grownBy W' (some G) → (N ≤ G ∨ G = R0) → S W') (hN : ∀ W, S W → N ≤ W.heap.size) {Q : Exit → Act → World → Prop} {s0 s1 s2 s8 s9 s10 s11 s12 s13 s14 s15 s16 : Value} {W0 : World} (HL : Hid (S W0)) (hk0 : Blk W0 (R0) 40 #[.int .i64 0, .int .i64 0, .int .i64 0]) (hg0 : R0 < N)
    (HQ : Hid (∀ (u : Nat → Value) (W : World), S W → Blk W (R0) 40 #[.int .i64 (dd * 100), .int .i64 (dd * t.rise), .int .i64 (dd * t.spr - t.cold * x.ch * 100000)] → Q .normal ⟨#[s0, s1, s2, .pointer (some ⟨P, 0, none⟩), .pointer (some ⟨C, 0, none⟩), .pointer (some ⟨T0, 0, none⟩), .pointer (some ⟨R0, 0, none⟩), .int .i64 dd, s8, s9, s10, s11, s12, s13, s14, s15, s16, u 0, u 1, u 2, u 3, u 4, u 5, u 6, u 7, u 8, u 9, u 10, u 11, u 12, u 13, u 14, u 15, u 16, u 17, u 18, u 19, u 20, u 21, u 22], []⟩ W)) :
    Code.wp Try.prog ((Try.f54.body.bind (regionAt 2)).getD .skip) Q ⟨#[s0, s1, s2, .pointer (some ⟨P, 0, none⟩), .pointer (some ⟨C, 0, none⟩), .pointer (some ⟨T0, 0, none⟩), .pointer (some ⟨R0, 0, none⟩), .int .i64 dd, s8, s9, s10, s11, s12, s13, s14, s15, s16, undef, undef, undef, undef, undef, undef, undef, undef, undef, undef, undef, undef, undef, undef, undef, undef, undef, undef, undef, undef, undef, undef, undef], []⟩ W0 := by
  conv => arg 2; whnf
  refine wp_region_vars (by kernel_rfl) 24 (by kernel_rfl) (fun u => ⟨#[s0, s1, s2, .pointer (some ⟨P, 0, none⟩), .pointer (some ⟨C, 0, none⟩), .pointer (some ⟨T0, 0, none⟩), .pointer (some ⟨R0, 0, none⟩), .int .i64 dd, s8, s9, s10, s11, s12, s13, s14, s15, s16, u 0, u 1, u 2, u 3, u 4, u 5, u 6, u 7, u 8, u 9, u 10, u 11, u 12, u 13, u 14, u 15, u 16, u 17, u 18, u 19, u 20, u 21, u 22], []⟩) (fun i => undef) (fun W => Hid (S W)) (rb2F P C T0 b o xb xo dd p c x t) (N) [⟨none, R0, 23, 40, #[.int .i64 0, .int .i64 0, .int .i64 0], #[.int .i64 (dd * 100), .int .i64 (dd * t.rise), .int .i64 (dd * t.spr - t.cold * x.ch * 100000)]⟩] [] [23] rfl rfl (by kernel_rfl) (hon _ _ HL.out (Below.refl _ _).drew) ?hV (fun W h => hN W h.out) ?hg (by decide +kernel) (fun W W' h hb => hon W W' h.out hb) ?hp ?hA ?hP (by decide) (by decide) (by decide) (by decide) (by decide) ?step ?done
  case hV =>
    refine ⟨fun q hq => ⟨fun a e hl => (by cases hl), fun G hG => ?_⟩, fun q hq r hr hne G h1 h2 => ?_⟩
    · simp only [List.mem_cons, List.not_mem_nil, or_false] at hq
      rcases hq with rfl
      · obtain ⟨rfl, -⟩ := hG; exact hk0.drew
    · simp only [List.mem_cons, List.not_mem_nil, or_false] at hq
      rcases hq with rfl
      · simp only [List.mem_cons, List.not_mem_nil, or_false] at hr
        rcases hr with rfl
        · exact absurd rfl hne
  case hg =>
    intro q hq ha
    simp only [List.mem_cons, List.not_mem_nil, or_false] at hq
    rcases hq with rfl
    · exact hg0
  case hp =>
    intro W W' G h hg hG
    refine hput W W' G h.out hg ?_
    rcases hG with h1 | ⟨q, hq, ha, h2⟩
    · exact .inl h1
    · simp only [List.mem_cons, List.not_mem_nil, or_false] at hq
      rcases hq with rfl
      · exact .inr h2
  case hA =>
    intro q hq i ha
    simp only [List.mem_cons, List.not_mem_nil, or_false] at hq
    rcases hq with rfl
    · cases ha
  case hP =>
    intro q hq u W hB hd G hG hb K hK
    have HK := Lib.hid hK; clear hK
    simp only [List.mem_cons, List.not_mem_nil, or_false] at hq
    rcases hq with rfl
    · have hGe : G = R0 := hG.1
      rw [hGe] at hb HK
      clear hG hGe
      replace hd : ∀ j ∈ waits .any _ 23, j ∉ [] → j ∉ [23] → rb2F P C T0 b o xb xo dd p c x t j (u j) := hd
      have e22 : u 22 = .agg #[.int .i64 (dd * 100), .int .i64 (dd * t.rise), .int .i64 (dd * t.spr - t.cold * x.ch * 100000)] := hd 22 (by decide +kernel) (by decide) (by decide)
      replace hb : Blk W R0 40 #[.int .i64 0, .int .i64 0, .int .i64 0] := hb
      have hb2 := (((hb).set_ 0 (.int .i64 (dd * 100))).set_ 1 (.int .i64 (dd * t.rise))).set_ 2 (.int .i64 (dd * t.spr - t.cold * x.ch * 100000))
      simp only [List.setIfInBounds_toArray, List.set_cons_zero, List.set_cons_succ] at hb2
      have hg2 : W.grownBy _ (some (R0)) := grown_more (grown_more (grown_more (World.grownBy.refl W (some R0)) 0 (.int .i64 (dd * 100))) 1 (.int .i64 (dd * t.rise))) 2 (.int .i64 (dd * t.spr - t.cold * x.ch * 100000))
      have fz0 := hb.frozen 0
      have cl0 := hb.cell 0
      have fz1 := hb.frozen 1
      have cl1 := hb.cell 1
      have fz2 := hb.frozen 2
      have cl2 := hb.cell 2
      have gl := hb.lt
      have HB2 := Lib.hid hb2
      have HG2 := Lib.hid hg2
      clear hb2 hg2
      refine wpOp_of rfl (by rfl) ?_
      go_simp
      exact k_of (HK.out _ HB2.out HG2.out) (by rw [← u1_eq e22] <;> kernel_rfl)
  case step =>
    iterate 24 (refine all_succ ?_ ?_)
    · exact all_zero
    · intro _ _ u W hB hv hd K hK
      have HK := Lib.hid hK; clear hK
      refine wpOp_of rfl (by rfl) ?_
      go_simp
      exact k_of (HK.out (.int .i64 dd) _ rfl hB (Below.refl _ _)) (by kernel_rfl)
    · intro _ _ u W hB hv hd K hK
      have HK := Lib.hid hK; clear hK
      have e0 : u 0 = .int .i64 dd := hd 0 (by decide +kernel) (by decide) (by decide)
      refine wpOp_of rfl (by rfl) ?_
      go_simp
      exact k_of (HK.out (.int .i64 (dd * 100)) _ rfl hB (Below.refl _ _)) (by rw [← u1_eq e0]; kernel_rfl)
    · intro _ _ u W hB hv hd K hK
      have HK := Lib.hid hK; clear hK
      refine wpOp_of rfl (by rfl) ?_
      go_simp
      exact k_of (HK.out (.int .i64 dd) _ rfl hB (Below.refl _ _)) (by kernel_rfl)
    · intro _ _ u W hB hv hd K hK
      have HK := Lib.hid hK; clear hK
      refine wpOp_of rfl (by rfl) ?_
      go_simp
      exact k_of (HK.out (.pointer (some ⟨T0, 2, none⟩)) _ rfl hB (Below.refl _ _)) (by kernel_rfl)
    · intro _ _ u W hB hv hd K hK
      have HK := Lib.hid hK; clear hK
      have e3 : u 3 = .pointer (some ⟨T0, 2, none⟩) := hd 3 (by decide +kernel) (by decide) (by decide)
      refine wpOp_of rfl (by rfl) ?_
      have z2 := (hT W hB.out).cell 2
      go_simp
      exact k_of (HK.out (.int .i64 t.rise) _ rfl hB (Below.refl _ _)) (by rw [← u1_eq e3]; kernel_rfl)
    · intro _ _ u W hB hv hd K hK
      have HK := Lib.hid hK; clear hK
      have e2 : u 2 = .int .i64 dd := hd 2 (by decide +kernel) (by decide) (by decide)
      have e4 : u 4 = .int .i64 t.rise := hd 4 (by decide +kernel) (by decide) (by decide)
      refine wpOp_of rfl (by rfl) ?_
      go_simp
      exact k_of (HK.out (.int .i64 (dd * t.rise)) _ rfl hB (Below.refl _ _)) (by rw [← u1_eq e2, ← u1_eq e4]; kernel_rfl)
    · intro _ _ u W hB hv hd K hK
      have HK := Lib.hid hK; clear hK
      refine wpOp_of rfl (by rfl) ?_
      go_simp
      exact k_of (HK.out (.int .i64 dd) _ rfl hB (Below.refl _ _)) (by kernel_rfl)
    · intro _ _ u W hB hv hd K hK
      have HK := Lib.hid hK; clear hK
      refine wpOp_of rfl (by rfl) ?_
      go_simp
      exact k_of (HK.out (.pointer (some ⟨T0, 3, none⟩)) _ rfl hB (Below.refl _ _)) (by kernel_rfl)
    · intro _ _ u W hB hv hd K hK
      have HK := Lib.hid hK; clear hK
      have e7 : u 7 = .pointer (some ⟨T0, 3, none⟩) := hd 7 (by decide +kernel) (by decide) (by decide)
      refine wpOp_of rfl (by rfl) ?_
      have z3 := (hT W hB.out).cell 3
      go_simp
      exact k_of (HK.out (.int .i64 t.spr) _ rfl hB (Below.refl _ _)) (by rw [← u1_eq e7]; kernel_rfl)
    · intro _ _ u W hB hv hd K hK
      have HK := Lib.hid hK; clear hK
      have e6 : u 6 = .int .i64 dd := hd 6 (by decide +kernel) (by decide) (by decide)
      have e8 : u 8 = .int .i64 t.spr := hd 8 (by decide +kernel) (by decide) (by decide)
      refine wpOp_of rfl (by rfl) ?_
      go_simp
      exact k_of (HK.out (.int .i64 (dd * t.spr)) _ rfl hB (Below.refl _ _)) (by rw [← u1_eq e6, ← u1_eq e8]; kernel_rfl)
    · intro _ _ u W hB hv hd K hK
      have HK := Lib.hid hK; clear hK
      refine wpOp_of rfl (by rfl) ?_
      go_simp
      exact k_of (HK.out (.pointer (some ⟨T0, 5, none⟩)) _ rfl hB (Below.refl _ _)) (by kernel_rfl)
    · intro _ _ u W hB hv hd K hK
      have HK := Lib.hid hK; clear hK
      have e10 : u 10 = .pointer (some ⟨T0, 5, none⟩) := hd 10 (by decide +kernel) (by decide) (by decide)
      refine wpOp_of rfl (by rfl) ?_
      have z5 := (hT W hB.out).cell 5
      go_simp
      exact k_of (HK.out (.int .i64 t.cold) _ rfl hB (Below.refl _ _)) (by rw [← u1_eq e10]; kernel_rfl)
    · intro _ _ u W hB hv hd K hK
      have HK := Lib.hid hK; clear hK
      refine wpOp_of rfl (by rfl) ?_
      go_simp
      exact k_of (HK.out (.pointer (some ⟨P, 1, none⟩)) _ rfl hB (Below.refl _ _)) (by kernel_rfl)
    · intro _ _ u W hB hv hd K hK
      have HK := Lib.hid hK; clear hK
      have e12 : u 12 = .pointer (some ⟨P, 1, none⟩) := hd 12 (by decide +kernel) (by decide) (by decide)
      refine wpOp_of rfl (by rfl) ?_
      have z1 := (hP W hB.out).cell 1
      go_simp
      exact k_of (HK.out (.slice (some ⟨xb, xo, none⟩) p.s.xs.length p.xc) _ rfl hB (Below.refl _ _)) (by rw [← u1_eq e12]; kernel_rfl)
    · intro _ _ u W hB hv hd K hK
      have HK := Lib.hid hK; clear hK
      refine wpOp_of rfl (by rfl) ?_
      go_simp
      exact k_of (HK.out (.pointer (some ⟨C, 0, none⟩)) _ rfl hB (Below.refl _ _)) (by kernel_rfl)
    · intro _ _ u W hB hv hd K hK
      have HK := Lib.hid hK; clear hK
      have e14 : u 14 = .pointer (some ⟨C, 0, none⟩) := hd 14 (by decide +kernel) (by decide) (by decide)
      refine wpOp_of rfl (by rfl) ?_
      have z0 := (hC W hB.out).cell 0
      go_simp
      exact k_of (HK.out (.int .i64 c.wax) _ rfl hB (Below.refl _ _)) (by rw [← u1_eq e14]; kernel_rfl)
    · intro _ _ u W hB hv hd K hK
      have HK := Lib.hid hK; clear hK
      have e13 : u 13 = .slice (some ⟨xb, xo, none⟩) p.s.xs.length p.xc := hd 13 (by decide +kernel) (by decide) (by decide)
      have e15 : u 15 = .int .i64 c.wax := hd 15 (by decide +kernel) (by decide) (by decide)
      refine wpOp_of rfl (by rfl) ?_
      go_simp
      exact k_of (HK.out (.pointer (some ⟨xb, xo + c.wax.toNat * 8, none⟩)) _ rfl hB (Below.refl _ _)) (by rw [← u1_eq e13, ← u1_eq e15]; kernel_rfl)
    · intro _ _ u W hB hv hd K hK
      have HK := Lib.hid hK; clear hK
      have e16 : u 16 = .pointer (some ⟨xb, xo + c.wax.toNat * 8, none⟩) := hd 16 (by decide +kernel) (by decide) (by decide)
      refine wpOp_of rfl (by rfl) ?_
      go_simp
      exact k_of (HK.out (.pointer (some ⟨xb, xo + c.wax.toNat * 8 + 7, none⟩)) _ rfl hB (Below.refl _ _)) (by rw [← u1_eq e16]; kernel_rfl)
    · intro _ _ u W hB hv hd K hK
      have HK := Lib.hid hK; clear hK
      have e17 : u 17 = .pointer (some ⟨xb, xo + c.wax.toNat * 8 + 7, none⟩) := hd 17 (by decide +kernel) (by decide) (by decide)
      refine wpOp_of rfl (by rfl) ?_
      have z0 := hx W hB.out
      go_simp
      exact k_of (HK.out (.int .i64 x.ch) _ rfl hB (Below.refl _ _)) (by rw [← u1_eq e17]; kernel_rfl)
    · intro _ _ u W hB hv hd K hK
      have HK := Lib.hid hK; clear hK
      have e11 : u 11 = .int .i64 t.cold := hd 11 (by decide +kernel) (by decide) (by decide)
      have e18 : u 18 = .int .i64 x.ch := hd 18 (by decide +kernel) (by decide) (by decide)
      refine wpOp_of rfl (by rfl) ?_
      go_simp
      exact k_of (HK.out (.int .i64 (t.cold * x.ch)) _ rfl hB (Below.refl _ _)) (by rw [← u1_eq e11, ← u1_eq e18]; kernel_rfl)
    · intro _ _ u W hB hv hd K hK
      have HK := Lib.hid hK; clear hK
      have e19 : u 19 = .int .i64 (t.cold * x.ch) := hd 19 (by decide +kernel) (by decide) (by decide)
      refine wpOp_of rfl (by rfl) ?_
      go_simp
      exact k_of (HK.out (.int .i64 (t.cold * x.ch * 100000)) _ rfl hB (Below.refl _ _)) (by rw [← u1_eq e19]; kernel_rfl)
    · intro _ _ u W hB hv hd K hK
      have HK := Lib.hid hK; clear hK
      have e9 : u 9 = .int .i64 (dd * t.spr) := hd 9 (by decide +kernel) (by decide) (by decide)
      have e20 : u 20 = .int .i64 (t.cold * x.ch * 100000) := hd 20 (by decide +kernel) (by decide) (by decide)
      refine wpOp_of rfl (by rfl) ?_
      go_simp
      exact k_of (HK.out (.int .i64 (dd * t.spr - t.cold * x.ch * 100000)) _ rfl hB (Below.refl _ _)) (by rw [← u1_eq e9, ← u1_eq e20]; kernel_rfl)
    · intro _ _ u W hB hv hd K hK
      have HK := Lib.hid hK; clear hK
      have e1 : u 1 = .int .i64 (dd * 100) := hd 1 (by decide +kernel) (by decide) (by decide)
      have e5 : u 5 = .int .i64 (dd * t.rise) := hd 5 (by decide +kernel) (by decide) (by decide)
      have e21 : u 21 = .int .i64 (dd * t.spr - t.cold * x.ch * 100000) := hd 21 (by decide +kernel) (by decide) (by decide)
      refine wpOp_of rfl (by rfl) ?_
      go_simp
      exact k_of (HK.out (.agg #[.int .i64 (dd * 100), .int .i64 (dd * t.rise), .int .i64 (dd * t.spr - t.cold * x.ch * 100000)]) _ rfl hB (Below.refl _ _)) (by rw [← u1_eq e1, ← u1_eq e5, ← u1_eq e21]; kernel_rfl)
    · intro _ ha; exact absurd (by decide) ha
  case done =>
    intro L u W hL hB hd hV
    have hv0 := hV.ok ⟨none, R0, 23, 40, #[.int .i64 0, .int .i64 0, .int .i64 0], #[.int .i64 (dd * 100), .int .i64 (dd * t.rise), .int .i64 (dd * t.spr - t.cold * x.ch * 100000)]⟩ (by simp)
    have hB0 := hv0.2 (R0) ⟨rfl, hg0⟩
    rw [if_pos (hL 23 (by decide))] at hB0
    exact k_of (HQ.out u W hB.out hB0) (rfl)


set_option maxRecDepth 100000 in
set_option maxHeartbeats 4000000 in
theorem rburns_any {w : World} {p : Sp} {c : Cd} {x : Wx} {t : Tu} (h : ShIn w p) (hk0 : 1 ≤ p.s.ks.length) (hc0 : 0 ≤ c.wax) (hx : p.s.xs[c.wax.toNat]? = some x) (xo : WxOk x) (ht : TuIn t) :
    Calls Try.prog 54 #[.agg #[.slice p.ka p.s.ks.length p.kc, .slice p.xa p.s.xs.length p.xc, .int .i64 p.s.flo, .int .i64 p.s.fhi, .int .i64 p.s.plo, .int .i64 p.s.phi], .agg #[.int .i64 c.wax, .int .i64 c.dia, .int .i64 c.dra, .int .i64 c.clo, .int .i64 c.chi], .agg #[.int .i64 t.pull, .int .i64 t.flow, .int .i64 t.rise, .int .i64 t.spr, .int .i64 t.dra, .int .i64 t.cold]] w fun e w' => e = .returned (.agg #[.int .i64 (burn x t).rate, .int .i64 (burn x t).flame, .int .i64 (burn x t).pool]) ∧ Below w.heap.size w w' := by
  obtain ⟨b, o, hka, -, -⟩ := wks_at h.ks.at_ (List.getElem?_eq_getElem (i := 0) (by omega))
  obtain ⟨vb, vo, hxa, hxb, e0, e1, e2, e3, e4, e5, e6, e7⟩ := wxs_at h.xs.at_ hx
  have HKA := Lib.hid hka
  have HXA := Lib.hid hxa
  have HX := Lib.hid (And.intro hxb e7)
  have HW := Lib.hid (And.intro hc0 (show c.wax < p.s.xs.length by have := (List.getElem?_eq_some_iff.1 hx).1; omega))
  have di := drawn_in ht
  have bi := burn_in ht xo
  have r := ht.rise; have s := ht.spr; have cc := ht.cold; have ch := xo.ch; have hdr := ht.dra
  have f5 : 0 ≤ t.cold * x.ch := Int.mul_nonneg cc.1 ch.1
  have f6 : t.cold * x.ch ≤ 300 * 50 := Int.mul_le_mul cc.2 ch.2 ch.1 (by omega)
  have f3 : 0 ≤ drawn t * t.spr := Int.mul_nonneg (by omega) (by omega)
  have f4 : drawn t * t.spr ≤ 57000000 * 2000 := Int.mul_le_mul di.2.1 s.2 (by omega) (by omega)
  have i1 := bi.rate; have i2 := bi.flame; have i3 := bi.pool
  simp only [burn] at i1 i2 i3
  have q1 : IntKind.i64.wrap (t.pull * t.flow) = t.pull * t.flow := IntWalk.i64_in _ (by omega)
  have q2 : IntKind.i64.wrap (100 + t.dra) = 100 + t.dra := IntWalk.i64_in _ (by omega)
  have q3 : IntKind.i64.wrap (t.pull * t.flow * (100 + t.dra)) = drawn t := IntWalk.i64_in _ (by show -9223372036854775808 ≤ drawn t ∧ drawn t ≤ 9223372036854775807; omega)
  have HQ : Hid (IntKind.i64.wrap (drawn t * 100) = drawn t * 100 ∧ IntKind.i64.wrap (drawn t * t.rise) = drawn t * t.rise ∧ IntKind.i64.wrap (drawn t * t.spr) = drawn t * t.spr ∧ IntKind.i64.wrap (t.cold * x.ch) = t.cold * x.ch ∧ IntKind.i64.wrap (t.cold * x.ch * 100000) = t.cold * x.ch * 100000 ∧ IntKind.i64.wrap (drawn t * t.spr - t.cold * x.ch * 100000) = drawn t * t.spr - t.cold * x.ch * 100000) :=
    ⟨IntWalk.i64_in _ (by omega), IntWalk.i64_in _ (by omega), IntWalk.i64_in _ (by omega), IntWalk.i64_in _ (by omega), IntWalk.i64_in _ (by omega), IntWalk.i64_in _ (by omega)⟩
  have HR : Hid (burn x t = ⟨drawn t * 100, drawn t * t.rise, drawn t * t.spr - t.cold * x.ch * 100000⟩) := Lib.hid rfl
  have hb0 := (((Bx.nil w).alloc #[.slice p.ka p.s.ks.length p.kc, .slice p.xa p.s.xs.length p.xc, .int .i64 p.s.flo, .int .i64 p.s.fhi, .int .i64 p.s.plo, .int .i64 p.s.phi] 27).alloc #[.int .i64 c.wax, .int .i64 c.dia, .int .i64 c.dra, .int .i64 c.clo, .int .i64 c.chi] 34).alloc #[.int .i64 t.pull, .int .i64 t.flow, .int .i64 t.rise, .int .i64 t.spr, .int .i64 t.dra, .int .i64 t.cold] 36 |>.alloc #[.int .i64 0, .int .i64 0, .int .i64 0] 40
  simp only [World.size_alloc] at hb0
  have HB := Lib.hid hb0
  clear h hk0 hka hx hxa hxb e0 e1 e2 e3 e4 e5 e6 e7 hc0 di bi r s cc ch hdr f3 f4 f5 f6 i1 i2 i3 hb0 ht xo
  rw [HR.out]
  generalize drawn t = dd at *
  go_enter Try.func54, Try.ntmps54
  go_wp2_with fail
  refine wp_of_eq (rb2_region (S := fun W => Bx w [(w.heap.size + 1 + 1, 36, #[.int .i64 t.pull, .int .i64 t.flow, .int .i64 t.rise, .int .i64 t.spr, .int .i64 t.dra, .int .i64 t.cold]), (w.heap.size + 1, 34, #[.int .i64 c.wax, .int .i64 c.dia, .int .i64 c.dra, .int .i64 c.clo, .int .i64 c.chi]), (w.heap.size, 27, #[.slice p.ka p.s.ks.length p.kc, .slice p.xa p.s.xs.length p.xc, .int .i64 p.s.flo, .int .i64 p.s.fhi, .int .i64 p.s.plo, .int .i64 p.s.phi])] W ∧ SB w (w.heap.size + 4) W) (N := w.heap.size + 4) (P := w.heap.size) (C := w.heap.size + 1) (T0 := w.heap.size + 1 + 1) (R0 := w.heap.size + 1 + 1 + 1) (b := b) (o := o) (xb := vb) (xo := vo) (dd := dd) (p := p) (c := c) (x := x) (t := t) HW.out.1 HW.out.2 HQ.out.1 HQ.out.2.1 HQ.out.2.2.1 HQ.out.2.2.2.1 HQ.out.2.2.2.2.1 HQ.out.2.2.2.2.2 (fun W h => by have hq : Blk W w.heap.size 27 #[.slice p.ka p.s.ks.length p.kc, .slice p.xa p.s.xs.length p.xc, .int .i64 p.s.flo, .int .i64 p.s.fhi, .int .i64 p.s.plo, .int .i64 p.s.phi] := h.1.get (by simp); rwa [HKA.out, HXA.out] at hq) (fun W h => h.1.get (by simp)) (fun W h => h.1.get (by simp)) (fun W h => (h.1.b.cell (p := ⟨vb, _, none⟩) HX.out.1).trans HX.out.2)
    (fun _ _ h hb => ⟨h.1.on hb, h.2.on hb⟩) (fun W1 W2 G h hg hG => ⟨h.1.put hg (by omega) (fun q hq => by simp only [List.mem_cons, List.not_mem_nil, or_false] at hq; rcases hq with rfl | rfl | rfl <;> (simp only; omega)), h.2.put hg (by omega)⟩) (fun W h => h.2.n) (Lib.hid ⟨⟨HB.out.b, fun q hq => HB.out.at_ q (List.mem_cons_of_mem _ hq)⟩, HB.out.b, by simp⟩) (HB.out.get (by simp)) (by omega) (Lib.hid fun u W hS hR => ?_)) (by kernel_rfl)
  have hF := Lib.hid hS.2.b
  have a0 := hR.cell 0; have a1 := hR.cell 1; have a2 := hR.cell 2
  clear hS hR
  go_wp2_with fail
  refine bodyPost_ret (v := .agg #[.int .i64 (dd * 100), .int .i64 (dd * t.rise), .int .i64 (dd * t.spr - t.cold * x.ch * 100000)]) ?_ rfl ⟨rfl, hF.out⟩
  simp [results, Try.results54, go_sem, a0, a1, a2]
end Go.Proofs.Ytkjfommdeljefaa
