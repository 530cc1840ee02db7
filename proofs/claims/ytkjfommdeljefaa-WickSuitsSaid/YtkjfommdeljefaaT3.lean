/- The law's Truth: its region that draws, and its contract. -/
import Derived.Test.YtkjfommdeljefaaS0
import Derived.Test.YtkjfommdeljefaaGe
import Derived.Test.YtkjfommdeljefaaQR
import Derived.Test.YtkjfommdeljefaaQy
namespace Go.Proofs.Ytkjfommdeljefaa
open Go.RowKit Go.Shelf Go.Maps
attribute [local go_sem] Oper.semAt_some

/-- What each operation leaves. -/
def tr2F (P C X Gw b o : Nat) (qk : Int) (p : Sp) (c : Cd) (k : Wk) (x : Wx) (y0 y1 y2 y3 y4 y5 : Int) : Nat → Value → Prop
  | 0, v => v = .pointer (some ⟨P, 0, none⟩)
  | 1, v => v = .slice (some ⟨b, o, none⟩) p.s.ks.length p.kc
  | 2, v => v = .int .i64 qk
  | 3, v => v = .pointer (some ⟨b, o + qk.toNat * 4, none⟩)
  | 4, v => v = .pointer (some ⟨b, o + qk.toNat * 4 + 2, none⟩)
  | 5, v => v = .agg #[.int .i64 k.plo, .int .i64 k.phi]
  | 6, v => v = .pointer (some ⟨X, 0, none⟩)
  | 7, v => v = .int .u16 y0
  | 8, v => v = .int .i64 y0
  | 9, v => v = .int .i64 (amV k.plo k.phi y0)
  | 10, v => v = .pointer (some ⟨Gw, 1, none⟩)
  | 11, v => v = .agg #[.int .i64 x.flo, .int .i64 x.fhi]
  | 12, v => v = .pointer (some ⟨X, 1, none⟩)
  | 13, v => v = .int .u16 y1
  | 14, v => v = .int .i64 y1
  | 15, v => v = .int .i64 (amV x.flo x.fhi y1)
  | 16, v => v = .pointer (some ⟨Gw, 3, none⟩)
  | 17, v => v = .agg #[.int .i64 x.rlo, .int .i64 x.rhi]
  | 18, v => v = .pointer (some ⟨X, 2, none⟩)
  | 19, v => v = .int .u16 y2
  | 20, v => v = .int .i64 y2
  | 21, v => v = .int .i64 (amV x.rlo x.rhi y2)
  | 22, v => v = .pointer (some ⟨Gw, 5, none⟩)
  | 23, v => v = .agg #[.int .i64 x.slo, .int .i64 x.shi]
  | 24, v => v = .pointer (some ⟨X, 3, none⟩)
  | 25, v => v = .int .u16 y3
  | 26, v => v = .int .i64 y3
  | 27, v => v = .int .i64 (amV x.slo x.shi y3)
  | 28, v => v = .pointer (some ⟨C, 2, none⟩)
  | 29, v => v = .int .i64 c.dra
  | 30, v => v = .int .i64 (-c.dra)
  | 31, v => v = .pointer (some ⟨C, 2, none⟩)
  | 32, v => v = .int .i64 c.dra
  | 33, v => v = .agg #[.int .i64 (-c.dra), .int .i64 c.dra]
  | 34, v => v = .pointer (some ⟨X, 4, none⟩)
  | 35, v => v = .int .u16 y4
  | 36, v => v = .int .i64 y4
  | 37, v => v = .int .i64 (amV (-c.dra) c.dra y4)
  | 38, v => v = .pointer (some ⟨C, 3, none⟩)
  | 39, v => v = .agg #[.int .i64 c.clo, .int .i64 c.chi]
  | 40, v => v = .pointer (some ⟨X, 5, none⟩)
  | 41, v => v = .int .u16 y5
  | 42, v => v = .int .i64 y5
  | 43, v => v = .int .i64 (amV c.clo c.chi y5)
  | 44, v => v = .agg #[.int .i64 (amV k.plo k.phi y0), .int .i64 (amV x.flo x.fhi y1), .int .i64 (amV x.rlo x.rhi y2), .int .i64 (amV x.slo x.shi y3), .int .i64 (amV (-c.dra) c.dra y4), .int .i64 (amV c.clo c.chi y5)]
  | 45, _ => True
  | _, _ => True
set_option maxRecDepth 100000 in
set_option maxHeartbeats 8000000 in
theorem tr2_region {P C X Gw R0 b o N : Nat} {qk : Int} {p : Sp} {c : Cd} {k : Wk} {x : Wx} {y0 y1 y2 y3 y4 y5 : Int} {S : World → Prop} (h0 : 0 ≤ qk) (hq : qk < p.s.ks.length) (ko : WkOk k) (xo : WxOk x) (hdr : 0 ≤ c.dra ∧ c.dra ≤ 90) (hcl : 0 ≤ c.clo ∧ c.clo ≤ c.chi ∧ c.chi ≤ 300) (hy : (0 ≤ y0 ∧ y0 ≤ 65535) ∧ (0 ≤ y1 ∧ y1 ≤ 65535) ∧ (0 ≤ y2 ∧ y2 ≤ 65535) ∧ (0 ≤ y3 ∧ y3 ≤ 65535) ∧ (0 ≤ y4 ∧ y4 ≤ 65535) ∧ (0 ≤ y5 ∧ y5 ≤ 65535)) (hwr : IntKind.i64.wrap (-c.dra) = -c.dra) (hw0 : IntKind.i64.wrap y0 = y0) (hw1 : IntKind.i64.wrap y1 = y1) (hw2 : IntKind.i64.wrap y2 = y2) (hw3 : IntKind.i64.wrap y3 = y3) (hw4 : IntKind.i64.wrap y4 = y4) (hw5 : IntKind.i64.wrap y5 = y5) (hP : ∀ W, S W → Blk W P 27 #[.slice (some ⟨b, o, none⟩) p.s.ks.length p.kc, .slice p.xa p.s.xs.length p.xc, .int .i64 p.s.flo, .int .i64 p.s.fhi, .int .i64 p.s.plo, .int .i64 p.s.phi]) (hk : ∀ W, S W → W.cell? ⟨b, o + qk.toNat * 4 + 2, none⟩ = some (.int .i64 k.plo) ∧ W.cell? ⟨b, o + qk.toNat * 4 + 3, none⟩ = some (.int .i64 k.phi)) (hC : ∀ W, S W → Blk W C 34 #[.int .i64 c.wax, .int .i64 c.dia, .int .i64 c.dra, .int .i64 c.clo, .int .i64 c.chi]) (hX : ∀ W, S W → Blk W X 62 #[.int .u16 y0, .int .u16 y1, .int .u16 y2, .int .u16 y3, .int .u16 y4, .int .u16 y5]) (hG : ∀ W, S W → Blk W Gw 80 #[.string x.nm, .int .i64 x.flo, .int .i64 x.fhi, .int .i64 x.rlo, .int .i64 x.rhi, .int .i64 x.slo, .int .i64 x.shi, .int .i64 x.ch]) (hon : ∀ W W', S W → Below W.heap.size W W' → S W') (hput : ∀ W W' G, S W → W.grownBy W' (some G) → (N ≤ G ∨ G = R0) → S W') (hN : ∀ W, S W → N ≤ W.heap.size) {Q : Exit → Act → World → Prop} {s0 s2 s3 s5 s10 s11 s12 s13 s14 s15 : Value} {W0 : World} (HL : Hid (S W0)) (hk0 : Blk W0 (R0) 36 #[.int .i64 0, .int .i64 0, .int .i64 0, .int .i64 0, .int .i64 0, .int .i64 0]) (hg0 : R0 < N)
    (HQ : Hid (∀ (u : Nat → Value) (W : World), S W → Blk W (R0) 36 #[.int .i64 (amV k.plo k.phi y0), .int .i64 (amV x.flo x.fhi y1), .int .i64 (amV x.rlo x.rhi y2), .int .i64 (amV x.slo x.shi y3), .int .i64 (amV (-c.dra) c.dra y4), .int .i64 (amV c.clo c.chi y5)] → Q .normal ⟨#[s0, .int .i64 qk, s2, s3, .pointer (some ⟨P, 0, none⟩), s5, .pointer (some ⟨C, 0, none⟩), .pointer (some ⟨X, 0, none⟩), .pointer (some ⟨R0, 0, none⟩), .pointer (some ⟨Gw, 0, none⟩), s10, s11, s12, s13, s14, s15, u 0, u 1, u 2, u 3, u 4, u 5, u 6, u 7, u 8, u 9, u 10, u 11, u 12, u 13, u 14, u 15, u 16, u 17, u 18, u 19, u 20, u 21, u 22, u 23, u 24, u 25, u 26, u 27, u 28, u 29, u 30, u 31, u 32, u 33, u 34, u 35, u 36, u 37, u 38, u 39, u 40, u 41, u 42, u 43, u 44], []⟩ W)) :
    Code.wp Try.prog ((Try.f37.body.bind (regionAt 2)).getD .skip) Q ⟨#[s0, .int .i64 qk, s2, s3, .pointer (some ⟨P, 0, none⟩), s5, .pointer (some ⟨C, 0, none⟩), .pointer (some ⟨X, 0, none⟩), .pointer (some ⟨R0, 0, none⟩), .pointer (some ⟨Gw, 0, none⟩), s10, s11, s12, s13, s14, s15, undef, undef, undef, undef, undef, undef, undef, undef, undef, undef, undef, undef, undef, undef, undef, undef, undef, undef, undef, undef, undef, undef, undef, undef, undef, undef, undef, undef, undef, undef, undef, undef, undef, undef, undef, undef, undef, undef, undef, undef, undef, undef, undef, undef, undef], []⟩ W0 := by
  conv => arg 2; whnf
  refine wp_region_vars (by kernel_rfl) 46 (by kernel_rfl) (fun u => ⟨#[s0, .int .i64 qk, s2, s3, .pointer (some ⟨P, 0, none⟩), s5, .pointer (some ⟨C, 0, none⟩), .pointer (some ⟨X, 0, none⟩), .pointer (some ⟨R0, 0, none⟩), .pointer (some ⟨Gw, 0, none⟩), s10, s11, s12, s13, s14, s15, u 0, u 1, u 2, u 3, u 4, u 5, u 6, u 7, u 8, u 9, u 10, u 11, u 12, u 13, u 14, u 15, u 16, u 17, u 18, u 19, u 20, u 21, u 22, u 23, u 24, u 25, u 26, u 27, u 28, u 29, u 30, u 31, u 32, u 33, u 34, u 35, u 36, u 37, u 38, u 39, u 40, u 41, u 42, u 43, u 44], []⟩) (fun i => undef) (fun W => Hid (S W)) (tr2F P C X Gw b o qk p c k x y0 y1 y2 y3 y4 y5) (N) [⟨none, R0, 45, 36, #[.int .i64 0, .int .i64 0, .int .i64 0, .int .i64 0, .int .i64 0, .int .i64 0], #[.int .i64 (amV k.plo k.phi y0), .int .i64 (amV x.flo x.fhi y1), .int .i64 (amV x.rlo x.rhi y2), .int .i64 (amV x.slo x.shi y3), .int .i64 (amV (-c.dra) c.dra y4), .int .i64 (amV c.clo c.chi y5)]⟩] [] [45] rfl rfl (by kernel_rfl) (hon _ _ HL.out (Below.refl _ _).drew) ?hV (fun W h => hN W h.out) ?hg (by decide +kernel) (fun W W' h hb => hon W W' h.out hb) ?hp ?hA ?hP (by decide) (by decide) (by decide) (by decide) (by decide) ?step ?done
  case hV =>
    refine ⟨fun q hq => ⟨fun a e hl => (by cases hl), fun G hG => ?_⟩, fun q hq r hr hne G h1 h2 => ?_⟩
    · simp only [List.mem_cons, List.not_mem_nil, or_false] at hq
      rcases hq with rfl
      · obtain ⟨rfl, -⟩ := hG; exact hk0.drew
    · simp only [List.mem_cons, List.not_mem_nil, or_false] at hq
      rcases hq with rfl
      · simp only [List.mem_cons, List.not_mem_nil, or_false] at hr
        rcases hr with rfl
        · exact absurd rfl hne
  case hg =>
    intro q hq ha
    simp only [List.mem_cons, List.not_mem_nil, or_false] at hq
    rcases hq with rfl
    · exact hg0
  case hp =>
    intro W W' G h hg hG
    refine hput W W' G h.out hg ?_
    rcases hG with h1 | ⟨q, hq, ha, h2⟩
    · exact .inl h1
    · simp only [List.mem_cons, List.not_mem_nil, or_false] at hq
      rcases hq with rfl
      · exact .inr h2
  case hA =>
    intro q hq i ha
    simp only [List.mem_cons, List.not_mem_nil, or_false] at hq
    rcases hq with rfl
    · cases ha
  case hP =>
    intro q hq u W hB hd G hG hb K hK
    have HK := Lib.hid hK; clear hK
    simp only [List.mem_cons, List.not_mem_nil, or_false] at hq
    rcases hq with rfl
    · have hGe : G = R0 := hG.1
      rw [hGe] at hb HK
      clear hG hGe
      replace hd : ∀ j ∈ waits .any _ 45, j ∉ [] → j ∉ [45] → tr2F P C X Gw b o qk p c k x y0 y1 y2 y3 y4 y5 j (u j) := hd
      have e44 : u 44 = .agg #[.int .i64 (amV k.plo k.phi y0), .int .i64 (amV x.flo x.fhi y1), .int .i64 (amV x.rlo x.rhi y2), .int .i64 (amV x.slo x.shi y3), .int .i64 (amV (-c.dra) c.dra y4), .int .i64 (amV c.clo c.chi y5)] := hd 44 (by decide +kernel) (by decide) (by decide)
      replace hb : Blk W R0 36 #[.int .i64 0, .int .i64 0, .int .i64 0, .int .i64 0, .int .i64 0, .int .i64 0] := hb
      have hb2 := ((((((hb).set_ 0 (.int .i64 (amV k.plo k.phi y0))).set_ 1 (.int .i64 (amV x.flo x.fhi y1))).set_ 2 (.int .i64 (amV x.rlo x.rhi y2))).set_ 3 (.int .i64 (amV x.slo x.shi y3))).set_ 4 (.int .i64 (amV (-c.dra) c.dra y4))).set_ 5 (.int .i64 (amV c.clo c.chi y5))
      simp only [List.setIfInBounds_toArray, List.set_cons_zero, List.set_cons_succ] at hb2
      have hg2 : W.grownBy _ (some (R0)) := grown_more (grown_more (grown_more (grown_more (grown_more (grown_more (World.grownBy.refl W (some R0)) 0 (.int .i64 (amV k.plo k.phi y0))) 1 (.int .i64 (amV x.flo x.fhi y1))) 2 (.int .i64 (amV x.rlo x.rhi y2))) 3 (.int .i64 (amV x.slo x.shi y3))) 4 (.int .i64 (amV (-c.dra) c.dra y4))) 5 (.int .i64 (amV c.clo c.chi y5))
      have fz0 := hb.frozen 0
      have cl0 := hb.cell 0
      have fz1 := hb.frozen 1
      have cl1 := hb.cell 1
      have fz2 := hb.frozen 2
      have cl2 := hb.cell 2
      have fz3 := hb.frozen 3
      have cl3 := hb.cell 3
      have fz4 := hb.frozen 4
      have cl4 := hb.cell 4
      have fz5 := hb.frozen 5
      have cl5 := hb.cell 5
      have gl := hb.lt
      have HB2 := Lib.hid hb2
      have HG2 := Lib.hid hg2
      clear hb2 hg2
      refine wpOp_of rfl (by rfl) ?_
      go_simp
      exact k_of (HK.out _ HB2.out HG2.out) (by rw [← u1_eq e44] <;> kernel_rfl)
  case step =>
    iterate 46 (refine all_succ ?_ ?_)
    · exact all_zero
    · intro _ _ u W hB hv hd K hK
      have HK := Lib.hid hK; clear hK
      refine wpOp_of rfl (by rfl) ?_
      go_simp
      exact k_of (HK.out (.pointer (some ⟨P, 0, none⟩)) _ rfl hB (Below.refl _ _)) (by kernel_rfl)
    · intro _ _ u W hB hv hd K hK
      have HK := Lib.hid hK; clear hK
      have e0 : u 0 = .pointer (some ⟨P, 0, none⟩) := hd 0 (by decide +kernel) (by decide) (by decide)
      refine wpOp_of rfl (by rfl) ?_
      have z0 := (hP W hB.out).cell 0
      go_simp
      exact k_of (HK.out (.slice (some ⟨b, o, none⟩) p.s.ks.length p.kc) _ rfl hB (Below.refl _ _)) (by rw [← u1_eq e0]; kernel_rfl)
    · intro _ _ u W hB hv hd K hK
      have HK := Lib.hid hK; clear hK
      refine wpOp_of rfl (by rfl) ?_
      go_simp
      exact k_of (HK.out (.int .i64 qk) _ rfl hB (Below.refl _ _)) (by kernel_rfl)
    · intro _ _ u W hB hv hd K hK
      have HK := Lib.hid hK; clear hK
      have e1 : u 1 = .slice (some ⟨b, o, none⟩) p.s.ks.length p.kc := hd 1 (by decide +kernel) (by decide) (by decide)
      have e2 : u 2 = .int .i64 qk := hd 2 (by decide +kernel) (by decide) (by decide)
      refine wpOp_of rfl (by rfl) ?_
      go_simp
      exact k_of (HK.out (.pointer (some ⟨b, o + qk.toNat * 4, none⟩)) _ rfl hB (Below.refl _ _)) (by rw [← u1_eq e1, ← u1_eq e2]; kernel_rfl)
    · intro _ _ u W hB hv hd K hK
      have HK := Lib.hid hK; clear hK
      have e3 : u 3 = .pointer (some ⟨b, o + qk.toNat * 4, none⟩) := hd 3 (by decide +kernel) (by decide) (by decide)
      refine wpOp_of rfl (by rfl) ?_
      go_simp
      exact k_of (HK.out (.pointer (some ⟨b, o + qk.toNat * 4 + 2, none⟩)) _ rfl hB (Below.refl _ _)) (by rw [← u1_eq e3]; kernel_rfl)
    · intro _ _ u W hB hv hd K hK
      have HK := Lib.hid hK; clear hK
      have e4 : u 4 = .pointer (some ⟨b, o + qk.toNat * 4 + 2, none⟩) := hd 4 (by decide +kernel) (by decide) (by decide)
      refine wpOp_of rfl (by rfl) ?_
      obtain ⟨z0, z1⟩ := hk W hB.out
      go_simp
      exact k_of (HK.out (.agg #[.int .i64 k.plo, .int .i64 k.phi]) _ rfl hB (Below.refl _ _)) (by rw [← u1_eq e4]; kernel_rfl)
    · intro _ _ u W hB hv hd K hK
      have HK := Lib.hid hK; clear hK
      refine wpOp_of rfl (by rfl) ?_
      go_simp
      exact k_of (HK.out (.pointer (some ⟨X, 0, none⟩)) _ rfl hB (Below.refl _ _)) (by kernel_rfl)
    · intro _ _ u W hB hv hd K hK
      have HK := Lib.hid hK; clear hK
      have e6 : u 6 = .pointer (some ⟨X, 0, none⟩) := hd 6 (by decide +kernel) (by decide) (by decide)
      refine wpOp_of rfl (by rfl) ?_
      have z0 := (hX W hB.out).cell 0
      go_simp
      exact k_of (HK.out (.int .u16 y0) _ rfl hB (Below.refl _ _)) (by rw [← u1_eq e6]; kernel_rfl)
    · intro _ _ u W hB hv hd K hK
      have HK := Lib.hid hK; clear hK
      have e7 : u 7 = .int .u16 y0 := hd 7 (by decide +kernel) (by decide) (by decide)
      refine wpOp_of rfl (by rfl) ?_
      go_simp
      exact k_of (HK.out (.int .i64 y0) _ rfl hB (Below.refl _ _)) (by rw [← u1_eq e7]; kernel_rfl)
    · intro _ _ u W hB hv hd K hK
      have HK := Lib.hid hK; clear hK
      have e5 : u 5 = .agg #[.int .i64 k.plo, .int .i64 k.phi] := hd 5 (by decide +kernel) (by decide) (by decide)
      have e8 : u 8 = .int .i64 y0 := hd 8 (by decide +kernel) (by decide) (by decide)
      refine wpOp_of rfl (by rfl) ?_
      go_simp
      refine (lamong_any (by have := ko.p; omega) (by have := ko.p; omega) (by have := ko.p; omega) hy.1 _).mono ?_
      rintro e w' ⟨rfl, hb⟩
      exact k_of (HK.out (.int .i64 (amV k.plo k.phi y0)) _ rfl (hon _ _ hB.out hb) hb) (by rw [← u1_eq e5, ← u1_eq e8]; kernel_rfl)
    · intro _ _ u W hB hv hd K hK
      have HK := Lib.hid hK; clear hK
      refine wpOp_of rfl (by rfl) ?_
      go_simp
      exact k_of (HK.out (.pointer (some ⟨Gw, 1, none⟩)) _ rfl hB (Below.refl _ _)) (by kernel_rfl)
    · intro _ _ u W hB hv hd K hK
      have HK := Lib.hid hK; clear hK
      have e10 : u 10 = .pointer (some ⟨Gw, 1, none⟩) := hd 10 (by decide +kernel) (by decide) (by decide)
      refine wpOp_of rfl (by rfl) ?_
      have z1 := (hG W hB.out).cell 1; have z2 := (hG W hB.out).cell 2
      go_simp
      exact k_of (HK.out (.agg #[.int .i64 x.flo, .int .i64 x.fhi]) _ rfl hB (Below.refl _ _)) (by rw [← u1_eq e10]; kernel_rfl)
    · intro _ _ u W hB hv hd K hK
      have HK := Lib.hid hK; clear hK
      refine wpOp_of rfl (by rfl) ?_
      go_simp
      exact k_of (HK.out (.pointer (some ⟨X, 1, none⟩)) _ rfl hB (Below.refl _ _)) (by kernel_rfl)
    · intro _ _ u W hB hv hd K hK
      have HK := Lib.hid hK; clear hK
      have e12 : u 12 = .pointer (some ⟨X, 1, none⟩) := hd 12 (by decide +kernel) (by decide) (by decide)
      refine wpOp_of rfl (by rfl) ?_
      have z1 := (hX W hB.out).cell 1
      go_simp
      exact k_of (HK.out (.int .u16 y1) _ rfl hB (Below.refl _ _)) (by rw [← u1_eq e12]; kernel_rfl)
    · intro _ _ u W hB hv hd K hK
      have HK := Lib.hid hK; clear hK
      have e13 : u 13 = .int .u16 y1 := hd 13 (by decide +kernel) (by decide) (by decide)
      refine wpOp_of rfl (by rfl) ?_
      go_simp
      exact k_of (HK.out (.int .i64 y1) _ rfl hB (Below.refl _ _)) (by rw [← u1_eq e13]; kernel_rfl)
    · intro _ _ u W hB hv hd K hK
      have HK := Lib.hid hK; clear hK
      have e11 : u 11 = .agg #[.int .i64 x.flo, .int .i64 x.fhi] := hd 11 (by decide +kernel) (by decide) (by decide)
      have e14 : u 14 = .int .i64 y1 := hd 14 (by decide +kernel) (by decide) (by decide)
      refine wpOp_of rfl (by rfl) ?_
      go_simp
      refine (lamong_any (by have := xo.f; omega) (by have := xo.f; omega) (by have := xo.f; omega) hy.2.1 _).mono ?_
      rintro e w' ⟨rfl, hb⟩
      exact k_of (HK.out (.int .i64 (amV x.flo x.fhi y1)) _ rfl (hon _ _ hB.out hb) hb) (by rw [← u1_eq e11, ← u1_eq e14]; kernel_rfl)
    · intro _ _ u W hB hv hd K hK
      have HK := Lib.hid hK; clear hK
      refine wpOp_of rfl (by rfl) ?_
      go_simp
      exact k_of (HK.out (.pointer (some ⟨Gw, 3, none⟩)) _ rfl hB (Below.refl _ _)) (by kernel_rfl)
    · intro _ _ u W hB hv hd K hK
      have HK := Lib.hid hK; clear hK
      have e16 : u 16 = .pointer (some ⟨Gw, 3, none⟩) := hd 16 (by decide +kernel) (by decide) (by decide)
      refine wpOp_of rfl (by rfl) ?_
      have z3 := (hG W hB.out).cell 3; have z4 := (hG W hB.out).cell 4
      go_simp
      exact k_of (HK.out (.agg #[.int .i64 x.rlo, .int .i64 x.rhi]) _ rfl hB (Below.refl _ _)) (by rw [← u1_eq e16]; kernel_rfl)
    · intro _ _ u W hB hv hd K hK
      have HK := Lib.hid hK; clear hK
      refine wpOp_of rfl (by rfl) ?_
      go_simp
      exact k_of (HK.out (.pointer (some ⟨X, 2, none⟩)) _ rfl hB (Below.refl _ _)) (by kernel_rfl)
    · intro _ _ u W hB hv hd K hK
      have HK := Lib.hid hK; clear hK
      have e18 : u 18 = .pointer (some ⟨X, 2, none⟩) := hd 18 (by decide +kernel) (by decide) (by decide)
      refine wpOp_of rfl (by rfl) ?_
      have z2 := (hX W hB.out).cell 2
      go_simp
      exact k_of (HK.out (.int .u16 y2) _ rfl hB (Below.refl _ _)) (by rw [← u1_eq e18]; kernel_rfl)
    · intro _ _ u W hB hv hd K hK
      have HK := Lib.hid hK; clear hK
      have e19 : u 19 = .int .u16 y2 := hd 19 (by decide +kernel) (by decide) (by decide)
      refine wpOp_of rfl (by rfl) ?_
      go_simp
      exact k_of (HK.out (.int .i64 y2) _ rfl hB (Below.refl _ _)) (by rw [← u1_eq e19]; kernel_rfl)
    · intro _ _ u W hB hv hd K hK
      have HK := Lib.hid hK; clear hK
      have e17 : u 17 = .agg #[.int .i64 x.rlo, .int .i64 x.rhi] := hd 17 (by decide +kernel) (by decide) (by decide)
      have e20 : u 20 = .int .i64 y2 := hd 20 (by decide +kernel) (by decide) (by decide)
      refine wpOp_of rfl (by rfl) ?_
      go_simp
      refine (lamong_any (by have := xo.r; omega) (by have := xo.r; omega) (by have := xo.r; omega) hy.2.2.1 _).mono ?_
      rintro e w' ⟨rfl, hb⟩
      exact k_of (HK.out (.int .i64 (amV x.rlo x.rhi y2)) _ rfl (hon _ _ hB.out hb) hb) (by rw [← u1_eq e17, ← u1_eq e20]; kernel_rfl)
    · intro _ _ u W hB hv hd K hK
      have HK := Lib.hid hK; clear hK
      refine wpOp_of rfl (by rfl) ?_
      go_simp
      exact k_of (HK.out (.pointer (some ⟨Gw, 5, none⟩)) _ rfl hB (Below.refl _ _)) (by kernel_rfl)
    · intro _ _ u W hB hv hd K hK
      have HK := Lib.hid hK; clear hK
      have e22 : u 22 = .pointer (some ⟨Gw, 5, none⟩) := hd 22 (by decide +kernel) (by decide) (by decide)
      refine wpOp_of rfl (by rfl) ?_
      have z5 := (hG W hB.out).cell 5; have z6 := (hG W hB.out).cell 6
      go_simp
      exact k_of (HK.out (.agg #[.int .i64 x.slo, .int .i64 x.shi]) _ rfl hB (Below.refl _ _)) (by rw [← u1_eq e22]; kernel_rfl)
    · intro _ _ u W hB hv hd K hK
      have HK := Lib.hid hK; clear hK
      refine wpOp_of rfl (by rfl) ?_
      go_simp
      exact k_of (HK.out (.pointer (some ⟨X, 3, none⟩)) _ rfl hB (Below.refl _ _)) (by kernel_rfl)
    · intro _ _ u W hB hv hd K hK
      have HK := Lib.hid hK; clear hK
      have e24 : u 24 = .pointer (some ⟨X, 3, none⟩) := hd 24 (by decide +kernel) (by decide) (by decide)
      refine wpOp_of rfl (by rfl) ?_
      have z3 := (hX W hB.out).cell 3
      go_simp
      exact k_of (HK.out (.int .u16 y3) _ rfl hB (Below.refl _ _)) (by rw [← u1_eq e24]; kernel_rfl)
    · intro _ _ u W hB hv hd K hK
      have HK := Lib.hid hK; clear hK
      have e25 : u 25 = .int .u16 y3 := hd 25 (by decide +kernel) (by decide) (by decide)
      refine wpOp_of rfl (by rfl) ?_
      go_simp
      exact k_of (HK.out (.int .i64 y3) _ rfl hB (Below.refl _ _)) (by rw [← u1_eq e25]; kernel_rfl)
    · intro _ _ u W hB hv hd K hK
      have HK := Lib.hid hK; clear hK
      have e23 : u 23 = .agg #[.int .i64 x.slo, .int .i64 x.shi] := hd 23 (by decide +kernel) (by decide) (by decide)
      have e26 : u 26 = .int .i64 y3 := hd 26 (by decide +kernel) (by decide) (by decide)
      refine wpOp_of rfl (by rfl) ?_
      go_simp
      refine (lamong_any (by have := xo.s; omega) (by have := xo.s; omega) (by have := xo.s; omega) hy.2.2.2.1 _).mono ?_
      rintro e w' ⟨rfl, hb⟩
      exact k_of (HK.out (.int .i64 (amV x.slo x.shi y3)) _ rfl (hon _ _ hB.out hb) hb) (by rw [← u1_eq e23, ← u1_eq e26]; kernel_rfl)
    · intro _ _ u W hB hv hd K hK
      have HK := Lib.hid hK; clear hK
      refine wpOp_of rfl (by rfl) ?_
      go_simp
      exact k_of (HK.out (.pointer (some ⟨C, 2, none⟩)) _ rfl hB (Below.refl _ _)) (by kernel_rfl)
    · intro _ _ u W hB hv hd K hK
      have HK := Lib.hid hK; clear hK
      have e28 : u 28 = .pointer (some ⟨C, 2, none⟩) := hd 28 (by decide +kernel) (by decide) (by decide)
      refine wpOp_of rfl (by rfl) ?_
      have z2 := (hC W hB.out).cell 2
      go_simp
      exact k_of (HK.out (.int .i64 c.dra) _ rfl hB (Below.refl _ _)) (by rw [← u1_eq e28]; kernel_rfl)
    · intro _ _ u W hB hv hd K hK
      have HK := Lib.hid hK; clear hK
      have e29 : u 29 = .int .i64 c.dra := hd 29 (by decide +kernel) (by decide) (by decide)
      refine wpOp_of rfl (by rfl) ?_
      go_simp
      exact k_of (HK.out (.int .i64 (-c.dra)) _ rfl hB (Below.refl _ _)) (by rw [← u1_eq e29]; kernel_rfl)
    · intro _ _ u W hB hv hd K hK
      have HK := Lib.hid hK; clear hK
      refine wpOp_of rfl (by rfl) ?_
      go_simp
      exact k_of (HK.out (.pointer (some ⟨C, 2, none⟩)) _ rfl hB (Below.refl _ _)) (by kernel_rfl)
    · intro _ _ u W hB hv hd K hK
      have HK := Lib.hid hK; clear hK
      have e31 : u 31 = .pointer (some ⟨C, 2, none⟩) := hd 31 (by decide +kernel) (by decide) (by decide)
      refine wpOp_of rfl (by rfl) ?_
      have z2 := (hC W hB.out).cell 2
      go_simp
      exact k_of (HK.out (.int .i64 c.dra) _ rfl hB (Below.refl _ _)) (by rw [← u1_eq e31]; kernel_rfl)
    · intro _ _ u W hB hv hd K hK
      have HK := Lib.hid hK; clear hK
      have e30 : u 30 = .int .i64 (-c.dra) := hd 30 (by decide +kernel) (by decide) (by decide)
      have e32 : u 32 = .int .i64 c.dra := hd 32 (by decide +kernel) (by decide) (by decide)
      refine wpOp_of rfl (by rfl) ?_
      go_simp
      refine (lspan_any (-c.dra) c.dra _).mono ?_
      rintro e w' ⟨rfl, hb⟩
      exact k_of (HK.out (.agg #[.int .i64 (-c.dra), .int .i64 c.dra]) _ rfl (hon _ _ hB.out hb) hb) (by rw [← u1_eq e30, ← u1_eq e32]; kernel_rfl)
    · intro _ _ u W hB hv hd K hK
      have HK := Lib.hid hK; clear hK
      refine wpOp_of rfl (by rfl) ?_
      go_simp
      exact k_of (HK.out (.pointer (some ⟨X, 4, none⟩)) _ rfl hB (Below.refl _ _)) (by kernel_rfl)
    · intro _ _ u W hB hv hd K hK
      have HK := Lib.hid hK; clear hK
      have e34 : u 34 = .pointer (some ⟨X, 4, none⟩) := hd 34 (by decide +kernel) (by decide) (by decide)
      refine wpOp_of rfl (by rfl) ?_
      have z4 := (hX W hB.out).cell 4
      go_simp
      exact k_of (HK.out (.int .u16 y4) _ rfl hB (Below.refl _ _)) (by rw [← u1_eq e34]; kernel_rfl)
    · intro _ _ u W hB hv hd K hK
      have HK := Lib.hid hK; clear hK
      have e35 : u 35 = .int .u16 y4 := hd 35 (by decide +kernel) (by decide) (by decide)
      refine wpOp_of rfl (by rfl) ?_
      go_simp
      exact k_of (HK.out (.int .i64 y4) _ rfl hB (Below.refl _ _)) (by rw [← u1_eq e35]; kernel_rfl)
    · intro _ _ u W hB hv hd K hK
      have HK := Lib.hid hK; clear hK
      have e33 : u 33 = .agg #[.int .i64 (-c.dra), .int .i64 c.dra] := hd 33 (by decide +kernel) (by decide) (by decide)
      have e36 : u 36 = .int .i64 y4 := hd 36 (by decide +kernel) (by decide) (by decide)
      refine wpOp_of rfl (by rfl) ?_
      go_simp
      refine (lamong_any (by have := hdr; omega) (by have := hdr; omega) (by have := hdr; omega) hy.2.2.2.2.1 _).mono ?_
      rintro e w' ⟨rfl, hb⟩
      exact k_of (HK.out (.int .i64 (amV (-c.dra) c.dra y4)) _ rfl (hon _ _ hB.out hb) hb) (by rw [← u1_eq e33, ← u1_eq e36]; kernel_rfl)
    · intro _ _ u W hB hv hd K hK
      have HK := Lib.hid hK; clear hK
      refine wpOp_of rfl (by rfl) ?_
      go_simp
      exact k_of (HK.out (.pointer (some ⟨C, 3, none⟩)) _ rfl hB (Below.refl _ _)) (by kernel_rfl)
    · intro _ _ u W hB hv hd K hK
      have HK := Lib.hid hK; clear hK
      have e38 : u 38 = .pointer (some ⟨C, 3, none⟩) := hd 38 (by decide +kernel) (by decide) (by decide)
      refine wpOp_of rfl (by rfl) ?_
      have z3 := (hC W hB.out).cell 3; have z4 := (hC W hB.out).cell 4
      go_simp
      exact k_of (HK.out (.agg #[.int .i64 c.clo, .int .i64 c.chi]) _ rfl hB (Below.refl _ _)) (by rw [← u1_eq e38]; kernel_rfl)
    · intro _ _ u W hB hv hd K hK
      have HK := Lib.hid hK; clear hK
      refine wpOp_of rfl (by rfl) ?_
      go_simp
      exact k_of (HK.out (.pointer (some ⟨X, 5, none⟩)) _ rfl hB (Below.refl _ _)) (by kernel_rfl)
    · intro _ _ u W hB hv hd K hK
      have HK := Lib.hid hK; clear hK
      have e40 : u 40 = .pointer (some ⟨X, 5, none⟩) := hd 40 (by decide +kernel) (by decide) (by decide)
      refine wpOp_of rfl (by rfl) ?_
      have z5 := (hX W hB.out).cell 5
      go_simp
      exact k_of (HK.out (.int .u16 y5) _ rfl hB (Below.refl _ _)) (by rw [← u1_eq e40]; kernel_rfl)
    · intro _ _ u W hB hv hd K hK
      have HK := Lib.hid hK; clear hK
      have e41 : u 41 = .int .u16 y5 := hd 41 (by decide +kernel) (by decide) (by decide)
      refine wpOp_of rfl (by rfl) ?_
      go_simp
      exact k_of (HK.out (.int .i64 y5) _ rfl hB (Below.refl _ _)) (by rw [← u1_eq e41]; kernel_rfl)
    · intro _ _ u W hB hv hd K hK
      have HK := Lib.hid hK; clear hK
      have e39 : u 39 = .agg #[.int .i64 c.clo, .int .i64 c.chi] := hd 39 (by decide +kernel) (by decide) (by decide)
      have e42 : u 42 = .int .i64 y5 := hd 42 (by decide +kernel) (by decide) (by decide)
      refine wpOp_of rfl (by rfl) ?_
      go_simp
      refine (lamong_any (by have := hcl; omega) (by have := hcl; omega) (by have := hcl; omega) hy.2.2.2.2.2 _).mono ?_
      rintro e w' ⟨rfl, hb⟩
      exact k_of (HK.out (.int .i64 (amV c.clo c.chi y5)) _ rfl (hon _ _ hB.out hb) hb) (by rw [← u1_eq e39, ← u1_eq e42]; kernel_rfl)
    · intro _ _ u W hB hv hd K hK
      have HK := Lib.hid hK; clear hK
      have e9 : u 9 = .int .i64 (amV k.plo k.phi y0) := hd 9 (by decide +kernel) (by decide) (by decide)
      have e15 : u 15 = .int .i64 (amV x.flo x.fhi y1) := hd 15 (by decide +kernel) (by decide) (by decide)
      have e21 : u 21 = .int .i64 (amV x.rlo x.rhi y2) := hd 21 (by decide +kernel) (by decide) (by decide)
      have e27 : u 27 = .int .i64 (amV x.slo x.shi y3) := hd 27 (by decide +kernel) (by decide) (by decide)
      have e37 : u 37 = .int .i64 (amV (-c.dra) c.dra y4) := hd 37 (by decide +kernel) (by decide) (by decide)
      have e43 : u 43 = .int .i64 (amV c.clo c.chi y5) := hd 43 (by decide +kernel) (by decide) (by decide)
      refine wpOp_of rfl (by rfl) ?_
      go_simp
      exact k_of (HK.out (.agg #[.int .i64 (amV k.plo k.phi y0), .int .i64 (amV x.flo x.fhi y1), .int .i64 (amV x.rlo x.rhi y2), .int .i64 (amV x.slo x.shi y3), .int .i64 (amV (-c.dra) c.dra y4), .int .i64 (amV c.clo c.chi y5)]) _ rfl hB (Below.refl _ _)) (by rw [← u1_eq e9, ← u1_eq e15, ← u1_eq e21, ← u1_eq e27, ← u1_eq e37, ← u1_eq e43]; kernel_rfl)
    · intro _ ha; exact absurd (by decide) ha
  case done =>
    intro L u W hL hB hd hV
    have hv0 := hV.ok ⟨none, R0, 45, 36, #[.int .i64 0, .int .i64 0, .int .i64 0, .int .i64 0, .int .i64 0, .int .i64 0], #[.int .i64 (amV k.plo k.phi y0), .int .i64 (amV x.flo x.fhi y1), .int .i64 (amV x.rlo x.rhi y2), .int .i64 (amV x.slo x.shi y3), .int .i64 (amV (-c.dra) c.dra y4), .int .i64 (amV c.clo c.chi y5)]⟩ (by simp)
    have hB0 := hv0.2 (R0) ⟨rfl, hg0⟩
    rw [if_pos (hL 45 (by decide))] at hB0
    exact k_of (HQ.out u W hB.out hB0) (rfl)


/-- A truth of a candle with a wick, by turns. -/
def tuV (k : Wk) (x : Wx) (c : Cd) (y0 y1 y2 y3 y4 y5 : Int) : Tu := ⟨amV k.plo k.phi y0, amV x.flo x.fhi y1, amV x.rlo x.rhi y2, amV x.slo x.shi y3, amV (-c.dra) c.dra y4, amV c.clo c.chi y5⟩
theorem tuV_ok {s : Sh} {k : Wk} {x : Wx} {c : Cd} (ko : WkOk k) (xo : WxOk x) (cd : CdOk s c) (y0 y1 y2 y3 y4 y5 : Int) : TuOk k x c (tuV k x c y0 y1 y2 y3 y4 y5) := by
  have h1 := cd.dra
  exact ⟨amV_rng ko.p.2.1, amV_rng xo.f.2.1, amV_rng xo.r.2.1, amV_rng xo.s.2.1, amV_rng (by omega), amV_rng cd.cold.2.1⟩
set_option maxRecDepth 100000 in
set_option maxHeartbeats 4000000 in
theorem ltruth_any {w : World} {p : Sp} {c : Cd} {q : Int} {k : Wk} {x : Wx} {y0 y1 y2 y3 y4 y5 : Int} (h : ShIn w p) (ha : Ask p.s q c k x) (hy : (0 ≤ y0 ∧ y0 ≤ 65535) ∧ (0 ≤ y1 ∧ y1 ≤ 65535) ∧ (0 ≤ y2 ∧ y2 ≤ 65535) ∧ (0 ≤ y3 ∧ y3 ≤ 65535) ∧ (0 ≤ y4 ∧ y4 ≤ 65535) ∧ (0 ≤ y5 ∧ y5 ≤ 65535)) :
    Calls Try.prog 37 #[.agg #[.slice p.ka p.s.ks.length p.kc, .slice p.xa p.s.xs.length p.xc, .int .i64 p.s.flo, .int .i64 p.s.fhi, .int .i64 p.s.plo, .int .i64 p.s.phi], .int .i64 q, .agg #[.int .i64 c.wax, .int .i64 c.dia, .int .i64 c.dra, .int .i64 c.clo, .int .i64 c.chi], .agg #[.int .u16 y0, .int .u16 y1, .int .u16 y2, .int .u16 y3, .int .u16 y4, .int .u16 y5]] w fun e w' => e = .returned (.agg #[.int .i64 (tuV k x c y0 y1 y2 y3 y4 y5).pull, .int .i64 (tuV k x c y0 y1 y2 y3 y4 y5).flow, .int .i64 (tuV k x c y0 y1 y2 y3 y4 y5).rise, .int .i64 (tuV k x c y0 y1 y2 y3 y4 y5).spr, .int .i64 (tuV k x c y0 y1 y2 y3 y4 y5).dra, .int .i64 (tuV k x c y0 y1 y2 y3 y4 y5).cold]) ∧ Below w.heap.size w w' := by
  obtain ⟨b, o, hka, hbb, c0, c1, c2, c3⟩ := wks_at h.ks.at_ ha.hk
  have hxl := h.xs.len
  have hwx : c.wax < p.s.xs.length := ha.cd.wax.2
  have hwx0 := ha.cd.wax.1
  obtain ⟨xb, xo', hxa, hxb, d0, d1, d2, d3, d4, d5, d6, d7⟩ := wxs_at h.xs.at_ ha.hx
  have hq : q < p.s.ks.length := by have := (List.getElem?_eq_some_iff.1 ha.hk).1; have := ha.h0; omega
  have hb0 := ((((Bx.nil w).alloc #[.slice p.ka p.s.ks.length p.kc, .slice p.xa p.s.xs.length p.xc, .int .i64 p.s.flo, .int .i64 p.s.fhi, .int .i64 p.s.plo, .int .i64 p.s.phi] 27).alloc #[.int .i64 c.wax, .int .i64 c.dia, .int .i64 c.dra, .int .i64 c.clo, .int .i64 c.chi] 34).alloc #[.int .u16 y0, .int .u16 y1, .int .u16 y2, .int .u16 y3, .int .u16 y4, .int .u16 y5] 62).alloc #[.int .i64 0, .int .i64 0, .int .i64 0, .int .i64 0, .int .i64 0, .int .i64 0] 36
  simp only [World.size_alloc] at hb0
  have HB := Lib.hid hb0
  have HQ := Lib.hid (And.intro ha.h0 hq)
  have HF := Lib.hid (And.intro ha.ko (And.intro ha.xo (And.intro ha.cd.dra ha.cd.cold)))
  have HY := Lib.hid hy
  have HK := Lib.hid (And.intro hbb (And.intro c2 c3))
  obtain ⟨s, ka, kc, xa, xc⟩ := p
  simp only at hka hxa hxl hwx hxb d0 d1 d2 d3 d4 d5 d6 d7 HB HQ ha
  subst hka hxa
  clear h ha hy hb0 hq hbb c0 c1 c2 c3
  replace d0 := (HB.out.b.cell (p := ⟨xb, xo' + c.wax.toNat * 8, none⟩) hxb).trans d0
  replace d1 := (HB.out.b.cell (p := ⟨xb, xo' + c.wax.toNat * 8 + 1, none⟩) hxb).trans d1
  replace d2 := (HB.out.b.cell (p := ⟨xb, xo' + c.wax.toNat * 8 + 2, none⟩) hxb).trans d2
  replace d3 := (HB.out.b.cell (p := ⟨xb, xo' + c.wax.toNat * 8 + 3, none⟩) hxb).trans d3
  replace d4 := (HB.out.b.cell (p := ⟨xb, xo' + c.wax.toNat * 8 + 4, none⟩) hxb).trans d4
  replace d5 := (HB.out.b.cell (p := ⟨xb, xo' + c.wax.toNat * 8 + 5, none⟩) hxb).trans d5
  replace d6 := (HB.out.b.cell (p := ⟨xb, xo' + c.wax.toNat * 8 + 6, none⟩) hxb).trans d6
  replace d7 := (HB.out.b.cell (p := ⟨xb, xo' + c.wax.toNat * 8 + 7, none⟩) hxb).trans d7
  go_enter Try.func37, Try.ntmps37
  go_wp2_with fail
  clear d0 d1 d2 d3 d4 d5 d6 d7
  have hd0 := HB.out.alloc #[.string x.nm, .int .i64 x.flo, .int .i64 x.fhi, .int .i64 x.rlo, .int .i64 x.rhi, .int .i64 x.slo, .int .i64 x.shi, .int .i64 x.ch] 80
  simp only [World.size_alloc] at hd0
  have HD := Lib.hid hd0
  clear hd0
  refine wp_of_eq (tr2_region (S := fun W => (Blk W w.heap.size 27 #[.slice (some ⟨b, o, none⟩) s.ks.length kc, .slice (some ⟨xb, xo', none⟩) s.xs.length xc, .int .i64 s.flo, .int .i64 s.fhi, .int .i64 s.plo, .int .i64 s.phi] ∧ Blk W (w.heap.size + 1) 34 #[.int .i64 c.wax, .int .i64 c.dia, .int .i64 c.dra, .int .i64 c.clo, .int .i64 c.chi] ∧ Blk W (w.heap.size + 1 + 1) 62 #[.int .u16 y0, .int .u16 y1, .int .u16 y2, .int .u16 y3, .int .u16 y4, .int .u16 y5] ∧ Blk W (w.heap.size + 4) 80 #[.string x.nm, .int .i64 x.flo, .int .i64 x.fhi, .int .i64 x.rlo, .int .i64 x.rhi, .int .i64 x.slo, .int .i64 x.shi, .int .i64 x.ch]) ∧ SB w (w.heap.size + 5) W) (N := w.heap.size + 5) (P := w.heap.size) (C := w.heap.size + 1) (X := w.heap.size + 1 + 1) (Gw := w.heap.size + 4) (R0 := w.heap.size + 1 + 1 + 1) (b := b) (o := o) (qk := q) (p := ⟨s, some ⟨b, o, none⟩, kc, some ⟨xb, xo', none⟩, xc⟩) (c := c) (k := k) (x := x) (y0 := y0) (y1 := y1) (y2 := y2) (y3 := y3) (y4 := y4) (y5 := y5)
    HQ.out.1 HQ.out.2 HF.out.1 HF.out.2.1 HF.out.2.2.1 HF.out.2.2.2 HY.out (IntWalk.i64_in _ (by have := HF.out.2.2.1; omega)) (IntWalk.i64_in _ (by have := HY.out; omega)) (IntWalk.i64_in _ (by have := HY.out; omega)) (IntWalk.i64_in _ (by have := HY.out; omega)) (IntWalk.i64_in _ (by have := HY.out; omega)) (IntWalk.i64_in _ (by have := HY.out; omega)) (IntWalk.i64_in _ (by have := HY.out; omega)) (fun W h => h.1.1) (fun W h => ⟨(h.2.b.cell (p := ⟨b, o + q.toNat * 4 + 2, none⟩) HK.out.1).trans HK.out.2.1, (h.2.b.cell (p := ⟨b, o + q.toNat * 4 + 3, none⟩) HK.out.1).trans HK.out.2.2⟩) (fun W h => h.1.2.1) (fun W h => h.1.2.2.1) (fun W h => h.1.2.2.2)
    (fun _ _ h hb => ⟨⟨h.1.1.on hb, h.1.2.1.on hb, h.1.2.2.1.on hb, h.1.2.2.2.on hb⟩, h.2.on hb⟩) (fun W W' G h hg hG => ⟨⟨h.1.1.grown_ hg (by omega), h.1.2.1.grown_ hg (by omega), h.1.2.2.1.grown_ hg (by omega), h.1.2.2.2.grown_ hg (by omega)⟩, h.2.put hg (by omega)⟩) (fun W h => h.2.n) (Lib.hid ⟨⟨HD.out.get (by simp), HD.out.get (by simp), HD.out.get (by simp), HD.out.get (by simp)⟩, HD.out.b, by simp⟩) (HD.out.get (by simp)) (by omega) (Lib.hid fun u W hS hR => ?_)) (by kernel_rfl)
  have hF := Lib.hid hS.2.b
  have a0 := hR.cell 0; have a1 := hR.cell 1; have a2 := hR.cell 2; have a3 := hR.cell 3; have a4 := hR.cell 4; have a5 := hR.cell 5
  clear hS hR
  go_wp2_with fail
  refine bodyPost_ret (v := .agg #[.int .i64 (tuV k x c y0 y1 y2 y3 y4 y5).pull, .int .i64 (tuV k x c y0 y1 y2 y3 y4 y5).flow, .int .i64 (tuV k x c y0 y1 y2 y3 y4 y5).rise, .int .i64 (tuV k x c y0 y1 y2 y3 y4 y5).spr, .int .i64 (tuV k x c y0 y1 y2 y3 y4 y5).dra, .int .i64 (tuV k x c y0 y1 y2 y3 y4 y5).cold]) ?_ rfl ⟨rfl, hF.out⟩
  simp [results, Try.results37, go_sem, a0, a1, a2, a3, a4, a5, tuV]
end Go.Proofs.Ytkjfommdeljefaa
