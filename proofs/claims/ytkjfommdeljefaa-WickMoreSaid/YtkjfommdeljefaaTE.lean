/- WickMore: the mathematics, the law's regions that draw. -/
import Derived.Test.YtkjfommdeljefaaT7
namespace Go.Proofs.Ytkjfommdeljefaa
open Go.RowKit Go.Shelf Go.Maps
attribute [local go_sem] Oper.semAt_some


/-- A truth in which more is drawn, and one that is colder. -/
def moreV (t : Tu) (k : Wk) (x : Wx) (c : Cd) (n0 n1 n2 : Int) : Tu := ⟨amV t.pull k.phi n0, amV t.flow x.fhi n1, t.rise, t.spr, amV t.dra c.dra n2, t.cold⟩
def coldV (t : Tu) (c : Cd) (n3 : Int) : Tu := ⟨t.pull, t.flow, t.rise, t.spr, t.dra, amV t.cold c.chi n3⟩
section
variable {s : Sh} {k : Wk} {x : Wx} {c : Cd} {t : Tu} {n0 n1 n2 n3 : Int}
theorem more_ok (h : TuOk k x c t) : TuOk k x c (moreV t k x c n0 n1 n2) := by
  have a := amV_rng (z := n0) h.pull.2
  have b := amV_rng (z := n1) h.flow.2
  have d := amV_rng (z := n2) h.dra.2
  exact ⟨⟨Int.le_trans h.pull.1 a.1, a.2⟩, ⟨Int.le_trans h.flow.1 b.1, b.2⟩, h.rise, h.spr, ⟨Int.le_trans h.dra.1 d.1, d.2⟩, h.cold⟩
theorem cold_ok (h : TuOk k x c t) : TuOk k x c (coldV t c n3) := by
  have a := amV_rng (z := n3) h.cold.2
  exact ⟨h.pull, h.flow, h.rise, h.spr, h.dra, ⟨Int.le_trans h.cold.1 a.1, a.2⟩⟩
theorem more_le (ko : WkOk k) (xo : WxOk x) (cd : CdOk s c) (h : TuOk k x c t) : (burn x t).rate ≤ (burn x (moreV t k x c n0 n1 n2)).rate ∧ (burn x t).flame ≤ (burn x (moreV t k x c n0 n1 n2)).flame ∧ (burn x t).pool ≤ (burn x (moreV t k x c n0 n1 n2)).pool :=
  burn_mono xo.ch.1 (h.in_ ko xo cd) ((more_ok h).in_ ko xo cd) (amV_rng h.pull.2).1 (amV_rng h.flow.2).1 (amV_rng h.dra.2).1 (Int.le_refl _) (Int.le_refl _) (Int.le_refl _)
theorem cold_le (ko : WkOk k) (xo : WxOk x) (cd : CdOk s c) (h : TuOk k x c t) : (burn x (coldV t c n3)).pool ≤ (burn x t).pool :=
  (burn_mono xo.ch.1 ((cold_ok h).in_ ko xo cd) (h.in_ ko xo cd) (Int.le_refl _) (Int.le_refl _) (Int.le_refl _) (Int.le_refl _) (Int.le_refl _) (amV_rng h.cold.2).1).2.2
end
theorem min_twice {g : Int} {a b : Bn} (_hg : 0 ≤ g) (ha : 0 < a.rate) (hb : 0 < b.rate) : 2 * (minV g a b).1 ≤ (minV (2 * g) a b).1 ∧ (minV (2 * g) a b).2 ≤ 2 * (minV g a b).2 := by
  unfold minV
  simp only
  constructor
  · rw [Int.le_ediv_iff_mul_le hb]
    have h1 := Int.ediv_mul_le (600000000 * g) (show b.rate ≠ 0 by omega)
    rw [Int.mul_assoc]
    omega
  · apply Int.le_of_lt_add_one
    rw [Int.ediv_lt_iff_lt_mul ha]
    have h1 := Int.emod_add_mul_ediv (600000000 * g + a.rate - 1) a.rate
    have h2 := Int.emod_lt_of_pos (600000000 * g + a.rate - 1) ha
    rw [Int.add_mul, Int.mul_assoc, Int.mul_comm _ a.rate]
    generalize a.rate * ((600000000 * g + a.rate - 1) / a.rate) = z at *
    omega
theorem min_in {g : Int} {a b : Bn} (hg : 0 ≤ g ∧ g ≤ 100000) (ha : 1000 ≤ a.rate ∧ a.rate ≤ 5700000000) (hb : 1000 ≤ b.rate) : (0 ≤ (minV g a b).1 ∧ (minV g a b).1 ≤ 60000000000000) ∧ (0 ≤ (minV g a b).2 ∧ (minV g a b).2 ≤ 70000000000000) := by
  unfold minV
  exact ⟨⟨Int.ediv_nonneg (by omega) (by omega), Int.le_trans (Int.ediv_le_self _ (by omega)) (by omega)⟩, ⟨Int.ediv_nonneg (by omega) (by omega), Int.le_trans (Int.ediv_le_self _ (by omega)) (by omega)⟩⟩

/-- What each operation leaves. -/
def lm6F (MB P T0 X _C b o _xb _xo : Nat) (qk : Int) (p : Sp) (_c : Cd) (k : Wk) (_x : Wx) (t _m : Tu) (_yk _y0 _y1 _y2 _y3 _y4 _y5 n0 _n1 _n2 _n3 : Int) : Nat → Value → Prop
  | 0, v => v = .pointer (some ⟨T0, 0, none⟩)
  | 1, v => v = .int .i64 t.pull
  | 2, v => v = .pointer (some ⟨P, 0, none⟩)
  | 3, v => v = .slice (some ⟨b, o, none⟩) p.s.ks.length p.kc
  | 4, v => v = .int .i64 qk
  | 5, v => v = .pointer (some ⟨b, o + qk.toNat * 4, none⟩)
  | 6, v => v = .pointer (some ⟨b, o + qk.toNat * 4 + 2, none⟩)
  | 7, v => v = .pointer (some ⟨b, o + qk.toNat * 4 + 3, none⟩)
  | 8, v => v = .int .i64 k.phi
  | 9, v => v = .agg #[.int .i64 t.pull, .int .i64 k.phi]
  | 10, v => v = .pointer (some ⟨X, 7, none⟩)
  | 11, v => v = .pointer (some ⟨X, 7, none⟩)
  | 12, v => v = .int .u16 n0
  | 13, v => v = .int .i64 n0
  | 14, v => v = .int .i64 (amV t.pull k.phi n0)
  | 15, v => v = .pointer (some ⟨MB, 0, none⟩)
  | 16, _ => True
  | _, _ => True
set_option maxRecDepth 100000 in
set_option maxHeartbeats 8000000 in
theorem lm6_region {N MB P T0 X C b o xb xo : Nat} {qk : Int} {p : Sp} {c : Cd} {k : Wk} {x : Wx} {t m : Tu} {yk y0 y1 y2 y3 y4 y5 n0 n1 n2 n3 : Int} {S : World → Prop} (h0 : 0 ≤ qk) (hq : qk < p.s.ks.length) (_hw0 : 0 ≤ c.wax) (_hwl : c.wax < p.s.xs.length) (ht : -1000 ≤ t.pull ∧ t.pull ≤ k.phi ∧ k.phi ≤ 2000) (hn : 0 ≤ n0 ∧ n0 ≤ 65535) (hwn : IntKind.i64.wrap n0 = n0) (hP : ∀ W, S W → Blk W P 27 #[.slice (some ⟨b, o, none⟩) p.s.ks.length p.kc, .slice (some ⟨xb, xo, none⟩) p.s.xs.length p.xc, .int .i64 p.s.flo, .int .i64 p.s.fhi, .int .i64 p.s.plo, .int .i64 p.s.phi]) (_hC : ∀ W, S W → Blk W C 34 #[.int .i64 c.wax, .int .i64 c.dia, .int .i64 c.dra, .int .i64 c.clo, .int .i64 c.chi]) (hT : ∀ W, S W → Blk W T0 36 #[.int .i64 t.pull, .int .i64 t.flow, .int .i64 t.rise, .int .i64 t.spr, .int .i64 t.dra, .int .i64 t.cold]) (hX : ∀ W, S W → Blk W X 65 #[.int .u8 yk, .int .u16 y0, .int .u16 y1, .int .u16 y2, .int .u16 y3, .int .u16 y4, .int .u16 y5, .int .u16 n0, .int .u16 n1, .int .u16 n2, .int .u16 n3]) (hk : ∀ W, S W → W.cell? ⟨b, o + qk.toNat * 4 + 3, none⟩ = some (.int .i64 k.phi)) (_hx : ∀ W, S W → W.cell? ⟨xb, xo + c.wax.toNat * 8 + 2, none⟩ = some (.int .i64 x.fhi)) (hon : ∀ W W', S W → Below W.heap.size W W' → S W') (hput : ∀ W W' G, S W → W.grownBy W' (some G) → (N ≤ G ∨ G = MB) → S W') (hN : ∀ W, S W → N ≤ W.heap.size) {Q : Exit → Act → World → Prop} {s0 s1 s2 s6 s10 s11 s12 s13 s14 s15 s16 s17 s18 s19 s20 s21 s22 s23 s24 s25 s26 s27 s28 s29 s30 s31 s32 s33 s34 s35 s36 s37 s38 s55 s56 s57 s58 s59 s60 s61 s62 s63 s64 s65 s66 s67 s68 s69 s70 s71 s72 s73 s74 s75 s76 s77 s78 s79 s80 s81 s82 s83 s84 s85 s86 s87 s88 s89 s90 s91 s92 s93 s94 s95 s96 s97 s98 s99 s100 s101 s102 s103 s104 s105 s106 s107 s108 s109 s110 s111 s112 s113 s114 s115 s116 s117 s118 s119 s120 s121 s122 s123 s124 s125 s126 s127 s128 s129 s130 s131 s132 s133 s134 s135 s136 s137 s138 s139 s140 s141 s142 s143 s144 s145 s146 s147 s148 s149 s150 s151 s152 s153 s154 s155 s156 s157 s158 s159 s160 s161 s162 s163 s164 s165 s166 s167 s168 s169 s170 s171 s172 s173 s174 s175 s176 s177 s178 s179 s180 s181 s182 s183 s184 s185 s186 s187 s188 s189 s190 s191 s192 s193 s194 s195 s196 s197 s198 s199 s200 s201 s202 s203 s204 s205 s206 s207 s208 s209 s210 s211 s212 s213 s214 s215 s216 s217 s218 s219 : Value} {W0 : World} (HL : Hid (S W0)) (hk0 : Blk W0 (MB) 36 #[.int .i64 m.pull, .int .i64 m.flow, .int .i64 m.rise, .int .i64 m.spr, .int .i64 m.dra, .int .i64 m.cold]) (hg0 : MB < N)
    (HQ : Hid (∀ (u : Nat → Value) (W : World), S W → Blk W (MB) 36 #[.int .i64 (amV t.pull k.phi n0), .int .i64 m.flow, .int .i64 m.rise, .int .i64 m.spr, .int .i64 m.dra, .int .i64 m.cold] → Q .normal ⟨#[s0, s1, s2, .pointer (some ⟨P, 0, none⟩), .pointer (some ⟨C, 0, none⟩), .pointer (some ⟨X, 0, none⟩), s6, .int .i64 qk, .pointer (some ⟨T0, 0, none⟩), .pointer (some ⟨MB, 0, none⟩), s10, s11, s12, s13, s14, s15, s16, s17, s18, s19, s20, s21, s22, s23, s24, s25, s26, s27, s28, s29, s30, s31, s32, s33, s34, s35, s36, s37, s38, u 0, u 1, u 2, u 3, u 4, u 5, u 6, u 7, u 8, u 9, u 10, u 11, u 12, u 13, u 14, u 15, s55, s56, s57, s58, s59, s60, s61, s62, s63, s64, s65, s66, s67, s68, s69, s70, s71, s72, s73, s74, s75, s76, s77, s78, s79, s80, s81, s82, s83, s84, s85, s86, s87, s88, s89, s90, s91, s92, s93, s94, s95, s96, s97, s98, s99, s100, s101, s102, s103, s104, s105, s106, s107, s108, s109, s110, s111, s112, s113, s114, s115, s116, s117, s118, s119, s120, s121, s122, s123, s124, s125, s126, s127, s128, s129, s130, s131, s132, s133, s134, s135, s136, s137, s138, s139, s140, s141, s142, s143, s144, s145, s146, s147, s148, s149, s150, s151, s152, s153, s154, s155, s156, s157, s158, s159, s160, s161, s162, s163, s164, s165, s166, s167, s168, s169, s170, s171, s172, s173, s174, s175, s176, s177, s178, s179, s180, s181, s182, s183, s184, s185, s186, s187, s188, s189, s190, s191, s192, s193, s194, s195, s196, s197, s198, s199, s200, s201, s202, s203, s204, s205, s206, s207, s208, s209, s210, s211, s212, s213, s214, s215, s216, s217, s218, s219], []⟩ W)) :
    Code.wp Try.prog ((Try.f12.body.bind (regionAt 6)).getD .skip) Q ⟨#[s0, s1, s2, .pointer (some ⟨P, 0, none⟩), .pointer (some ⟨C, 0, none⟩), .pointer (some ⟨X, 0, none⟩), s6, .int .i64 qk, .pointer (some ⟨T0, 0, none⟩), .pointer (some ⟨MB, 0, none⟩), s10, s11, s12, s13, s14, s15, s16, s17, s18, s19, s20, s21, s22, s23, s24, s25, s26, s27, s28, s29, s30, s31, s32, s33, s34, s35, s36, s37, s38, undef, undef, undef, undef, undef, undef, undef, undef, undef, undef, undef, undef, undef, undef, undef, undef, s55, s56, s57, s58, s59, s60, s61, s62, s63, s64, s65, s66, s67, s68, s69, s70, s71, s72, s73, s74, s75, s76, s77, s78, s79, s80, s81, s82, s83, s84, s85, s86, s87, s88, s89, s90, s91, s92, s93, s94, s95, s96, s97, s98, s99, s100, s101, s102, s103, s104, s105, s106, s107, s108, s109, s110, s111, s112, s113, s114, s115, s116, s117, s118, s119, s120, s121, s122, s123, s124, s125, s126, s127, s128, s129, s130, s131, s132, s133, s134, s135, s136, s137, s138, s139, s140, s141, s142, s143, s144, s145, s146, s147, s148, s149, s150, s151, s152, s153, s154, s155, s156, s157, s158, s159, s160, s161, s162, s163, s164, s165, s166, s167, s168, s169, s170, s171, s172, s173, s174, s175, s176, s177, s178, s179, s180, s181, s182, s183, s184, s185, s186, s187, s188, s189, s190, s191, s192, s193, s194, s195, s196, s197, s198, s199, s200, s201, s202, s203, s204, s205, s206, s207, s208, s209, s210, s211, s212, s213, s214, s215, s216, s217, s218, s219], []⟩ W0 := by
  conv => arg 2; whnf
  refine wp_region_vars (by kernel_rfl) 17 (by kernel_rfl) (fun u => ⟨#[s0, s1, s2, .pointer (some ⟨P, 0, none⟩), .pointer (some ⟨C, 0, none⟩), .pointer (some ⟨X, 0, none⟩), s6, .int .i64 qk, .pointer (some ⟨T0, 0, none⟩), .pointer (some ⟨MB, 0, none⟩), s10, s11, s12, s13, s14, s15, s16, s17, s18, s19, s20, s21, s22, s23, s24, s25, s26, s27, s28, s29, s30, s31, s32, s33, s34, s35, s36, s37, s38, u 0, u 1, u 2, u 3, u 4, u 5, u 6, u 7, u 8, u 9, u 10, u 11, u 12, u 13, u 14, u 15, s55, s56, s57, s58, s59, s60, s61, s62, s63, s64, s65, s66, s67, s68, s69, s70, s71, s72, s73, s74, s75, s76, s77, s78, s79, s80, s81, s82, s83, s84, s85, s86, s87, s88, s89, s90, s91, s92, s93, s94, s95, s96, s97, s98, s99, s100, s101, s102, s103, s104, s105, s106, s107, s108, s109, s110, s111, s112, s113, s114, s115, s116, s117, s118, s119, s120, s121, s122, s123, s124, s125, s126, s127, s128, s129, s130, s131, s132, s133, s134, s135, s136, s137, s138, s139, s140, s141, s142, s143, s144, s145, s146, s147, s148, s149, s150, s151, s152, s153, s154, s155, s156, s157, s158, s159, s160, s161, s162, s163, s164, s165, s166, s167, s168, s169, s170, s171, s172, s173, s174, s175, s176, s177, s178, s179, s180, s181, s182, s183, s184, s185, s186, s187, s188, s189, s190, s191, s192, s193, s194, s195, s196, s197, s198, s199, s200, s201, s202, s203, s204, s205, s206, s207, s208, s209, s210, s211, s212, s213, s214, s215, s216, s217, s218, s219], []⟩) (fun i => undef) (fun W => Hid (S W)) (lm6F MB P T0 X C b o xb xo qk p c k x t m yk y0 y1 y2 y3 y4 y5 n0 n1 n2 n3) (N) [⟨none, MB, 16, 36, #[.int .i64 m.pull, .int .i64 m.flow, .int .i64 m.rise, .int .i64 m.spr, .int .i64 m.dra, .int .i64 m.cold], #[.int .i64 (amV t.pull k.phi n0), .int .i64 m.flow, .int .i64 m.rise, .int .i64 m.spr, .int .i64 m.dra, .int .i64 m.cold]⟩] [] [16] rfl rfl (by kernel_rfl) (hon _ _ HL.out (Below.refl _ _).drew) ?hV (fun W h => hN W h.out) ?hg (by decide +kernel) (fun W W' h hb => hon W W' h.out hb) ?hp ?hA ?hP (by decide) (by decide) (by decide) (by decide) (by decide) ?step ?done
  case hV =>
    refine ⟨fun q hq => ⟨fun a e hl => (by cases hl), fun G hG => ?_⟩, fun q hq r hr hne G h1 h2 => ?_⟩
    · simp only [List.mem_cons, List.not_mem_nil, or_false] at hq
      rcases hq with rfl
      · obtain ⟨rfl, -⟩ := hG; exact hk0.drew
    · simp only [List.mem_cons, List.not_mem_nil, or_false] at hq
      rcases hq with rfl
      · simp only [List.mem_cons, List.not_mem_nil, or_false] at hr
        rcases hr with rfl
        · exact absurd rfl hne
  case hg =>
    intro q hq ha
    simp only [List.mem_cons, List.not_mem_nil, or_false] at hq
    rcases hq with rfl
    · exact hg0
  case hp =>
    intro W W' G h hg hG
    refine hput W W' G h.out hg ?_
    rcases hG with h1 | ⟨q, hq, ha, h2⟩
    · exact .inl h1
    · simp only [List.mem_cons, List.not_mem_nil, or_false] at hq
      rcases hq with rfl
      · exact .inr h2
  case hA =>
    intro q hq i ha
    simp only [List.mem_cons, List.not_mem_nil, or_false] at hq
    rcases hq with rfl
    · cases ha
  case hP =>
    intro q hq u W hB hd G hG hb K hK
    have HK := Lib.hid hK; clear hK
    simp only [List.mem_cons, List.not_mem_nil, or_false] at hq
    rcases hq with rfl
    · have hGe : G = MB := hG.1
      rw [hGe] at hb HK
      clear hG hGe
      replace hd : ∀ j ∈ waits .any _ 16, j ∉ [] → j ∉ [16] → lm6F MB P T0 X C b o xb xo qk p c k x t m yk y0 y1 y2 y3 y4 y5 n0 n1 n2 n3 j (u j) := hd
      have e15 : u 15 = .pointer (some ⟨MB, 0, none⟩) := hd 15 (by decide +kernel) (by decide) (by decide)
      have e14 : u 14 = .int .i64 (amV t.pull k.phi n0) := hd 14 (by decide +kernel) (by decide) (by decide)
      replace hb : Blk W MB 36 #[.int .i64 m.pull, .int .i64 m.flow, .int .i64 m.rise, .int .i64 m.spr, .int .i64 m.dra, .int .i64 m.cold] := hb
      have hb2 := (hb).set_ 0 (.int .i64 (amV t.pull k.phi n0))
      simp only [List.setIfInBounds_toArray, List.set_cons_zero] at hb2
      have hg2 : W.grownBy _ (some (MB)) := grown_more (World.grownBy.refl W (some MB)) 0 (.int .i64 (amV t.pull k.phi n0))
      have fz0 := hb.frozen 0
      have cl0 := hb.cell 0
      have gl := hb.lt
      have HB2 := Lib.hid hb2
      have HG2 := Lib.hid hg2
      clear hb2 hg2
      refine wpOp_of rfl (by rfl) ?_
      go_simp
      exact k_of (HK.out _ HB2.out HG2.out) (by rw [← u1_eq e15, ← u1_eq e14] <;> kernel_rfl)
  case step =>
    iterate 17 (refine all_succ ?_ ?_)
    · exact all_zero
    · intro _ _ u W hB hv hd K hK
      have HK := Lib.hid hK; clear hK
      refine wpOp_of rfl (by rfl) ?_
      go_simp
      exact k_of (HK.out (.pointer (some ⟨T0, 0, none⟩)) _ rfl hB (Below.refl _ _)) (by kernel_rfl)
    · intro _ _ u W hB hv hd K hK
      have HK := Lib.hid hK; clear hK
      have e0 : u 0 = .pointer (some ⟨T0, 0, none⟩) := hd 0 (by decide +kernel) (by decide) (by decide)
      refine wpOp_of rfl (by rfl) ?_
      have z0 := (hT W hB.out).cell 0
      go_simp
      exact k_of (HK.out (.int .i64 t.pull) _ rfl hB (Below.refl _ _)) (by rw [← u1_eq e0]; kernel_rfl)
    · intro _ _ u W hB hv hd K hK
      have HK := Lib.hid hK; clear hK
      refine wpOp_of rfl (by rfl) ?_
      go_simp
      exact k_of (HK.out (.pointer (some ⟨P, 0, none⟩)) _ rfl hB (Below.refl _ _)) (by kernel_rfl)
    · intro _ _ u W hB hv hd K hK
      have HK := Lib.hid hK; clear hK
      have e2 : u 2 = .pointer (some ⟨P, 0, none⟩) := hd 2 (by decide +kernel) (by decide) (by decide)
      refine wpOp_of rfl (by rfl) ?_
      have z0 := (hP W hB.out).cell 0
      go_simp
      exact k_of (HK.out (.slice (some ⟨b, o, none⟩) p.s.ks.length p.kc) _ rfl hB (Below.refl _ _)) (by rw [← u1_eq e2]; kernel_rfl)
    · intro _ _ u W hB hv hd K hK
      have HK := Lib.hid hK; clear hK
      refine wpOp_of rfl (by rfl) ?_
      go_simp
      exact k_of (HK.out (.int .i64 qk) _ rfl hB (Below.refl _ _)) (by kernel_rfl)
    · intro _ _ u W hB hv hd K hK
      have HK := Lib.hid hK; clear hK
      have e3 : u 3 = .slice (some ⟨b, o, none⟩) p.s.ks.length p.kc := hd 3 (by decide +kernel) (by decide) (by decide)
      have e4 : u 4 = .int .i64 qk := hd 4 (by decide +kernel) (by decide) (by decide)
      refine wpOp_of rfl (by rfl) ?_
      go_simp
      exact k_of (HK.out (.pointer (some ⟨b, o + qk.toNat * 4, none⟩)) _ rfl hB (Below.refl _ _)) (by rw [← u1_eq e3, ← u1_eq e4]; kernel_rfl)
    · intro _ _ u W hB hv hd K hK
      have HK := Lib.hid hK; clear hK
      have e5 : u 5 = .pointer (some ⟨b, o + qk.toNat * 4, none⟩) := hd 5 (by decide +kernel) (by decide) (by decide)
      refine wpOp_of rfl (by rfl) ?_
      go_simp
      exact k_of (HK.out (.pointer (some ⟨b, o + qk.toNat * 4 + 2, none⟩)) _ rfl hB (Below.refl _ _)) (by rw [← u1_eq e5]; kernel_rfl)
    · intro _ _ u W hB hv hd K hK
      have HK := Lib.hid hK; clear hK
      have e6 : u 6 = .pointer (some ⟨b, o + qk.toNat * 4 + 2, none⟩) := hd 6 (by decide +kernel) (by decide) (by decide)
      refine wpOp_of rfl (by rfl) ?_
      go_simp
      exact k_of (HK.out (.pointer (some ⟨b, o + qk.toNat * 4 + 3, none⟩)) _ rfl hB (Below.refl _ _)) (by rw [← u1_eq e6]; kernel_rfl)
    · intro _ _ u W hB hv hd K hK
      have HK := Lib.hid hK; clear hK
      have e7 : u 7 = .pointer (some ⟨b, o + qk.toNat * 4 + 3, none⟩) := hd 7 (by decide +kernel) (by decide) (by decide)
      refine wpOp_of rfl (by rfl) ?_
      have z0 := hk W hB.out
      go_simp
      exact k_of (HK.out (.int .i64 k.phi) _ rfl hB (Below.refl _ _)) (by rw [← u1_eq e7]; kernel_rfl)
    · intro _ _ u W hB hv hd K hK
      have HK := Lib.hid hK; clear hK
      have e1 : u 1 = .int .i64 t.pull := hd 1 (by decide +kernel) (by decide) (by decide)
      have e8 : u 8 = .int .i64 k.phi := hd 8 (by decide +kernel) (by decide) (by decide)
      refine wpOp_of rfl (by rfl) ?_
      go_simp
      refine (lspan_any (t.pull) (k.phi) _).mono ?_
      rintro e w' ⟨rfl, hb⟩
      exact k_of (HK.out (.agg #[.int .i64 t.pull, .int .i64 k.phi]) _ rfl (hon _ _ hB.out hb) hb) (by rw [← u1_eq e1, ← u1_eq e8]; kernel_rfl)
    · intro _ _ u W hB hv hd K hK
      have HK := Lib.hid hK; clear hK
      refine wpOp_of rfl (by rfl) ?_
      go_simp
      exact k_of (HK.out (.pointer (some ⟨X, 7, none⟩)) _ rfl hB (Below.refl _ _)) (by kernel_rfl)
    · intro _ _ u W hB hv hd K hK
      have HK := Lib.hid hK; clear hK
      have e10 : u 10 = .pointer (some ⟨X, 7, none⟩) := hd 10 (by decide +kernel) (by decide) (by decide)
      refine wpOp_of rfl (by rfl) ?_
      go_simp
      exact k_of (HK.out (.pointer (some ⟨X, 7, none⟩)) _ rfl hB (Below.refl _ _)) (by rw [← u1_eq e10]; kernel_rfl)
    · intro _ _ u W hB hv hd K hK
      have HK := Lib.hid hK; clear hK
      have e11 : u 11 = .pointer (some ⟨X, 7, none⟩) := hd 11 (by decide +kernel) (by decide) (by decide)
      refine wpOp_of rfl (by rfl) ?_
      have z7 := (hX W hB.out).cell 7
      go_simp
      exact k_of (HK.out (.int .u16 n0) _ rfl hB (Below.refl _ _)) (by rw [← u1_eq e11]; kernel_rfl)
    · intro _ _ u W hB hv hd K hK
      have HK := Lib.hid hK; clear hK
      have e12 : u 12 = .int .u16 n0 := hd 12 (by decide +kernel) (by decide) (by decide)
      refine wpOp_of rfl (by rfl) ?_
      go_simp
      exact k_of (HK.out (.int .i64 n0) _ rfl hB (Below.refl _ _)) (by rw [← u1_eq e12]; kernel_rfl)
    · intro _ _ u W hB hv hd K hK
      have HK := Lib.hid hK; clear hK
      have e9 : u 9 = .agg #[.int .i64 t.pull, .int .i64 k.phi] := hd 9 (by decide +kernel) (by decide) (by decide)
      have e13 : u 13 = .int .i64 n0 := hd 13 (by decide +kernel) (by decide) (by decide)
      refine wpOp_of rfl (by rfl) ?_
      go_simp
      refine (lamong_any (by omega) (by omega) (by omega) hn _).mono ?_
      rintro e w' ⟨rfl, hb⟩
      exact k_of (HK.out (.int .i64 (amV t.pull k.phi n0)) _ rfl (hon _ _ hB.out hb) hb) (by rw [← u1_eq e9, ← u1_eq e13]; kernel_rfl)
    · intro _ _ u W hB hv hd K hK
      have HK := Lib.hid hK; clear hK
      refine wpOp_of rfl (by rfl) ?_
      go_simp
      exact k_of (HK.out (.pointer (some ⟨MB, 0, none⟩)) _ rfl hB (Below.refl _ _)) (by kernel_rfl)
    · intro _ ha; exact absurd (by decide) ha
  case done =>
    intro L u W hL hB hd hV
    have hv0 := hV.ok ⟨none, MB, 16, 36, #[.int .i64 m.pull, .int .i64 m.flow, .int .i64 m.rise, .int .i64 m.spr, .int .i64 m.dra, .int .i64 m.cold], #[.int .i64 (amV t.pull k.phi n0), .int .i64 m.flow, .int .i64 m.rise, .int .i64 m.spr, .int .i64 m.dra, .int .i64 m.cold]⟩ (by simp)
    have hB0 := hv0.2 (MB) ⟨rfl, hg0⟩
    rw [if_pos (hL 16 (by decide))] at hB0
    exact k_of (HQ.out u W hB.out hB0) (rfl)

/-- What each operation leaves. -/
def lm7F (MB P T0 X C _b _o xb xo : Nat) (_qk : Int) (p : Sp) (c : Cd) (_k : Wk) (x : Wx) (t _m : Tu) (_yk _y0 _y1 _y2 _y3 _y4 _y5 _n0 n1 _n2 _n3 : Int) : Nat → Value → Prop
  | 0, v => v = .pointer (some ⟨T0, 1, none⟩)
  | 1, v => v = .int .i64 t.flow
  | 2, v => v = .pointer (some ⟨P, 1, none⟩)
  | 3, v => v = .slice (some ⟨xb, xo, none⟩) p.s.xs.length p.xc
  | 4, v => v = .pointer (some ⟨C, 0, none⟩)
  | 5, v => v = .int .i64 c.wax
  | 6, v => v = .pointer (some ⟨xb, xo + c.wax.toNat * 8, none⟩)
  | 7, v => v = .pointer (some ⟨xb, xo + c.wax.toNat * 8 + 1, none⟩)
  | 8, v => v = .pointer (some ⟨xb, xo + c.wax.toNat * 8 + 2, none⟩)
  | 9, v => v = .int .i64 x.fhi
  | 10, v => v = .agg #[.int .i64 t.flow, .int .i64 x.fhi]
  | 11, v => v = .pointer (some ⟨X, 7, none⟩)
  | 12, v => v = .pointer (some ⟨X, 8, none⟩)
  | 13, v => v = .int .u16 n1
  | 14, v => v = .int .i64 n1
  | 15, v => v = .int .i64 (amV t.flow x.fhi n1)
  | 16, v => v = .pointer (some ⟨MB, 1, none⟩)
  | 17, _ => True
  | _, _ => True
set_option maxRecDepth 100000 in
set_option maxHeartbeats 8000000 in
theorem lm7_region {N MB P T0 X C b o xb xo : Nat} {qk : Int} {p : Sp} {c : Cd} {k : Wk} {x : Wx} {t m : Tu} {yk y0 y1 y2 y3 y4 y5 n0 n1 n2 n3 : Int} {S : World → Prop} (_h0 : 0 ≤ qk) (_hq : qk < p.s.ks.length) (hw0 : 0 ≤ c.wax) (hwl : c.wax < p.s.xs.length) (ht : -1000 ≤ t.flow ∧ t.flow ≤ x.fhi ∧ x.fhi ≤ 2000) (hn : 0 ≤ n1 ∧ n1 ≤ 65535) (hwn : IntKind.i64.wrap n1 = n1) (hP : ∀ W, S W → Blk W P 27 #[.slice (some ⟨b, o, none⟩) p.s.ks.length p.kc, .slice (some ⟨xb, xo, none⟩) p.s.xs.length p.xc, .int .i64 p.s.flo, .int .i64 p.s.fhi, .int .i64 p.s.plo, .int .i64 p.s.phi]) (hC : ∀ W, S W → Blk W C 34 #[.int .i64 c.wax, .int .i64 c.dia, .int .i64 c.dra, .int .i64 c.clo, .int .i64 c.chi]) (hT : ∀ W, S W → Blk W T0 36 #[.int .i64 t.pull, .int .i64 t.flow, .int .i64 t.rise, .int .i64 t.spr, .int .i64 t.dra, .int .i64 t.cold]) (hX : ∀ W, S W → Blk W X 65 #[.int .u8 yk, .int .u16 y0, .int .u16 y1, .int .u16 y2, .int .u16 y3, .int .u16 y4, .int .u16 y5, .int .u16 n0, .int .u16 n1, .int .u16 n2, .int .u16 n3]) (_hk : ∀ W, S W → W.cell? ⟨b, o + qk.toNat * 4 + 3, none⟩ = some (.int .i64 k.phi)) (hx : ∀ W, S W → W.cell? ⟨xb, xo + c.wax.toNat * 8 + 2, none⟩ = some (.int .i64 x.fhi)) (hon : ∀ W W', S W → Below W.heap.size W W' → S W') (hput : ∀ W W' G, S W → W.grownBy W' (some G) → (N ≤ G ∨ G = MB) → S W') (hN : ∀ W, S W → N ≤ W.heap.size) {Q : Exit → Act → World → Prop} {s0 s1 s2 s6 s10 s11 s12 s13 s14 s15 s16 s17 s18 s19 s20 s21 s22 s23 s24 s25 s26 s27 s28 s29 s30 s31 s32 s33 s34 s35 s36 s37 s38 s39 s40 s41 s42 s43 s44 s45 s46 s47 s48 s49 s50 s51 s52 s53 s54 s72 s73 s74 s75 s76 s77 s78 s79 s80 s81 s82 s83 s84 s85 s86 s87 s88 s89 s90 s91 s92 s93 s94 s95 s96 s97 s98 s99 s100 s101 s102 s103 s104 s105 s106 s107 s108 s109 s110 s111 s112 s113 s114 s115 s116 s117 s118 s119 s120 s121 s122 s123 s124 s125 s126 s127 s128 s129 s130 s131 s132 s133 s134 s135 s136 s137 s138 s139 s140 s141 s142 s143 s144 s145 s146 s147 s148 s149 s150 s151 s152 s153 s154 s155 s156 s157 s158 s159 s160 s161 s162 s163 s164 s165 s166 s167 s168 s169 s170 s171 s172 s173 s174 s175 s176 s177 s178 s179 s180 s181 s182 s183 s184 s185 s186 s187 s188 s189 s190 s191 s192 s193 s194 s195 s196 s197 s198 s199 s200 s201 s202 s203 s204 s205 s206 s207 s208 s209 s210 s211 s212 s213 s214 s215 s216 s217 s218 s219 : Value} {W0 : World} (HL : Hid (S W0)) (hk0 : Blk W0 (MB) 36 #[.int .i64 m.pull, .int .i64 m.flow, .int .i64 m.rise, .int .i64 m.spr, .int .i64 m.dra, .int .i64 m.cold]) (hg0 : MB < N)
    (HQ : Hid (∀ (u : Nat → Value) (W : World), S W → Blk W (MB) 36 #[.int .i64 m.pull, .int .i64 (amV t.flow x.fhi n1), .int .i64 m.rise, .int .i64 m.spr, .int .i64 m.dra, .int .i64 m.cold] → Q .normal ⟨#[s0, s1, s2, .pointer (some ⟨P, 0, none⟩), .pointer (some ⟨C, 0, none⟩), .pointer (some ⟨X, 0, none⟩), s6, .int .i64 qk, .pointer (some ⟨T0, 0, none⟩), .pointer (some ⟨MB, 0, none⟩), s10, s11, s12, s13, s14, s15, s16, s17, s18, s19, s20, s21, s22, s23, s24, s25, s26, s27, s28, s29, s30, s31, s32, s33, s34, s35, s36, s37, s38, s39, s40, s41, s42, s43, s44, s45, s46, s47, s48, s49, s50, s51, s52, s53, s54, u 0, u 1, u 2, u 3, u 4, u 5, u 6, u 7, u 8, u 9, u 10, u 11, u 12, u 13, u 14, u 15, u 16, s72, s73, s74, s75, s76, s77, s78, s79, s80, s81, s82, s83, s84, s85, s86, s87, s88, s89, s90, s91, s92, s93, s94, s95, s96, s97, s98, s99, s100, s101, s102, s103, s104, s105, s106, s107, s108, s109, s110, s111, s112, s113, s114, s115, s116, s117, s118, s119, s120, s121, s122, s123, s124, s125, s126, s127, s128, s129, s130, s131, s132, s133, s134, s135, s136, s137, s138, s139, s140, s141, s142, s143, s144, s145, s146, s147, s148, s149, s150, s151, s152, s153, s154, s155, s156, s157, s158, s159, s160, s161, s162, s163, s164, s165, s166, s167, s168, s169, s170, s171, s172, s173, s174, s175, s176, s177, s178, s179, s180, s181, s182, s183, s184, s185, s186, s187, s188, s189, s190, s191, s192, s193, s194, s195, s196, s197, s198, s199, s200, s201, s202, s203, s204, s205, s206, s207, s208, s209, s210, s211, s212, s213, s214, s215, s216, s217, s218, s219], []⟩ W)) :
    Code.wp Try.prog ((Try.f12.body.bind (regionAt 7)).getD .skip) Q ⟨#[s0, s1, s2, .pointer (some ⟨P, 0, none⟩), .pointer (some ⟨C, 0, none⟩), .pointer (some ⟨X, 0, none⟩), s6, .int .i64 qk, .pointer (some ⟨T0, 0, none⟩), .pointer (some ⟨MB, 0, none⟩), s10, s11, s12, s13, s14, s15, s16, s17, s18, s19, s20, s21, s22, s23, s24, s25, s26, s27, s28, s29, s30, s31, s32, s33, s34, s35, s36, s37, s38, s39, s40, s41, s42, s43, s44, s45, s46, s47, s48, s49, s50, s51, s52, s53, s54, undef, undef, undef, undef, undef, undef, undef, undef, undef, undef, undef, undef, undef, undef, undef, undef, undef, s72, s73, s74, s75, s76, s77, s78, s79, s80, s81, s82, s83, s84, s85, s86, s87, s88, s89, s90, s91, s92, s93, s94, s95, s96, s97, s98, s99, s100, s101, s102, s103, s104, s105, s106, s107, s108, s109, s110, s111, s112, s113, s114, s115, s116, s117, s118, s119, s120, s121, s122, s123, s124, s125, s126, s127, s128, s129, s130, s131, s132, s133, s134, s135, s136, s137, s138, s139, s140, s141, s142, s143, s144, s145, s146, s147, s148, s149, s150, s151, s152, s153, s154, s155, s156, s157, s158, s159, s160, s161, s162, s163, s164, s165, s166, s167, s168, s169, s170, s171, s172, s173, s174, s175, s176, s177, s178, s179, s180, s181, s182, s183, s184, s185, s186, s187, s188, s189, s190, s191, s192, s193, s194, s195, s196, s197, s198, s199, s200, s201, s202, s203, s204, s205, s206, s207, s208, s209, s210, s211, s212, s213, s214, s215, s216, s217, s218, s219], []⟩ W0 := by
  conv => arg 2; whnf
  refine wp_region_vars (by kernel_rfl) 18 (by kernel_rfl) (fun u => ⟨#[s0, s1, s2, .pointer (some ⟨P, 0, none⟩), .pointer (some ⟨C, 0, none⟩), .pointer (some ⟨X, 0, none⟩), s6, .int .i64 qk, .pointer (some ⟨T0, 0, none⟩), .pointer (some ⟨MB, 0, none⟩), s10, s11, s12, s13, s14, s15, s16, s17, s18, s19, s20, s21, s22, s23, s24, s25, s26, s27, s28, s29, s30, s31, s32, s33, s34, s35, s36, s37, s38, s39, s40, s41, s42, s43, s44, s45, s46, s47, s48, s49, s50, s51, s52, s53, s54, u 0, u 1, u 2, u 3, u 4, u 5, u 6, u 7, u 8, u 9, u 10, u 11, u 12, u 13, u 14, u 15, u 16, s72, s73, s74, s75, s76, s77, s78, s79, s80, s81, s82, s83, s84, s85, s86, s87, s88, s89, s90, s91, s92, s93, s94, s95, s96, s97, s98, s99, s100, s101, s102, s103, s104, s105, s106, s107, s108, s109, s110, s111, s112, s113, s114, s115, s116, s117, s118, s119, s120, s121, s122, s123, s124, s125, s126, s127, s128, s129, s130, s131, s132, s133, s134, s135, s136, s137, s138, s139, s140, s141, s142, s143, s144, s145, s146, s147, s148, s149, s150, s151, s152, s153, s154, s155, s156, s157, s158, s159, s160, s161, s162, s163, s164, s165, s166, s167, s168, s169, s170, s171, s172, s173, s174, s175, s176, s177, s178, s179, s180, s181, s182, s183, s184, s185, s186, s187, s188, s189, s190, s191, s192, s193, s194, s195, s196, s197, s198, s199, s200, s201, s202, s203, s204, s205, s206, s207, s208, s209, s210, s211, s212, s213, s214, s215, s216, s217, s218, s219], []⟩) (fun i => undef) (fun W => Hid (S W)) (lm7F MB P T0 X C b o xb xo qk p c k x t m yk y0 y1 y2 y3 y4 y5 n0 n1 n2 n3) (N) [⟨none, MB, 17, 36, #[.int .i64 m.pull, .int .i64 m.flow, .int .i64 m.rise, .int .i64 m.spr, .int .i64 m.dra, .int .i64 m.cold], #[.int .i64 m.pull, .int .i64 (amV t.flow x.fhi n1), .int .i64 m.rise, .int .i64 m.spr, .int .i64 m.dra, .int .i64 m.cold]⟩] [] [17] rfl rfl (by kernel_rfl) (hon _ _ HL.out (Below.refl _ _).drew) ?hV (fun W h => hN W h.out) ?hg (by decide +kernel) (fun W W' h hb => hon W W' h.out hb) ?hp ?hA ?hP (by decide) (by decide) (by decide) (by decide) (by decide) ?step ?done
  case hV =>
    refine ⟨fun q hq => ⟨fun a e hl => (by cases hl), fun G hG => ?_⟩, fun q hq r hr hne G h1 h2 => ?_⟩
    · simp only [List.mem_cons, List.not_mem_nil, or_false] at hq
      rcases hq with rfl
      · obtain ⟨rfl, -⟩ := hG; exact hk0.drew
    · simp only [List.mem_cons, List.not_mem_nil, or_false] at hq
      rcases hq with rfl
      · simp only [List.mem_cons, List.not_mem_nil, or_false] at hr
        rcases hr with rfl
        · exact absurd rfl hne
  case hg =>
    intro q hq ha
    simp only [List.mem_cons, List.not_mem_nil, or_false] at hq
    rcases hq with rfl
    · exact hg0
  case hp =>
    intro W W' G h hg hG
    refine hput W W' G h.out hg ?_
    rcases hG with h1 | ⟨q, hq, ha, h2⟩
    · exact .inl h1
    · simp only [List.mem_cons, List.not_mem_nil, or_false] at hq
      rcases hq with rfl
      · exact .inr h2
  case hA =>
    intro q hq i ha
    simp only [List.mem_cons, List.not_mem_nil, or_false] at hq
    rcases hq with rfl
    · cases ha
  case hP =>
    intro q hq u W hB hd G hG hb K hK
    have HK := Lib.hid hK; clear hK
    simp only [List.mem_cons, List.not_mem_nil, or_false] at hq
    rcases hq with rfl
    · have hGe : G = MB := hG.1
      rw [hGe] at hb HK
      clear hG hGe
      replace hd : ∀ j ∈ waits .any _ 17, j ∉ [] → j ∉ [17] → lm7F MB P T0 X C b o xb xo qk p c k x t m yk y0 y1 y2 y3 y4 y5 n0 n1 n2 n3 j (u j) := hd
      have e16 : u 16 = .pointer (some ⟨MB, 1, none⟩) := hd 16 (by decide +kernel) (by decide) (by decide)
      have e15 : u 15 = .int .i64 (amV t.flow x.fhi n1) := hd 15 (by decide +kernel) (by decide) (by decide)
      replace hb : Blk W MB 36 #[.int .i64 m.pull, .int .i64 m.flow, .int .i64 m.rise, .int .i64 m.spr, .int .i64 m.dra, .int .i64 m.cold] := hb
      have hb2 := (hb).set_ 1 (.int .i64 (amV t.flow x.fhi n1))
      simp only [List.setIfInBounds_toArray, List.set_cons_zero, List.set_cons_succ] at hb2
      have hg2 : W.grownBy _ (some (MB)) := grown_more (World.grownBy.refl W (some MB)) 1 (.int .i64 (amV t.flow x.fhi n1))
      have fz1 := hb.frozen 1
      have cl1 := hb.cell 1
      have gl := hb.lt
      have HB2 := Lib.hid hb2
      have HG2 := Lib.hid hg2
      clear hb2 hg2
      refine wpOp_of rfl (by rfl) ?_
      go_simp
      exact k_of (HK.out _ HB2.out HG2.out) (by rw [← u1_eq e16, ← u1_eq e15] <;> kernel_rfl)
  case step =>
    iterate 18 (refine all_succ ?_ ?_)
    · exact all_zero
    · intro _ _ u W hB hv hd K hK
      have HK := Lib.hid hK; clear hK
      refine wpOp_of rfl (by rfl) ?_
      go_simp
      exact k_of (HK.out (.pointer (some ⟨T0, 1, none⟩)) _ rfl hB (Below.refl _ _)) (by kernel_rfl)
    · intro _ _ u W hB hv hd K hK
      have HK := Lib.hid hK; clear hK
      have e0 : u 0 = .pointer (some ⟨T0, 1, none⟩) := hd 0 (by decide +kernel) (by decide) (by decide)
      refine wpOp_of rfl (by rfl) ?_
      have z1 := (hT W hB.out).cell 1
      go_simp
      exact k_of (HK.out (.int .i64 t.flow) _ rfl hB (Below.refl _ _)) (by rw [← u1_eq e0]; kernel_rfl)
    · intro _ _ u W hB hv hd K hK
      have HK := Lib.hid hK; clear hK
      refine wpOp_of rfl (by rfl) ?_
      go_simp
      exact k_of (HK.out (.pointer (some ⟨P, 1, none⟩)) _ rfl hB (Below.refl _ _)) (by kernel_rfl)
    · intro _ _ u W hB hv hd K hK
      have HK := Lib.hid hK; clear hK
      have e2 : u 2 = .pointer (some ⟨P, 1, none⟩) := hd 2 (by decide +kernel) (by decide) (by decide)
      refine wpOp_of rfl (by rfl) ?_
      have z1 := (hP W hB.out).cell 1
      go_simp
      exact k_of (HK.out (.slice (some ⟨xb, xo, none⟩) p.s.xs.length p.xc) _ rfl hB (Below.refl _ _)) (by rw [← u1_eq e2]; kernel_rfl)
    · intro _ _ u W hB hv hd K hK
      have HK := Lib.hid hK; clear hK
      refine wpOp_of rfl (by rfl) ?_
      go_simp
      exact k_of (HK.out (.pointer (some ⟨C, 0, none⟩)) _ rfl hB (Below.refl _ _)) (by kernel_rfl)
    · intro _ _ u W hB hv hd K hK
      have HK := Lib.hid hK; clear hK
      have e4 : u 4 = .pointer (some ⟨C, 0, none⟩) := hd 4 (by decide +kernel) (by decide) (by decide)
      refine wpOp_of rfl (by rfl) ?_
      have z0 := (hC W hB.out).cell 0
      go_simp
      exact k_of (HK.out (.int .i64 c.wax) _ rfl hB (Below.refl _ _)) (by rw [← u1_eq e4]; kernel_rfl)
    · intro _ _ u W hB hv hd K hK
      have HK := Lib.hid hK; clear hK
      have e3 : u 3 = .slice (some ⟨xb, xo, none⟩) p.s.xs.length p.xc := hd 3 (by decide +kernel) (by decide) (by decide)
      have e5 : u 5 = .int .i64 c.wax := hd 5 (by decide +kernel) (by decide) (by decide)
      refine wpOp_of rfl (by rfl) ?_
      go_simp
      exact k_of (HK.out (.pointer (some ⟨xb, xo + c.wax.toNat * 8, none⟩)) _ rfl hB (Below.refl _ _)) (by rw [← u1_eq e3, ← u1_eq e5]; kernel_rfl)
    · intro _ _ u W hB hv hd K hK
      have HK := Lib.hid hK; clear hK
      have e6 : u 6 = .pointer (some ⟨xb, xo + c.wax.toNat * 8, none⟩) := hd 6 (by decide +kernel) (by decide) (by decide)
      refine wpOp_of rfl (by rfl) ?_
      go_simp
      exact k_of (HK.out (.pointer (some ⟨xb, xo + c.wax.toNat * 8 + 1, none⟩)) _ rfl hB (Below.refl _ _)) (by rw [← u1_eq e6]; kernel_rfl)
    · intro _ _ u W hB hv hd K hK
      have HK := Lib.hid hK; clear hK
      have e7 : u 7 = .pointer (some ⟨xb, xo + c.wax.toNat * 8 + 1, none⟩) := hd 7 (by decide +kernel) (by decide) (by decide)
      refine wpOp_of rfl (by rfl) ?_
      go_simp
      exact k_of (HK.out (.pointer (some ⟨xb, xo + c.wax.toNat * 8 + 2, none⟩)) _ rfl hB (Below.refl _ _)) (by rw [← u1_eq e7]; kernel_rfl)
    · intro _ _ u W hB hv hd K hK
      have HK := Lib.hid hK; clear hK
      have e8 : u 8 = .pointer (some ⟨xb, xo + c.wax.toNat * 8 + 2, none⟩) := hd 8 (by decide +kernel) (by decide) (by decide)
      refine wpOp_of rfl (by rfl) ?_
      have z0 := hx W hB.out
      go_simp
      exact k_of (HK.out (.int .i64 x.fhi) _ rfl hB (Below.refl _ _)) (by rw [← u1_eq e8]; kernel_rfl)
    · intro _ _ u W hB hv hd K hK
      have HK := Lib.hid hK; clear hK
      have e1 : u 1 = .int .i64 t.flow := hd 1 (by decide +kernel) (by decide) (by decide)
      have e9 : u 9 = .int .i64 x.fhi := hd 9 (by decide +kernel) (by decide) (by decide)
      refine wpOp_of rfl (by rfl) ?_
      go_simp
      refine (lspan_any (t.flow) (x.fhi) _).mono ?_
      rintro e w' ⟨rfl, hb⟩
      exact k_of (HK.out (.agg #[.int .i64 t.flow, .int .i64 x.fhi]) _ rfl (hon _ _ hB.out hb) hb) (by rw [← u1_eq e1, ← u1_eq e9]; kernel_rfl)
    · intro _ _ u W hB hv hd K hK
      have HK := Lib.hid hK; clear hK
      refine wpOp_of rfl (by rfl) ?_
      go_simp
      exact k_of (HK.out (.pointer (some ⟨X, 7, none⟩)) _ rfl hB (Below.refl _ _)) (by kernel_rfl)
    · intro _ _ u W hB hv hd K hK
      have HK := Lib.hid hK; clear hK
      have e11 : u 11 = .pointer (some ⟨X, 7, none⟩) := hd 11 (by decide +kernel) (by decide) (by decide)
      refine wpOp_of rfl (by rfl) ?_
      go_simp
      exact k_of (HK.out (.pointer (some ⟨X, 8, none⟩)) _ rfl hB (Below.refl _ _)) (by rw [← u1_eq e11]; kernel_rfl)
    · intro _ _ u W hB hv hd K hK
      have HK := Lib.hid hK; clear hK
      have e12 : u 12 = .pointer (some ⟨X, 8, none⟩) := hd 12 (by decide +kernel) (by decide) (by decide)
      refine wpOp_of rfl (by rfl) ?_
      have z8 := (hX W hB.out).cell 8
      go_simp
      exact k_of (HK.out (.int .u16 n1) _ rfl hB (Below.refl _ _)) (by rw [← u1_eq e12]; kernel_rfl)
    · intro _ _ u W hB hv hd K hK
      have HK := Lib.hid hK; clear hK
      have e13 : u 13 = .int .u16 n1 := hd 13 (by decide +kernel) (by decide) (by decide)
      refine wpOp_of rfl (by rfl) ?_
      go_simp
      exact k_of (HK.out (.int .i64 n1) _ rfl hB (Below.refl _ _)) (by rw [← u1_eq e13]; kernel_rfl)
    · intro _ _ u W hB hv hd K hK
      have HK := Lib.hid hK; clear hK
      have e10 : u 10 = .agg #[.int .i64 t.flow, .int .i64 x.fhi] := hd 10 (by decide +kernel) (by decide) (by decide)
      have e14 : u 14 = .int .i64 n1 := hd 14 (by decide +kernel) (by decide) (by decide)
      refine wpOp_of rfl (by rfl) ?_
      go_simp
      refine (lamong_any (by omega) (by omega) (by omega) hn _).mono ?_
      rintro e w' ⟨rfl, hb⟩
      exact k_of (HK.out (.int .i64 (amV t.flow x.fhi n1)) _ rfl (hon _ _ hB.out hb) hb) (by rw [← u1_eq e10, ← u1_eq e14]; kernel_rfl)
    · intro _ _ u W hB hv hd K hK
      have HK := Lib.hid hK; clear hK
      refine wpOp_of rfl (by rfl) ?_
      go_simp
      exact k_of (HK.out (.pointer (some ⟨MB, 1, none⟩)) _ rfl hB (Below.refl _ _)) (by kernel_rfl)
    · intro _ ha; exact absurd (by decide) ha
  case done =>
    intro L u W hL hB hd hV
    have hv0 := hV.ok ⟨none, MB, 17, 36, #[.int .i64 m.pull, .int .i64 m.flow, .int .i64 m.rise, .int .i64 m.spr, .int .i64 m.dra, .int .i64 m.cold], #[.int .i64 m.pull, .int .i64 (amV t.flow x.fhi n1), .int .i64 m.rise, .int .i64 m.spr, .int .i64 m.dra, .int .i64 m.cold]⟩ (by simp)
    have hB0 := hv0.2 (MB) ⟨rfl, hg0⟩
    rw [if_pos (hL 17 (by decide))] at hB0
    exact k_of (HQ.out u W hB.out hB0) (rfl)

/-- What each operation leaves. -/
def lm8F (MB _P T0 X C _b _o _xb _xo : Nat) (_qk : Int) (_p : Sp) (c : Cd) (_k : Wk) (_x : Wx) (t _m : Tu) (_yk _y0 _y1 _y2 _y3 _y4 _y5 _n0 _n1 n2 _n3 : Int) : Nat → Value → Prop
  | 0, v => v = .pointer (some ⟨T0, 4, none⟩)
  | 1, v => v = .int .i64 t.dra
  | 2, v => v = .pointer (some ⟨C, 2, none⟩)
  | 3, v => v = .int .i64 c.dra
  | 4, v => v = .agg #[.int .i64 t.dra, .int .i64 c.dra]
  | 5, v => v = .pointer (some ⟨X, 7, none⟩)
  | 6, v => v = .pointer (some ⟨X, 9, none⟩)
  | 7, v => v = .int .u16 n2
  | 8, v => v = .int .i64 n2
  | 9, v => v = .int .i64 (amV t.dra c.dra n2)
  | 10, v => v = .pointer (some ⟨MB, 4, none⟩)
  | 11, _ => True
  | _, _ => True
set_option maxRecDepth 100000 in
set_option maxHeartbeats 8000000 in
theorem lm8_region {N MB P T0 X C b o xb xo : Nat} {qk : Int} {p : Sp} {c : Cd} {k : Wk} {x : Wx} {t m : Tu} {yk y0 y1 y2 y3 y4 y5 n0 n1 n2 n3 : Int} {S : World → Prop} (_h0 : 0 ≤ qk) (_hq : qk < p.s.ks.length) (_hw0 : 0 ≤ c.wax) (_hwl : c.wax < p.s.xs.length) (ht : -1000 ≤ t.dra ∧ t.dra ≤ c.dra ∧ c.dra ≤ 2000) (hn : 0 ≤ n2 ∧ n2 ≤ 65535) (hwn : IntKind.i64.wrap n2 = n2) (_hP : ∀ W, S W → Blk W P 27 #[.slice (some ⟨b, o, none⟩) p.s.ks.length p.kc, .slice (some ⟨xb, xo, none⟩) p.s.xs.length p.xc, .int .i64 p.s.flo, .int .i64 p.s.fhi, .int .i64 p.s.plo, .int .i64 p.s.phi]) (hC : ∀ W, S W → Blk W C 34 #[.int .i64 c.wax, .int .i64 c.dia, .int .i64 c.dra, .int .i64 c.clo, .int .i64 c.chi]) (hT : ∀ W, S W → Blk W T0 36 #[.int .i64 t.pull, .int .i64 t.flow, .int .i64 t.rise, .int .i64 t.spr, .int .i64 t.dra, .int .i64 t.cold]) (hX : ∀ W, S W → Blk W X 65 #[.int .u8 yk, .int .u16 y0, .int .u16 y1, .int .u16 y2, .int .u16 y3, .int .u16 y4, .int .u16 y5, .int .u16 n0, .int .u16 n1, .int .u16 n2, .int .u16 n3]) (_hk : ∀ W, S W → W.cell? ⟨b, o + qk.toNat * 4 + 3, none⟩ = some (.int .i64 k.phi)) (_hx : ∀ W, S W → W.cell? ⟨xb, xo + c.wax.toNat * 8 + 2, none⟩ = some (.int .i64 x.fhi)) (hon : ∀ W W', S W → Below W.heap.size W W' → S W') (hput : ∀ W W' G, S W → W.grownBy W' (some G) → (N ≤ G ∨ G = MB) → S W') (hN : ∀ W, S W → N ≤ W.heap.size) {Q : Exit → Act → World → Prop} {s0 s1 s2 s6 s10 s11 s12 s13 s14 s15 s16 s17 s18 s19 s20 s21 s22 s23 s24 s25 s26 s27 s28 s29 s30 s31 s32 s33 s34 s35 s36 s37 s38 s39 s40 s41 s42 s43 s44 s45 s46 s47 s48 s49 s50 s51 s52 s53 s54 s55 s56 s57 s58 s59 s60 s61 s62 s63 s64 s65 s66 s67 s68 s69 s70 s71 s83 s84 s85 s86 s87 s88 s89 s90 s91 s92 s93 s94 s95 s96 s97 s98 s99 s100 s101 s102 s103 s104 s105 s106 s107 s108 s109 s110 s111 s112 s113 s114 s115 s116 s117 s118 s119 s120 s121 s122 s123 s124 s125 s126 s127 s128 s129 s130 s131 s132 s133 s134 s135 s136 s137 s138 s139 s140 s141 s142 s143 s144 s145 s146 s147 s148 s149 s150 s151 s152 s153 s154 s155 s156 s157 s158 s159 s160 s161 s162 s163 s164 s165 s166 s167 s168 s169 s170 s171 s172 s173 s174 s175 s176 s177 s178 s179 s180 s181 s182 s183 s184 s185 s186 s187 s188 s189 s190 s191 s192 s193 s194 s195 s196 s197 s198 s199 s200 s201 s202 s203 s204 s205 s206 s207 s208 s209 s210 s211 s212 s213 s214 s215 s216 s217 s218 s219 : Value} {W0 : World} (HL : Hid (S W0)) (hk0 : Blk W0 (MB) 36 #[.int .i64 m.pull, .int .i64 m.flow, .int .i64 m.rise, .int .i64 m.spr, .int .i64 m.dra, .int .i64 m.cold]) (hg0 : MB < N)
    (HQ : Hid (∀ (u : Nat → Value) (W : World), S W → Blk W (MB) 36 #[.int .i64 m.pull, .int .i64 m.flow, .int .i64 m.rise, .int .i64 m.spr, .int .i64 (amV t.dra c.dra n2), .int .i64 m.cold] → Q .normal ⟨#[s0, s1, s2, .pointer (some ⟨P, 0, none⟩), .pointer (some ⟨C, 0, none⟩), .pointer (some ⟨X, 0, none⟩), s6, .int .i64 qk, .pointer (some ⟨T0, 0, none⟩), .pointer (some ⟨MB, 0, none⟩), s10, s11, s12, s13, s14, s15, s16, s17, s18, s19, s20, s21, s22, s23, s24, s25, s26, s27, s28, s29, s30, s31, s32, s33, s34, s35, s36, s37, s38, s39, s40, s41, s42, s43, s44, s45, s46, s47, s48, s49, s50, s51, s52, s53, s54, s55, s56, s57, s58, s59, s60, s61, s62, s63, s64, s65, s66, s67, s68, s69, s70, s71, u 0, u 1, u 2, u 3, u 4, u 5, u 6, u 7, u 8, u 9, u 10, s83, s84, s85, s86, s87, s88, s89, s90, s91, s92, s93, s94, s95, s96, s97, s98, s99, s100, s101, s102, s103, s104, s105, s106, s107, s108, s109, s110, s111, s112, s113, s114, s115, s116, s117, s118, s119, s120, s121, s122, s123, s124, s125, s126, s127, s128, s129, s130, s131, s132, s133, s134, s135, s136, s137, s138, s139, s140, s141, s142, s143, s144, s145, s146, s147, s148, s149, s150, s151, s152, s153, s154, s155, s156, s157, s158, s159, s160, s161, s162, s163, s164, s165, s166, s167, s168, s169, s170, s171, s172, s173, s174, s175, s176, s177, s178, s179, s180, s181, s182, s183, s184, s185, s186, s187, s188, s189, s190, s191, s192, s193, s194, s195, s196, s197, s198, s199, s200, s201, s202, s203, s204, s205, s206, s207, s208, s209, s210, s211, s212, s213, s214, s215, s216, s217, s218, s219], []⟩ W)) :
    Code.wp Try.prog ((Try.f12.body.bind (regionAt 8)).getD .skip) Q ⟨#[s0, s1, s2, .pointer (some ⟨P, 0, none⟩), .pointer (some ⟨C, 0, none⟩), .pointer (some ⟨X, 0, none⟩), s6, .int .i64 qk, .pointer (some ⟨T0, 0, none⟩), .pointer (some ⟨MB, 0, none⟩), s10, s11, s12, s13, s14, s15, s16, s17, s18, s19, s20, s21, s22, s23, s24, s25, s26, s27, s28, s29, s30, s31, s32, s33, s34, s35, s36, s37, s38, s39, s40, s41, s42, s43, s44, s45, s46, s47, s48, s49, s50, s51, s52, s53, s54, s55, s56, s57, s58, s59, s60, s61, s62, s63, s64, s65, s66, s67, s68, s69, s70, s71, undef, undef, undef, undef, undef, undef, undef, undef, undef, undef, undef, s83, s84, s85, s86, s87, s88, s89, s90, s91, s92, s93, s94, s95, s96, s97, s98, s99, s100, s101, s102, s103, s104, s105, s106, s107, s108, s109, s110, s111, s112, s113, s114, s115, s116, s117, s118, s119, s120, s121, s122, s123, s124, s125, s126, s127, s128, s129, s130, s131, s132, s133, s134, s135, s136, s137, s138, s139, s140, s141, s142, s143, s144, s145, s146, s147, s148, s149, s150, s151, s152, s153, s154, s155, s156, s157, s158, s159, s160, s161, s162, s163, s164, s165, s166, s167, s168, s169, s170, s171, s172, s173, s174, s175, s176, s177, s178, s179, s180, s181, s182, s183, s184, s185, s186, s187, s188, s189, s190, s191, s192, s193, s194, s195, s196, s197, s198, s199, s200, s201, s202, s203, s204, s205, s206, s207, s208, s209, s210, s211, s212, s213, s214, s215, s216, s217, s218, s219], []⟩ W0 := by
  conv => arg 2; whnf
  refine wp_region_vars (by kernel_rfl) 12 (by kernel_rfl) (fun u => ⟨#[s0, s1, s2, .pointer (some ⟨P, 0, none⟩), .pointer (some ⟨C, 0, none⟩), .pointer (some ⟨X, 0, none⟩), s6, .int .i64 qk, .pointer (some ⟨T0, 0, none⟩), .pointer (some ⟨MB, 0, none⟩), s10, s11, s12, s13, s14, s15, s16, s17, s18, s19, s20, s21, s22, s23, s24, s25, s26, s27, s28, s29, s30, s31, s32, s33, s34, s35, s36, s37, s38, s39, s40, s41, s42, s43, s44, s45, s46, s47, s48, s49, s50, s51, s52, s53, s54, s55, s56, s57, s58, s59, s60, s61, s62, s63, s64, s65, s66, s67, s68, s69, s70, s71, u 0, u 1, u 2, u 3, u 4, u 5, u 6, u 7, u 8, u 9, u 10, s83, s84, s85, s86, s87, s88, s89, s90, s91, s92, s93, s94, s95, s96, s97, s98, s99, s100, s101, s102, s103, s104, s105, s106, s107, s108, s109, s110, s111, s112, s113, s114, s115, s116, s117, s118, s119, s120, s121, s122, s123, s124, s125, s126, s127, s128, s129, s130, s131, s132, s133, s134, s135, s136, s137, s138, s139, s140, s141, s142, s143, s144, s145, s146, s147, s148, s149, s150, s151, s152, s153, s154, s155, s156, s157, s158, s159, s160, s161, s162, s163, s164, s165, s166, s167, s168, s169, s170, s171, s172, s173, s174, s175, s176, s177, s178, s179, s180, s181, s182, s183, s184, s185, s186, s187, s188, s189, s190, s191, s192, s193, s194, s195, s196, s197, s198, s199, s200, s201, s202, s203, s204, s205, s206, s207, s208, s209, s210, s211, s212, s213, s214, s215, s216, s217, s218, s219], []⟩) (fun i => undef) (fun W => Hid (S W)) (lm8F MB P T0 X C b o xb xo qk p c k x t m yk y0 y1 y2 y3 y4 y5 n0 n1 n2 n3) (N) [⟨none, MB, 11, 36, #[.int .i64 m.pull, .int .i64 m.flow, .int .i64 m.rise, .int .i64 m.spr, .int .i64 m.dra, .int .i64 m.cold], #[.int .i64 m.pull, .int .i64 m.flow, .int .i64 m.rise, .int .i64 m.spr, .int .i64 (amV t.dra c.dra n2), .int .i64 m.cold]⟩] [] [11] rfl rfl (by kernel_rfl) (hon _ _ HL.out (Below.refl _ _).drew) ?hV (fun W h => hN W h.out) ?hg (by decide +kernel) (fun W W' h hb => hon W W' h.out hb) ?hp ?hA ?hP (by decide) (by decide) (by decide) (by decide) (by decide) ?step ?done
  case hV =>
    refine ⟨fun q hq => ⟨fun a e hl => (by cases hl), fun G hG => ?_⟩, fun q hq r hr hne G h1 h2 => ?_⟩
    · simp only [List.mem_cons, List.not_mem_nil, or_false] at hq
      rcases hq with rfl
      · obtain ⟨rfl, -⟩ := hG; exact hk0.drew
    · simp only [List.mem_cons, List.not_mem_nil, or_false] at hq
      rcases hq with rfl
      · simp only [List.mem_cons, List.not_mem_nil, or_false] at hr
        rcases hr with rfl
        · exact absurd rfl hne
  case hg =>
    intro q hq ha
    simp only [List.mem_cons, List.not_mem_nil, or_false] at hq
    rcases hq with rfl
    · exact hg0
  case hp =>
    intro W W' G h hg hG
    refine hput W W' G h.out hg ?_
    rcases hG with h1 | ⟨q, hq, ha, h2⟩
    · exact .inl h1
    · simp only [List.mem_cons, List.not_mem_nil, or_false] at hq
      rcases hq with rfl
      · exact .inr h2
  case hA =>
    intro q hq i ha
    simp only [List.mem_cons, List.not_mem_nil, or_false] at hq
    rcases hq with rfl
    · cases ha
  case hP =>
    intro q hq u W hB hd G hG hb K hK
    have HK := Lib.hid hK; clear hK
    simp only [List.mem_cons, List.not_mem_nil, or_false] at hq
    rcases hq with rfl
    · have hGe : G = MB := hG.1
      rw [hGe] at hb HK
      clear hG hGe
      replace hd : ∀ j ∈ waits .any _ 11, j ∉ [] → j ∉ [11] → lm8F MB P T0 X C b o xb xo qk p c k x t m yk y0 y1 y2 y3 y4 y5 n0 n1 n2 n3 j (u j) := hd
      have e10 : u 10 = .pointer (some ⟨MB, 4, none⟩) := hd 10 (by decide +kernel) (by decide) (by decide)
      have e9 : u 9 = .int .i64 (amV t.dra c.dra n2) := hd 9 (by decide +kernel) (by decide) (by decide)
      replace hb : Blk W MB 36 #[.int .i64 m.pull, .int .i64 m.flow, .int .i64 m.rise, .int .i64 m.spr, .int .i64 m.dra, .int .i64 m.cold] := hb
      have hb2 := (hb).set_ 4 (.int .i64 (amV t.dra c.dra n2))
      simp only [List.setIfInBounds_toArray, List.set_cons_zero, List.set_cons_succ] at hb2
      have hg2 : W.grownBy _ (some (MB)) := grown_more (World.grownBy.refl W (some MB)) 4 (.int .i64 (amV t.dra c.dra n2))
      have fz4 := hb.frozen 4
      have cl4 := hb.cell 4
      have gl := hb.lt
      have HB2 := Lib.hid hb2
      have HG2 := Lib.hid hg2
      clear hb2 hg2
      refine wpOp_of rfl (by rfl) ?_
      go_simp
      exact k_of (HK.out _ HB2.out HG2.out) (by rw [← u1_eq e10, ← u1_eq e9] <;> kernel_rfl)
  case step =>
    iterate 12 (refine all_succ ?_ ?_)
    · exact all_zero
    · intro _ _ u W hB hv hd K hK
      have HK := Lib.hid hK; clear hK
      refine wpOp_of rfl (by rfl) ?_
      go_simp
      exact k_of (HK.out (.pointer (some ⟨T0, 4, none⟩)) _ rfl hB (Below.refl _ _)) (by kernel_rfl)
    · intro _ _ u W hB hv hd K hK
      have HK := Lib.hid hK; clear hK
      have e0 : u 0 = .pointer (some ⟨T0, 4, none⟩) := hd 0 (by decide +kernel) (by decide) (by decide)
      refine wpOp_of rfl (by rfl) ?_
      have z4 := (hT W hB.out).cell 4
      go_simp
      exact k_of (HK.out (.int .i64 t.dra) _ rfl hB (Below.refl _ _)) (by rw [← u1_eq e0]; kernel_rfl)
    · intro _ _ u W hB hv hd K hK
      have HK := Lib.hid hK; clear hK
      refine wpOp_of rfl (by rfl) ?_
      go_simp
      exact k_of (HK.out (.pointer (some ⟨C, 2, none⟩)) _ rfl hB (Below.refl _ _)) (by kernel_rfl)
    · intro _ _ u W hB hv hd K hK
      have HK := Lib.hid hK; clear hK
      have e2 : u 2 = .pointer (some ⟨C, 2, none⟩) := hd 2 (by decide +kernel) (by decide) (by decide)
      refine wpOp_of rfl (by rfl) ?_
      have z2 := (hC W hB.out).cell 2
      go_simp
      exact k_of (HK.out (.int .i64 c.dra) _ rfl hB (Below.refl _ _)) (by rw [← u1_eq e2]; kernel_rfl)
    · intro _ _ u W hB hv hd K hK
      have HK := Lib.hid hK; clear hK
      have e1 : u 1 = .int .i64 t.dra := hd 1 (by decide +kernel) (by decide) (by decide)
      have e3 : u 3 = .int .i64 c.dra := hd 3 (by decide +kernel) (by decide) (by decide)
      refine wpOp_of rfl (by rfl) ?_
      go_simp
      refine (lspan_any (t.dra) (c.dra) _).mono ?_
      rintro e w' ⟨rfl, hb⟩
      exact k_of (HK.out (.agg #[.int .i64 t.dra, .int .i64 c.dra]) _ rfl (hon _ _ hB.out hb) hb) (by rw [← u1_eq e1, ← u1_eq e3]; kernel_rfl)
    · intro _ _ u W hB hv hd K hK
      have HK := Lib.hid hK; clear hK
      refine wpOp_of rfl (by rfl) ?_
      go_simp
      exact k_of (HK.out (.pointer (some ⟨X, 7, none⟩)) _ rfl hB (Below.refl _ _)) (by kernel_rfl)
    · intro _ _ u W hB hv hd K hK
      have HK := Lib.hid hK; clear hK
      have e5 : u 5 = .pointer (some ⟨X, 7, none⟩) := hd 5 (by decide +kernel) (by decide) (by decide)
      refine wpOp_of rfl (by rfl) ?_
      go_simp
      exact k_of (HK.out (.pointer (some ⟨X, 9, none⟩)) _ rfl hB (Below.refl _ _)) (by rw [← u1_eq e5]; kernel_rfl)
    · intro _ _ u W hB hv hd K hK
      have HK := Lib.hid hK; clear hK
      have e6 : u 6 = .pointer (some ⟨X, 9, none⟩) := hd 6 (by decide +kernel) (by decide) (by decide)
      refine wpOp_of rfl (by rfl) ?_
      have z9 := (hX W hB.out).cell 9
      go_simp
      exact k_of (HK.out (.int .u16 n2) _ rfl hB (Below.refl _ _)) (by rw [← u1_eq e6]; kernel_rfl)
    · intro _ _ u W hB hv hd K hK
      have HK := Lib.hid hK; clear hK
      have e7 : u 7 = .int .u16 n2 := hd 7 (by decide +kernel) (by decide) (by decide)
      refine wpOp_of rfl (by rfl) ?_
      go_simp
      exact k_of (HK.out (.int .i64 n2) _ rfl hB (Below.refl _ _)) (by rw [← u1_eq e7]; kernel_rfl)
    · intro _ _ u W hB hv hd K hK
      have HK := Lib.hid hK; clear hK
      have e4 : u 4 = .agg #[.int .i64 t.dra, .int .i64 c.dra] := hd 4 (by decide +kernel) (by decide) (by decide)
      have e8 : u 8 = .int .i64 n2 := hd 8 (by decide +kernel) (by decide) (by decide)
      refine wpOp_of rfl (by rfl) ?_
      go_simp
      refine (lamong_any (by omega) (by omega) (by omega) hn _).mono ?_
      rintro e w' ⟨rfl, hb⟩
      exact k_of (HK.out (.int .i64 (amV t.dra c.dra n2)) _ rfl (hon _ _ hB.out hb) hb) (by rw [← u1_eq e4, ← u1_eq e8]; kernel_rfl)
    · intro _ _ u W hB hv hd K hK
      have HK := Lib.hid hK; clear hK
      refine wpOp_of rfl (by rfl) ?_
      go_simp
      exact k_of (HK.out (.pointer (some ⟨MB, 4, none⟩)) _ rfl hB (Below.refl _ _)) (by kernel_rfl)
    · intro _ ha; exact absurd (by decide) ha
  case done =>
    intro L u W hL hB hd hV
    have hv0 := hV.ok ⟨none, MB, 11, 36, #[.int .i64 m.pull, .int .i64 m.flow, .int .i64 m.rise, .int .i64 m.spr, .int .i64 m.dra, .int .i64 m.cold], #[.int .i64 m.pull, .int .i64 m.flow, .int .i64 m.rise, .int .i64 m.spr, .int .i64 (amV t.dra c.dra n2), .int .i64 m.cold]⟩ (by simp)
    have hB0 := hv0.2 (MB) ⟨rfl, hg0⟩
    rw [if_pos (hL 11 (by decide))] at hB0
    exact k_of (HQ.out u W hB.out hB0) (rfl)

/-- What each operation leaves. -/
def lm10F (MB _P T0 X C _b _o _xb _xo : Nat) (_qk : Int) (_p : Sp) (c : Cd) (_k : Wk) (_x : Wx) (t _m : Tu) (_yk _y0 _y1 _y2 _y3 _y4 _y5 _n0 _n1 _n2 n3 : Int) : Nat → Value → Prop
  | 0, v => v = .pointer (some ⟨T0, 5, none⟩)
  | 1, v => v = .int .i64 t.cold
  | 2, v => v = .pointer (some ⟨C, 3, none⟩)
  | 3, v => v = .pointer (some ⟨C, 4, none⟩)
  | 4, v => v = .int .i64 c.chi
  | 5, v => v = .agg #[.int .i64 t.cold, .int .i64 c.chi]
  | 6, v => v = .pointer (some ⟨X, 7, none⟩)
  | 7, v => v = .pointer (some ⟨X, 10, none⟩)
  | 8, v => v = .int .u16 n3
  | 9, v => v = .int .i64 n3
  | 10, v => v = .int .i64 (amV t.cold c.chi n3)
  | 11, v => v = .pointer (some ⟨MB, 5, none⟩)
  | 12, _ => True
  | _, _ => True
set_option maxRecDepth 100000 in
set_option maxHeartbeats 8000000 in
theorem lm10_region {N MB P T0 X C b o xb xo : Nat} {qk : Int} {p : Sp} {c : Cd} {k : Wk} {x : Wx} {t m : Tu} {yk y0 y1 y2 y3 y4 y5 n0 n1 n2 n3 : Int} {S : World → Prop} (_h0 : 0 ≤ qk) (_hq : qk < p.s.ks.length) (_hw0 : 0 ≤ c.wax) (_hwl : c.wax < p.s.xs.length) (ht : -1000 ≤ t.cold ∧ t.cold ≤ c.chi ∧ c.chi ≤ 2000) (hn : 0 ≤ n3 ∧ n3 ≤ 65535) (hwn : IntKind.i64.wrap n3 = n3) (_hP : ∀ W, S W → Blk W P 27 #[.slice (some ⟨b, o, none⟩) p.s.ks.length p.kc, .slice (some ⟨xb, xo, none⟩) p.s.xs.length p.xc, .int .i64 p.s.flo, .int .i64 p.s.fhi, .int .i64 p.s.plo, .int .i64 p.s.phi]) (hC : ∀ W, S W → Blk W C 34 #[.int .i64 c.wax, .int .i64 c.dia, .int .i64 c.dra, .int .i64 c.clo, .int .i64 c.chi]) (hT : ∀ W, S W → Blk W T0 36 #[.int .i64 t.pull, .int .i64 t.flow, .int .i64 t.rise, .int .i64 t.spr, .int .i64 t.dra, .int .i64 t.cold]) (hX : ∀ W, S W → Blk W X 65 #[.int .u8 yk, .int .u16 y0, .int .u16 y1, .int .u16 y2, .int .u16 y3, .int .u16 y4, .int .u16 y5, .int .u16 n0, .int .u16 n1, .int .u16 n2, .int .u16 n3]) (_hk : ∀ W, S W → W.cell? ⟨b, o + qk.toNat * 4 + 3, none⟩ = some (.int .i64 k.phi)) (_hx : ∀ W, S W → W.cell? ⟨xb, xo + c.wax.toNat * 8 + 2, none⟩ = some (.int .i64 x.fhi)) (hon : ∀ W W', S W → Below W.heap.size W W' → S W') (hput : ∀ W W' G, S W → W.grownBy W' (some G) → (N ≤ G ∨ G = MB) → S W') (hN : ∀ W, S W → N ≤ W.heap.size) {Q : Exit → Act → World → Prop} {s0 s1 s2 s6 s9 s11 s12 s13 s14 s15 s16 s17 s18 s19 s20 s21 s22 s23 s24 s25 s26 s27 s28 s29 s30 s31 s32 s33 s34 s35 s36 s37 s38 s39 s40 s41 s42 s43 s44 s45 s46 s47 s48 s49 s50 s51 s52 s53 s54 s55 s56 s57 s58 s59 s60 s61 s62 s63 s64 s65 s66 s67 s68 s69 s70 s71 s72 s73 s74 s75 s76 s77 s78 s79 s80 s81 s82 s83 s96 s97 s98 s99 s100 s101 s102 s103 s104 s105 s106 s107 s108 s109 s110 s111 s112 s113 s114 s115 s116 s117 s118 s119 s120 s121 s122 s123 s124 s125 s126 s127 s128 s129 s130 s131 s132 s133 s134 s135 s136 s137 s138 s139 s140 s141 s142 s143 s144 s145 s146 s147 s148 s149 s150 s151 s152 s153 s154 s155 s156 s157 s158 s159 s160 s161 s162 s163 s164 s165 s166 s167 s168 s169 s170 s171 s172 s173 s174 s175 s176 s177 s178 s179 s180 s181 s182 s183 s184 s185 s186 s187 s188 s189 s190 s191 s192 s193 s194 s195 s196 s197 s198 s199 s200 s201 s202 s203 s204 s205 s206 s207 s208 s209 s210 s211 s212 s213 s214 s215 s216 s217 s218 s219 : Value} {W0 : World} (HL : Hid (S W0)) (hk0 : Blk W0 (MB) 36 #[.int .i64 m.pull, .int .i64 m.flow, .int .i64 m.rise, .int .i64 m.spr, .int .i64 m.dra, .int .i64 m.cold]) (hg0 : MB < N)
    (HQ : Hid (∀ (u : Nat → Value) (W : World), S W → Blk W (MB) 36 #[.int .i64 m.pull, .int .i64 m.flow, .int .i64 m.rise, .int .i64 m.spr, .int .i64 m.dra, .int .i64 (amV t.cold c.chi n3)] → Q .normal ⟨#[s0, s1, s2, .pointer (some ⟨P, 0, none⟩), .pointer (some ⟨C, 0, none⟩), .pointer (some ⟨X, 0, none⟩), s6, .int .i64 qk, .pointer (some ⟨T0, 0, none⟩), s9, .pointer (some ⟨MB, 0, none⟩), s11, s12, s13, s14, s15, s16, s17, s18, s19, s20, s21, s22, s23, s24, s25, s26, s27, s28, s29, s30, s31, s32, s33, s34, s35, s36, s37, s38, s39, s40, s41, s42, s43, s44, s45, s46, s47, s48, s49, s50, s51, s52, s53, s54, s55, s56, s57, s58, s59, s60, s61, s62, s63, s64, s65, s66, s67, s68, s69, s70, s71, s72, s73, s74, s75, s76, s77, s78, s79, s80, s81, s82, s83, u 0, u 1, u 2, u 3, u 4, u 5, u 6, u 7, u 8, u 9, u 10, u 11, s96, s97, s98, s99, s100, s101, s102, s103, s104, s105, s106, s107, s108, s109, s110, s111, s112, s113, s114, s115, s116, s117, s118, s119, s120, s121, s122, s123, s124, s125, s126, s127, s128, s129, s130, s131, s132, s133, s134, s135, s136, s137, s138, s139, s140, s141, s142, s143, s144, s145, s146, s147, s148, s149, s150, s151, s152, s153, s154, s155, s156, s157, s158, s159, s160, s161, s162, s163, s164, s165, s166, s167, s168, s169, s170, s171, s172, s173, s174, s175, s176, s177, s178, s179, s180, s181, s182, s183, s184, s185, s186, s187, s188, s189, s190, s191, s192, s193, s194, s195, s196, s197, s198, s199, s200, s201, s202, s203, s204, s205, s206, s207, s208, s209, s210, s211, s212, s213, s214, s215, s216, s217, s218, s219], []⟩ W)) :
    Code.wp Try.prog ((Try.f12.body.bind (regionAt 10)).getD .skip) Q ⟨#[s0, s1, s2, .pointer (some ⟨P, 0, none⟩), .pointer (some ⟨C, 0, none⟩), .pointer (some ⟨X, 0, none⟩), s6, .int .i64 qk, .pointer (some ⟨T0, 0, none⟩), s9, .pointer (some ⟨MB, 0, none⟩), s11, s12, s13, s14, s15, s16, s17, s18, s19, s20, s21, s22, s23, s24, s25, s26, s27, s28, s29, s30, s31, s32, s33, s34, s35, s36, s37, s38, s39, s40, s41, s42, s43, s44, s45, s46, s47, s48, s49, s50, s51, s52, s53, s54, s55, s56, s57, s58, s59, s60, s61, s62, s63, s64, s65, s66, s67, s68, s69, s70, s71, s72, s73, s74, s75, s76, s77, s78, s79, s80, s81, s82, s83, undef, undef, undef, undef, undef, undef, undef, undef, undef, undef, undef, undef, s96, s97, s98, s99, s100, s101, s102, s103, s104, s105, s106, s107, s108, s109, s110, s111, s112, s113, s114, s115, s116, s117, s118, s119, s120, s121, s122, s123, s124, s125, s126, s127, s128, s129, s130, s131, s132, s133, s134, s135, s136, s137, s138, s139, s140, s141, s142, s143, s144, s145, s146, s147, s148, s149, s150, s151, s152, s153, s154, s155, s156, s157, s158, s159, s160, s161, s162, s163, s164, s165, s166, s167, s168, s169, s170, s171, s172, s173, s174, s175, s176, s177, s178, s179, s180, s181, s182, s183, s184, s185, s186, s187, s188, s189, s190, s191, s192, s193, s194, s195, s196, s197, s198, s199, s200, s201, s202, s203, s204, s205, s206, s207, s208, s209, s210, s211, s212, s213, s214, s215, s216, s217, s218, s219], []⟩ W0 := by
  conv => arg 2; whnf
  refine wp_region_vars (by kernel_rfl) 13 (by kernel_rfl) (fun u => ⟨#[s0, s1, s2, .pointer (some ⟨P, 0, none⟩), .pointer (some ⟨C, 0, none⟩), .pointer (some ⟨X, 0, none⟩), s6, .int .i64 qk, .pointer (some ⟨T0, 0, none⟩), s9, .pointer (some ⟨MB, 0, none⟩), s11, s12, s13, s14, s15, s16, s17, s18, s19, s20, s21, s22, s23, s24, s25, s26, s27, s28, s29, s30, s31, s32, s33, s34, s35, s36, s37, s38, s39, s40, s41, s42, s43, s44, s45, s46, s47, s48, s49, s50, s51, s52, s53, s54, s55, s56, s57, s58, s59, s60, s61, s62, s63, s64, s65, s66, s67, s68, s69, s70, s71, s72, s73, s74, s75, s76, s77, s78, s79, s80, s81, s82, s83, u 0, u 1, u 2, u 3, u 4, u 5, u 6, u 7, u 8, u 9, u 10, u 11, s96, s97, s98, s99, s100, s101, s102, s103, s104, s105, s106, s107, s108, s109, s110, s111, s112, s113, s114, s115, s116, s117, s118, s119, s120, s121, s122, s123, s124, s125, s126, s127, s128, s129, s130, s131, s132, s133, s134, s135, s136, s137, s138, s139, s140, s141, s142, s143, s144, s145, s146, s147, s148, s149, s150, s151, s152, s153, s154, s155, s156, s157, s158, s159, s160, s161, s162, s163, s164, s165, s166, s167, s168, s169, s170, s171, s172, s173, s174, s175, s176, s177, s178, s179, s180, s181, s182, s183, s184, s185, s186, s187, s188, s189, s190, s191, s192, s193, s194, s195, s196, s197, s198, s199, s200, s201, s202, s203, s204, s205, s206, s207, s208, s209, s210, s211, s212, s213, s214, s215, s216, s217, s218, s219], []⟩) (fun i => undef) (fun W => Hid (S W)) (lm10F MB P T0 X C b o xb xo qk p c k x t m yk y0 y1 y2 y3 y4 y5 n0 n1 n2 n3) (N) [⟨none, MB, 12, 36, #[.int .i64 m.pull, .int .i64 m.flow, .int .i64 m.rise, .int .i64 m.spr, .int .i64 m.dra, .int .i64 m.cold], #[.int .i64 m.pull, .int .i64 m.flow, .int .i64 m.rise, .int .i64 m.spr, .int .i64 m.dra, .int .i64 (amV t.cold c.chi n3)]⟩] [] [12] rfl rfl (by kernel_rfl) (hon _ _ HL.out (Below.refl _ _).drew) ?hV (fun W h => hN W h.out) ?hg (by decide +kernel) (fun W W' h hb => hon W W' h.out hb) ?hp ?hA ?hP (by decide) (by decide) (by decide) (by decide) (by decide) ?step ?done
  case hV =>
    refine ⟨fun q hq => ⟨fun a e hl => (by cases hl), fun G hG => ?_⟩, fun q hq r hr hne G h1 h2 => ?_⟩
    · simp only [List.mem_cons, List.not_mem_nil, or_false] at hq
      rcases hq with rfl
      · obtain ⟨rfl, -⟩ := hG; exact hk0.drew
    · simp only [List.mem_cons, List.not_mem_nil, or_false] at hq
      rcases hq with rfl
      · simp only [List.mem_cons, List.not_mem_nil, or_false] at hr
        rcases hr with rfl
        · exact absurd rfl hne
  case hg =>
    intro q hq ha
    simp only [List.mem_cons, List.not_mem_nil, or_false] at hq
    rcases hq with rfl
    · exact hg0
  case hp =>
    intro W W' G h hg hG
    refine hput W W' G h.out hg ?_
    rcases hG with h1 | ⟨q, hq, ha, h2⟩
    · exact .inl h1
    · simp only [List.mem_cons, List.not_mem_nil, or_false] at hq
      rcases hq with rfl
      · exact .inr h2
  case hA =>
    intro q hq i ha
    simp only [List.mem_cons, List.not_mem_nil, or_false] at hq
    rcases hq with rfl
    · cases ha
  case hP =>
    intro q hq u W hB hd G hG hb K hK
    have HK := Lib.hid hK; clear hK
    simp only [List.mem_cons, List.not_mem_nil, or_false] at hq
    rcases hq with rfl
    · have hGe : G = MB := hG.1
      rw [hGe] at hb HK
      clear hG hGe
      replace hd : ∀ j ∈ waits .any _ 12, j ∉ [] → j ∉ [12] → lm10F MB P T0 X C b o xb xo qk p c k x t m yk y0 y1 y2 y3 y4 y5 n0 n1 n2 n3 j (u j) := hd
      have e11 : u 11 = .pointer (some ⟨MB, 5, none⟩) := hd 11 (by decide +kernel) (by decide) (by decide)
      have e10 : u 10 = .int .i64 (amV t.cold c.chi n3) := hd 10 (by decide +kernel) (by decide) (by decide)
      replace hb : Blk W MB 36 #[.int .i64 m.pull, .int .i64 m.flow, .int .i64 m.rise, .int .i64 m.spr, .int .i64 m.dra, .int .i64 m.cold] := hb
      have hb2 := (hb).set_ 5 (.int .i64 (amV t.cold c.chi n3))
      simp only [List.setIfInBounds_toArray, List.set_cons_zero, List.set_cons_succ] at hb2
      have hg2 : W.grownBy _ (some (MB)) := grown_more (World.grownBy.refl W (some MB)) 5 (.int .i64 (amV t.cold c.chi n3))
      have fz5 := hb.frozen 5
      have cl5 := hb.cell 5
      have gl := hb.lt
      have HB2 := Lib.hid hb2
      have HG2 := Lib.hid hg2
      clear hb2 hg2
      refine wpOp_of rfl (by rfl) ?_
      go_simp
      exact k_of (HK.out _ HB2.out HG2.out) (by rw [← u1_eq e11, ← u1_eq e10] <;> kernel_rfl)
  case step =>
    iterate 13 (refine all_succ ?_ ?_)
    · exact all_zero
    · intro _ _ u W hB hv hd K hK
      have HK := Lib.hid hK; clear hK
      refine wpOp_of rfl (by rfl) ?_
      go_simp
      exact k_of (HK.out (.pointer (some ⟨T0, 5, none⟩)) _ rfl hB (Below.refl _ _)) (by kernel_rfl)
    · intro _ _ u W hB hv hd K hK
      have HK := Lib.hid hK; clear hK
      have e0 : u 0 = .pointer (some ⟨T0, 5, none⟩) := hd 0 (by decide +kernel) (by decide) (by decide)
      refine wpOp_of rfl (by rfl) ?_
      have z5 := (hT W hB.out).cell 5
      go_simp
      exact k_of (HK.out (.int .i64 t.cold) _ rfl hB (Below.refl _ _)) (by rw [← u1_eq e0]; kernel_rfl)
    · intro _ _ u W hB hv hd K hK
      have HK := Lib.hid hK; clear hK
      refine wpOp_of rfl (by rfl) ?_
      go_simp
      exact k_of (HK.out (.pointer (some ⟨C, 3, none⟩)) _ rfl hB (Below.refl _ _)) (by kernel_rfl)
    · intro _ _ u W hB hv hd K hK
      have HK := Lib.hid hK; clear hK
      have e2 : u 2 = .pointer (some ⟨C, 3, none⟩) := hd 2 (by decide +kernel) (by decide) (by decide)
      refine wpOp_of rfl (by rfl) ?_
      go_simp
      exact k_of (HK.out (.pointer (some ⟨C, 4, none⟩)) _ rfl hB (Below.refl _ _)) (by rw [← u1_eq e2]; kernel_rfl)
    · intro _ _ u W hB hv hd K hK
      have HK := Lib.hid hK; clear hK
      have e3 : u 3 = .pointer (some ⟨C, 4, none⟩) := hd 3 (by decide +kernel) (by decide) (by decide)
      refine wpOp_of rfl (by rfl) ?_
      have z4 := (hC W hB.out).cell 4
      go_simp
      exact k_of (HK.out (.int .i64 c.chi) _ rfl hB (Below.refl _ _)) (by rw [← u1_eq e3]; kernel_rfl)
    · intro _ _ u W hB hv hd K hK
      have HK := Lib.hid hK; clear hK
      have e1 : u 1 = .int .i64 t.cold := hd 1 (by decide +kernel) (by decide) (by decide)
      have e4 : u 4 = .int .i64 c.chi := hd 4 (by decide +kernel) (by decide) (by decide)
      refine wpOp_of rfl (by rfl) ?_
      go_simp
      refine (lspan_any (t.cold) (c.chi) _).mono ?_
      rintro e w' ⟨rfl, hb⟩
      exact k_of (HK.out (.agg #[.int .i64 t.cold, .int .i64 c.chi]) _ rfl (hon _ _ hB.out hb) hb) (by rw [← u1_eq e1, ← u1_eq e4]; kernel_rfl)
    · intro _ _ u W hB hv hd K hK
      have HK := Lib.hid hK; clear hK
      refine wpOp_of rfl (by rfl) ?_
      go_simp
      exact k_of (HK.out (.pointer (some ⟨X, 7, none⟩)) _ rfl hB (Below.refl _ _)) (by kernel_rfl)
    · intro _ _ u W hB hv hd K hK
      have HK := Lib.hid hK; clear hK
      have e6 : u 6 = .pointer (some ⟨X, 7, none⟩) := hd 6 (by decide +kernel) (by decide) (by decide)
      refine wpOp_of rfl (by rfl) ?_
      go_simp
      exact k_of (HK.out (.pointer (some ⟨X, 10, none⟩)) _ rfl hB (Below.refl _ _)) (by rw [← u1_eq e6]; kernel_rfl)
    · intro _ _ u W hB hv hd K hK
      have HK := Lib.hid hK; clear hK
      have e7 : u 7 = .pointer (some ⟨X, 10, none⟩) := hd 7 (by decide +kernel) (by decide) (by decide)
      refine wpOp_of rfl (by rfl) ?_
      have z10 := (hX W hB.out).cell 10
      go_simp
      exact k_of (HK.out (.int .u16 n3) _ rfl hB (Below.refl _ _)) (by rw [← u1_eq e7]; kernel_rfl)
    · intro _ _ u W hB hv hd K hK
      have HK := Lib.hid hK; clear hK
      have e8 : u 8 = .int .u16 n3 := hd 8 (by decide +kernel) (by decide) (by decide)
      refine wpOp_of rfl (by rfl) ?_
      go_simp
      exact k_of (HK.out (.int .i64 n3) _ rfl hB (Below.refl _ _)) (by rw [← u1_eq e8]; kernel_rfl)
    · intro _ _ u W hB hv hd K hK
      have HK := Lib.hid hK; clear hK
      have e5 : u 5 = .agg #[.int .i64 t.cold, .int .i64 c.chi] := hd 5 (by decide +kernel) (by decide) (by decide)
      have e9 : u 9 = .int .i64 n3 := hd 9 (by decide +kernel) (by decide) (by decide)
      refine wpOp_of rfl (by rfl) ?_
      go_simp
      refine (lamong_any (by omega) (by omega) (by omega) hn _).mono ?_
      rintro e w' ⟨rfl, hb⟩
      exact k_of (HK.out (.int .i64 (amV t.cold c.chi n3)) _ rfl (hon _ _ hB.out hb) hb) (by rw [← u1_eq e5, ← u1_eq e9]; kernel_rfl)
    · intro _ _ u W hB hv hd K hK
      have HK := Lib.hid hK; clear hK
      refine wpOp_of rfl (by rfl) ?_
      go_simp
      exact k_of (HK.out (.pointer (some ⟨MB, 5, none⟩)) _ rfl hB (Below.refl _ _)) (by kernel_rfl)
    · intro _ ha; exact absurd (by decide) ha
  case done =>
    intro L u W hL hB hd hV
    have hv0 := hV.ok ⟨none, MB, 12, 36, #[.int .i64 m.pull, .int .i64 m.flow, .int .i64 m.rise, .int .i64 m.spr, .int .i64 m.dra, .int .i64 m.cold], #[.int .i64 m.pull, .int .i64 m.flow, .int .i64 m.rise, .int .i64 m.spr, .int .i64 m.dra, .int .i64 (amV t.cold c.chi n3)]⟩ (by simp)
    have hB0 := hv0.2 (MB) ⟨rfl, hg0⟩
    rw [if_pos (hL 12 (by decide))] at hB0
    exact k_of (HQ.out u W hB.out hB0) (rfl)
end Go.Proofs.Ytkjfommdeljefaa
