/- WickBounds: the law's regions that draw. -/
import Derived.Test.YtkjfommdeljefaaTA
import Derived.Test.YtkjfommdeljefaaT6
import Derived.Test.YtkjfommdeljefaaT1
namespace Go.Proofs.Ytkjfommdeljefaa
open Go.RowKit Go.Shelf Go.Maps
attribute [local go_sem] Oper.semAt_some

/-- What each operation leaves. -/
def lb6F (_P _C X : Nat) (qk : Int) (p : Sp) (c : Cd) (t : Tu) (b : Bn) (_yk y0 y1 y2 y3 y4 y5 _n0 _n1 _n2 _n3 : Int) : Nat → Value → Prop
  | 0, v => v = .agg #[.slice p.ka p.s.ks.length p.kc, .slice p.xa p.s.xs.length p.xc, .int .i64 p.s.flo, .int .i64 p.s.fhi, .int .i64 p.s.plo, .int .i64 p.s.phi]
  | 1, v => v = .int .i64 qk
  | 2, v => v = .agg #[.int .i64 c.wax, .int .i64 c.dia, .int .i64 c.dra, .int .i64 c.clo, .int .i64 c.chi]
  | 3, v => v = .agg #[.slice p.ka p.s.ks.length p.kc, .slice p.xa p.s.xs.length p.xc, .int .i64 p.s.flo, .int .i64 p.s.fhi, .int .i64 p.s.plo, .int .i64 p.s.phi]
  | 4, v => v = .int .i64 qk
  | 5, v => v = .agg #[.int .i64 c.wax, .int .i64 c.dia, .int .i64 c.dra, .int .i64 c.clo, .int .i64 c.chi]
  | 6, v => v = .pointer (some ⟨X, 1, none⟩)
  | 7, v => v = .agg #[.int .u16 y0, .int .u16 y1, .int .u16 y2, .int .u16 y3, .int .u16 y4, .int .u16 y5]
  | 8, v => v = .agg #[.int .i64 t.pull, .int .i64 t.flow, .int .i64 t.rise, .int .i64 t.spr, .int .i64 t.dra, .int .i64 t.cold]
  | 9, v => v = .tuple #[.agg #[.int .i64 b.rate, .int .i64 b.flame, .int .i64 b.pool], .int .i64 0]
  | 10, v => v = .tuple #[.agg #[.int .i64 b.rate, .int .i64 b.flame, .int .i64 b.pool], .int .i64 0]
  | 11, v => v = .agg #[.int .i64 b.rate, .int .i64 b.flame, .int .i64 b.pool]
  | 12, v => v = .int .i64 0
  | 13, _ => True
  | 14, _ => True
  | 15, v => v = .int .i64 0
  | _, _ => True
set_option maxRecDepth 100000 in
set_option maxHeartbeats 8000000 in
theorem lb6_region {P C X N : Nat} {qk : Int} {p : Sp} {c : Cd} {t : Tu} {b : Bn} {yk y0 y1 y2 y3 y4 y5 n0 n1 n2 n3 : Int} {S : World → Prop} (hP : ∀ W, S W → Blk W P 27 #[.slice p.ka p.s.ks.length p.kc, .slice p.xa p.s.xs.length p.xc, .int .i64 p.s.flo, .int .i64 p.s.fhi, .int .i64 p.s.plo, .int .i64 p.s.phi]) (hC : ∀ W, S W → Blk W C 34 #[.int .i64 c.wax, .int .i64 c.dia, .int .i64 c.dra, .int .i64 c.clo, .int .i64 c.chi]) (hX : ∀ W, S W → Blk W X 65 #[.int .u8 yk, .int .u16 y0, .int .u16 y1, .int .u16 y2, .int .u16 y3, .int .u16 y4, .int .u16 y5, .int .u16 n0, .int .u16 n1, .int .u16 n2, .int .u16 n3]) (HT : Hid (∀ W, S W → Calls Try.prog 37 #[.agg #[.slice p.ka p.s.ks.length p.kc, .slice p.xa p.s.xs.length p.xc, .int .i64 p.s.flo, .int .i64 p.s.fhi, .int .i64 p.s.plo, .int .i64 p.s.phi], .int .i64 qk, .agg #[.int .i64 c.wax, .int .i64 c.dia, .int .i64 c.dra, .int .i64 c.clo, .int .i64 c.chi], .agg #[.int .u16 y0, .int .u16 y1, .int .u16 y2, .int .u16 y3, .int .u16 y4, .int .u16 y5]] W fun e w' => e = .returned (.agg #[.int .i64 t.pull, .int .i64 t.flow, .int .i64 t.rise, .int .i64 t.spr, .int .i64 t.dra, .int .i64 t.cold]) ∧ Below W.heap.size W w')) (HA : Hid (∀ W, S W → Calls Try.prog 17 #[.agg #[.slice p.ka p.s.ks.length p.kc, .slice p.xa p.s.xs.length p.xc, .int .i64 p.s.flo, .int .i64 p.s.fhi, .int .i64 p.s.plo, .int .i64 p.s.phi], .int .i64 qk, .agg #[.int .i64 c.wax, .int .i64 c.dia, .int .i64 c.dra, .int .i64 c.clo, .int .i64 c.chi], .agg #[.int .i64 t.pull, .int .i64 t.flow, .int .i64 t.rise, .int .i64 t.spr, .int .i64 t.dra, .int .i64 t.cold]] W fun e w' => e = .returned (.tuple #[.agg #[.int .i64 b.rate, .int .i64 b.flame, .int .i64 b.pool], .int .i64 0]) ∧ Below W.heap.size W w')) (hon : ∀ W W', S W → Below W.heap.size W W' → S W') (hput : ∀ W W' G, S W → W.grownBy W' (some G) → (N ≤ G) → S W') (hN : ∀ W, S W → N ≤ W.heap.size) {Q : Exit → Act → World → Prop} {s0 s1 s2 s6 s8 s9 s10 s11 s14 s15 s16 s17 s18 s19 s20 s21 s22 s23 s24 s25 s26 s27 s28 s29 s30 s31 s32 s33 s34 s35 s36 s37 s38 s39 s40 s41 s42 s43 s44 s45 s59 s60 s61 s62 s63 s64 s65 s66 s67 s68 s69 s70 s71 s72 s73 s74 s75 s76 s77 s78 s79 s80 s81 s82 s83 s84 s85 s86 s87 s88 s89 s90 s91 s92 s93 s94 s95 s96 s97 s98 s99 s100 s101 s102 s103 s104 s105 s106 s107 s108 s109 s110 s111 s112 s113 s114 s115 s116 s117 s118 s119 s120 s121 s122 s123 s124 s125 s126 s127 s128 s129 s130 s131 s132 s133 s134 s135 s136 s137 s138 s139 s140 s141 s142 s143 s144 s145 s146 s147 s148 s149 s150 s151 s152 s153 s154 s155 s156 s157 s158 s159 s160 s161 s162 s163 s164 s165 s166 s167 s168 s169 s170 : Value} {W0 : World} (HL : Hid (S W0))
    (HQ : Hid (∀ (u : Nat → Value) (G0 : Nat) (W : World), S W → N ≤ G0 → Blk W (G0) 40 #[.int .i64 b.rate, .int .i64 b.flame, .int .i64 b.pool] → Q .normal ⟨#[s0, s1, s2, .pointer (some ⟨P, 0, none⟩), .pointer (some ⟨C, 0, none⟩), .pointer (some ⟨X, 0, none⟩), s6, .int .i64 qk, s8, s9, s10, s11, .pointer (some ⟨G0, 0, none⟩), .int .i64 0, s14, s15, s16, s17, s18, s19, s20, s21, s22, s23, s24, s25, s26, s27, s28, s29, s30, s31, s32, s33, s34, s35, s36, s37, s38, s39, s40, s41, s42, s43, s44, s45, u 10, u 0, u 1, u 2, u 3, u 4, u 5, u 6, u 7, u 8, u 9, u 11, u 12, s59, s60, s61, s62, s63, s64, s65, s66, s67, s68, s69, s70, s71, s72, s73, s74, s75, s76, s77, s78, s79, s80, s81, s82, s83, s84, s85, s86, s87, s88, s89, s90, s91, s92, s93, s94, s95, s96, s97, s98, s99, s100, s101, s102, s103, s104, s105, s106, s107, s108, s109, s110, s111, s112, s113, s114, s115, s116, s117, s118, s119, s120, s121, s122, s123, s124, s125, s126, s127, s128, s129, s130, s131, s132, s133, s134, s135, s136, s137, s138, s139, s140, s141, s142, s143, s144, s145, s146, s147, s148, s149, s150, s151, s152, s153, s154, s155, s156, s157, s158, s159, s160, s161, s162, s163, s164, s165, s166, s167, s168, s169, s170], []⟩ W)) :
    Code.wp Try.prog ((Try.f8.body.bind (regionAt 6)).getD .skip) Q ⟨#[s0, s1, s2, .pointer (some ⟨P, 0, none⟩), .pointer (some ⟨C, 0, none⟩), .pointer (some ⟨X, 0, none⟩), s6, .int .i64 qk, s8, s9, s10, s11, undef, undef, s14, s15, s16, s17, s18, s19, s20, s21, s22, s23, s24, s25, s26, s27, s28, s29, s30, s31, s32, s33, s34, s35, s36, s37, s38, s39, s40, s41, s42, s43, s44, s45, undef, undef, undef, undef, undef, undef, undef, undef, undef, undef, undef, undef, undef, s59, s60, s61, s62, s63, s64, s65, s66, s67, s68, s69, s70, s71, s72, s73, s74, s75, s76, s77, s78, s79, s80, s81, s82, s83, s84, s85, s86, s87, s88, s89, s90, s91, s92, s93, s94, s95, s96, s97, s98, s99, s100, s101, s102, s103, s104, s105, s106, s107, s108, s109, s110, s111, s112, s113, s114, s115, s116, s117, s118, s119, s120, s121, s122, s123, s124, s125, s126, s127, s128, s129, s130, s131, s132, s133, s134, s135, s136, s137, s138, s139, s140, s141, s142, s143, s144, s145, s146, s147, s148, s149, s150, s151, s152, s153, s154, s155, s156, s157, s158, s159, s160, s161, s162, s163, s164, s165, s166, s167, s168, s169, s170], []⟩ W0 := by
  conv => arg 2; whnf
  refine wp_region_vars (by kernel_rfl) 16 (by kernel_rfl) (fun u => ⟨#[s0, s1, s2, .pointer (some ⟨P, 0, none⟩), .pointer (some ⟨C, 0, none⟩), .pointer (some ⟨X, 0, none⟩), s6, .int .i64 qk, s8, s9, s10, s11, u 13, u 15, s14, s15, s16, s17, s18, s19, s20, s21, s22, s23, s24, s25, s26, s27, s28, s29, s30, s31, s32, s33, s34, s35, s36, s37, s38, s39, s40, s41, s42, s43, s44, s45, u 10, u 0, u 1, u 2, u 3, u 4, u 5, u 6, u 7, u 8, u 9, u 11, u 12, s59, s60, s61, s62, s63, s64, s65, s66, s67, s68, s69, s70, s71, s72, s73, s74, s75, s76, s77, s78, s79, s80, s81, s82, s83, s84, s85, s86, s87, s88, s89, s90, s91, s92, s93, s94, s95, s96, s97, s98, s99, s100, s101, s102, s103, s104, s105, s106, s107, s108, s109, s110, s111, s112, s113, s114, s115, s116, s117, s118, s119, s120, s121, s122, s123, s124, s125, s126, s127, s128, s129, s130, s131, s132, s133, s134, s135, s136, s137, s138, s139, s140, s141, s142, s143, s144, s145, s146, s147, s148, s149, s150, s151, s152, s153, s154, s155, s156, s157, s158, s159, s160, s161, s162, s163, s164, s165, s166, s167, s168, s169, s170], []⟩) (fun i => undef) (fun W => Hid (S W)) (lb6F P C X qk p c t b yk y0 y1 y2 y3 y4 y5 n0 n1 n2 n3) (N) [⟨some 13, 0, 14, 40, #[.int .i64 0, .int .i64 0, .int .i64 0], #[.int .i64 b.rate, .int .i64 b.flame, .int .i64 b.pool]⟩] [13] [14] rfl rfl (by kernel_rfl) (hon _ _ HL.out (Below.refl _ _).drew) ?hV (fun W h => hN W h.out) ?hg (by decide +kernel) (fun W W' h hb => hon W W' h.out hb) ?hp ?hA ?hP (by decide) (by decide) (by decide) (by decide) (by decide) ?step ?done
  case hV =>
    refine ⟨fun q hq => ⟨fun a e hl => (by cases hl), fun G hG => ?_⟩, fun q hq r hr hne G h1 h2 => ?_⟩
    · simp only [List.mem_cons, List.not_mem_nil, or_false] at hq
      rcases hq with rfl
      · exact absurd hG.1 (by decide)
    · simp only [List.mem_cons, List.not_mem_nil, or_false] at hq
      rcases hq with rfl
      · exact absurd h1.1 (by decide)
  case hg =>
    intro q hq ha
    simp only [List.mem_cons, List.not_mem_nil, or_false] at hq
    rcases hq with rfl
    · cases ha
  case hp =>
    intro W W' G h hg hG
    refine hput W W' G h.out hg ?_
    rcases hG with h1 | ⟨q, hq, ha, h2⟩
    · exact h1
    · simp only [List.mem_cons, List.not_mem_nil, or_false] at hq
      rcases hq with rfl
      · cases ha
  case hA =>
    intro q hq i ha
    simp only [List.mem_cons, List.not_mem_nil, or_false] at hq
    rcases hq with rfl
    · cases ha
      refine ⟨by show _ ∈ waits _ _ 14; decide +kernel, fun u W hB K hK => ?_⟩
      have HK := Lib.hid hK; clear hK
      refine wpOp_of rfl (by rfl) ?_
      go_simp
      exact k_of HK.out (by kernel_rfl)
  case hP =>
    intro q hq u W hB hd G hG hb K hK
    have HK := Lib.hid hK; clear hK
    simp only [List.mem_cons, List.not_mem_nil, or_false] at hq
    rcases hq with rfl
    · obtain ⟨-, eG, hle⟩ := hG
      replace eG : u 13 = .pointer (some ⟨G, 0, none⟩) := eG
      replace hd : ∀ j ∈ waits .any _ 14, j ∉ [13] → j ∉ [14] → lb6F P C X qk p c t b yk y0 y1 y2 y3 y4 y5 n0 n1 n2 n3 j (u j) := hd
      have e11 : u 11 = .agg #[.int .i64 b.rate, .int .i64 b.flame, .int .i64 b.pool] := hd 11 (by decide +kernel) (by decide) (by decide)
      replace hb : Blk W G 40 #[.int .i64 0, .int .i64 0, .int .i64 0] := hb
      have hb2 := (((hb).set_ 0 (.int .i64 b.rate)).set_ 1 (.int .i64 b.flame)).set_ 2 (.int .i64 b.pool)
      simp only [List.setIfInBounds_toArray, List.set_cons_zero, List.set_cons_succ] at hb2
      have hg2 : W.grownBy _ (some (G)) := grown_more (grown_more (grown_more (World.grownBy.refl W (some G)) 0 (.int .i64 b.rate)) 1 (.int .i64 b.flame)) 2 (.int .i64 b.pool)
      have fz0 := hb.frozen 0
      have cl0 := hb.cell 0
      have fz1 := hb.frozen 1
      have cl1 := hb.cell 1
      have fz2 := hb.frozen 2
      have cl2 := hb.cell 2
      have gl := hb.lt
      have HB2 := Lib.hid hb2
      have HG2 := Lib.hid hg2
      clear hb2 hg2
      refine wpOp_of rfl (by rfl) ?_
      go_simp
      exact k_of (HK.out _ HB2.out HG2.out) (by rw [← u1_eq eG, ← u1_eq e11] <;> kernel_rfl)
  case step =>
    iterate 16 (refine all_succ ?_ ?_)
    · exact all_zero
    · intro _ _ u W hB hv hd K hK
      have HK := Lib.hid hK; clear hK
      refine wpOp_of rfl (by rfl) ?_
      have z0 := (hP W hB.out).cell 0; have z1 := (hP W hB.out).cell 1; have z2 := (hP W hB.out).cell 2; have z3 := (hP W hB.out).cell 3; have z4 := (hP W hB.out).cell 4; have z5 := (hP W hB.out).cell 5
      go_simp
      exact k_of (HK.out (.agg #[.slice p.ka p.s.ks.length p.kc, .slice p.xa p.s.xs.length p.xc, .int .i64 p.s.flo, .int .i64 p.s.fhi, .int .i64 p.s.plo, .int .i64 p.s.phi]) _ rfl hB (Below.refl _ _)) (by kernel_rfl)
    · intro _ _ u W hB hv hd K hK
      have HK := Lib.hid hK; clear hK
      refine wpOp_of rfl (by rfl) ?_
      go_simp
      exact k_of (HK.out (.int .i64 qk) _ rfl hB (Below.refl _ _)) (by kernel_rfl)
    · intro _ _ u W hB hv hd K hK
      have HK := Lib.hid hK; clear hK
      refine wpOp_of rfl (by rfl) ?_
      have z0 := (hC W hB.out).cell 0; have z1 := (hC W hB.out).cell 1; have z2 := (hC W hB.out).cell 2; have z3 := (hC W hB.out).cell 3; have z4 := (hC W hB.out).cell 4
      go_simp
      exact k_of (HK.out (.agg #[.int .i64 c.wax, .int .i64 c.dia, .int .i64 c.dra, .int .i64 c.clo, .int .i64 c.chi]) _ rfl hB (Below.refl _ _)) (by kernel_rfl)
    · intro _ _ u W hB hv hd K hK
      have HK := Lib.hid hK; clear hK
      refine wpOp_of rfl (by rfl) ?_
      have z0 := (hP W hB.out).cell 0; have z1 := (hP W hB.out).cell 1; have z2 := (hP W hB.out).cell 2; have z3 := (hP W hB.out).cell 3; have z4 := (hP W hB.out).cell 4; have z5 := (hP W hB.out).cell 5
      go_simp
      exact k_of (HK.out (.agg #[.slice p.ka p.s.ks.length p.kc, .slice p.xa p.s.xs.length p.xc, .int .i64 p.s.flo, .int .i64 p.s.fhi, .int .i64 p.s.plo, .int .i64 p.s.phi]) _ rfl hB (Below.refl _ _)) (by kernel_rfl)
    · intro _ _ u W hB hv hd K hK
      have HK := Lib.hid hK; clear hK
      refine wpOp_of rfl (by rfl) ?_
      go_simp
      exact k_of (HK.out (.int .i64 qk) _ rfl hB (Below.refl _ _)) (by kernel_rfl)
    · intro _ _ u W hB hv hd K hK
      have HK := Lib.hid hK; clear hK
      refine wpOp_of rfl (by rfl) ?_
      have z0 := (hC W hB.out).cell 0; have z1 := (hC W hB.out).cell 1; have z2 := (hC W hB.out).cell 2; have z3 := (hC W hB.out).cell 3; have z4 := (hC W hB.out).cell 4
      go_simp
      exact k_of (HK.out (.agg #[.int .i64 c.wax, .int .i64 c.dia, .int .i64 c.dra, .int .i64 c.clo, .int .i64 c.chi]) _ rfl hB (Below.refl _ _)) (by kernel_rfl)
    · intro _ _ u W hB hv hd K hK
      have HK := Lib.hid hK; clear hK
      refine wpOp_of rfl (by rfl) ?_
      go_simp
      exact k_of (HK.out (.pointer (some ⟨X, 1, none⟩)) _ rfl hB (Below.refl _ _)) (by kernel_rfl)
    · intro _ _ u W hB hv hd K hK
      have HK := Lib.hid hK; clear hK
      have e6 : u 6 = .pointer (some ⟨X, 1, none⟩) := hd 6 (by decide +kernel) (by decide) (by decide)
      refine wpOp_of rfl (by rfl) ?_
      have z1 := (hX W hB.out).cell 1; have z2 := (hX W hB.out).cell 2; have z3 := (hX W hB.out).cell 3; have z4 := (hX W hB.out).cell 4; have z5 := (hX W hB.out).cell 5; have z6 := (hX W hB.out).cell 6
      go_simp
      exact k_of (HK.out (.agg #[.int .u16 y0, .int .u16 y1, .int .u16 y2, .int .u16 y3, .int .u16 y4, .int .u16 y5]) _ rfl hB (Below.refl _ _)) (by rw [← u1_eq e6]; kernel_rfl)
    · intro _ _ u W hB hv hd K hK
      have HK := Lib.hid hK; clear hK
      have e3 : u 3 = .agg #[.slice p.ka p.s.ks.length p.kc, .slice p.xa p.s.xs.length p.xc, .int .i64 p.s.flo, .int .i64 p.s.fhi, .int .i64 p.s.plo, .int .i64 p.s.phi] := hd 3 (by decide +kernel) (by decide) (by decide)
      have e4 : u 4 = .int .i64 qk := hd 4 (by decide +kernel) (by decide) (by decide)
      have e5 : u 5 = .agg #[.int .i64 c.wax, .int .i64 c.dia, .int .i64 c.dra, .int .i64 c.clo, .int .i64 c.chi] := hd 5 (by decide +kernel) (by decide) (by decide)
      have e7 : u 7 = .agg #[.int .u16 y0, .int .u16 y1, .int .u16 y2, .int .u16 y3, .int .u16 y4, .int .u16 y5] := hd 7 (by decide +kernel) (by decide) (by decide)
      refine wpOp_of rfl (by rfl) ?_
      go_simp
      refine (HT.out W hB.out).mono ?_
      rintro e w' ⟨rfl, hb⟩
      exact k_of (HK.out (.agg #[.int .i64 t.pull, .int .i64 t.flow, .int .i64 t.rise, .int .i64 t.spr, .int .i64 t.dra, .int .i64 t.cold]) _ rfl (hon _ _ hB.out hb) hb) (by rw [← u1_eq e3, ← u1_eq e4, ← u1_eq e5, ← u1_eq e7]; kernel_rfl)
    · intro _ _ u W hB hv hd K hK
      have HK := Lib.hid hK; clear hK
      have e0 : u 0 = .agg #[.slice p.ka p.s.ks.length p.kc, .slice p.xa p.s.xs.length p.xc, .int .i64 p.s.flo, .int .i64 p.s.fhi, .int .i64 p.s.plo, .int .i64 p.s.phi] := hd 0 (by decide +kernel) (by decide) (by decide)
      have e1 : u 1 = .int .i64 qk := hd 1 (by decide +kernel) (by decide) (by decide)
      have e2 : u 2 = .agg #[.int .i64 c.wax, .int .i64 c.dia, .int .i64 c.dra, .int .i64 c.clo, .int .i64 c.chi] := hd 2 (by decide +kernel) (by decide) (by decide)
      have e8 : u 8 = .agg #[.int .i64 t.pull, .int .i64 t.flow, .int .i64 t.rise, .int .i64 t.spr, .int .i64 t.dra, .int .i64 t.cold] := hd 8 (by decide +kernel) (by decide) (by decide)
      refine wpOp_of rfl (by rfl) ?_
      go_simp
      refine (HA.out W hB.out).mono ?_
      rintro e w' ⟨rfl, hb⟩
      exact k_of (HK.out (.tuple #[.agg #[.int .i64 b.rate, .int .i64 b.flame, .int .i64 b.pool], .int .i64 0]) _ rfl (hon _ _ hB.out hb) hb) (by rw [← u1_eq e0, ← u1_eq e1, ← u1_eq e2, ← u1_eq e8]; kernel_rfl)
    · intro _ _ u W hB hv hd K hK
      have HK := Lib.hid hK; clear hK
      have e9 : u 9 = .tuple #[.agg #[.int .i64 b.rate, .int .i64 b.flame, .int .i64 b.pool], .int .i64 0] := hd 9 (by decide +kernel) (by decide) (by decide)
      refine wpOp_of rfl (by rfl) ?_
      go_simp
      exact k_of (HK.out (.tuple #[.agg #[.int .i64 b.rate, .int .i64 b.flame, .int .i64 b.pool], .int .i64 0]) _ rfl hB (Below.refl _ _)) (by rw [← u1_eq e9]; kernel_rfl)
    · intro _ _ u W hB hv hd K hK
      have HK := Lib.hid hK; clear hK
      have e10 : u 10 = .tuple #[.agg #[.int .i64 b.rate, .int .i64 b.flame, .int .i64 b.pool], .int .i64 0] := hd 10 (by decide +kernel) (by decide) (by decide)
      refine wpOp_of rfl (by rfl) ?_
      go_simp
      exact k_of (HK.out (.agg #[.int .i64 b.rate, .int .i64 b.flame, .int .i64 b.pool]) _ rfl hB (Below.refl _ _)) (by rw [← u1_eq e10]; kernel_rfl)
    · intro _ _ u W hB hv hd K hK
      have HK := Lib.hid hK; clear hK
      have e10 : u 10 = .tuple #[.agg #[.int .i64 b.rate, .int .i64 b.flame, .int .i64 b.pool], .int .i64 0] := hd 10 (by decide +kernel) (by decide) (by decide)
      refine wpOp_of rfl (by rfl) ?_
      go_simp
      exact k_of (HK.out (.int .i64 0) _ rfl hB (Below.refl _ _)) (by rw [← u1_eq e10]; kernel_rfl)
    · intro ha; exact absurd (by decide) ha
    · intro _ ha; exact absurd (by decide) ha
    · intro _ _ u W hB hv hd K hK
      have HK := Lib.hid hK; clear hK
      have e12 : u 12 = .int .i64 0 := hd 12 (by decide +kernel) (by decide) (by decide)
      refine wpOp_of rfl (by rfl) ?_
      go_simp
      exact k_of (HK.out (.int .i64 0) _ rfl hB (Below.refl _ _)) (by rw [← u1_eq e12]; kernel_rfl)
  case done =>
    intro L u W hL hB hd hV
    have hv0 := hV.ok ⟨some 13, 0, 14, 40, #[.int .i64 0, .int .i64 0, .int .i64 0], #[.int .i64 b.rate, .int .i64 b.flame, .int .i64 b.pool]⟩ (by simp)
    obtain ⟨G0, eG0, hN0⟩ := hv0.1 13 rfl (hL 13 (by decide))
    have hB0 := hv0.2 G0 ⟨hL 13 (by decide), eG0, hN0⟩
    rw [if_pos (hL 14 (by decide))] at hB0
    have e15 : u 15 = .int .i64 0 := hd 15 (by decide) (by decide) (by decide)
    exact k_of (HQ.out u G0 W hB.out hN0 hB0) (by simp only [eG0, e15])

/-- What each operation leaves. -/
def lbftR (_P _C _B1 _B2 b o m mc _kk _jj : Nat) (x _y : Int) (p : Sp) (c : Cd) (b1 _b2 : Bn) (wp _wm : List Int) : Nat → Value → World → Prop
  | 0, v, _ => v = .int .i64 0
  | 1, v, _ => v = .bool false
  | 2, v, _ => v = .bool false
  | 3, v, _ => v = undef
  | 4, v, _ => v = undef
  | 5, v, _ => v = undef
  | 6, v, _ => v = undef
  | 7, v, _ => v = undef
  | 8, v, _ => v = undef
  | 9, v, _ => v = undef
  | 10, v, _ => v = undef
  | 11, v, _ => v = undef
  | 12, v, _ => v = undef
  | 13, v, _ => v = .bool false
  | 14, v, _ => v = .bool false
  | 15, v, _ => v = .agg #[.slice p.ka p.s.ks.length p.kc, .slice p.xa p.s.xs.length p.xc, .int .i64 p.s.flo, .int .i64 p.s.fhi, .int .i64 p.s.plo, .int .i64 p.s.phi]
  | 16, v, _ => v = .agg #[.int .i64 c.wax, .int .i64 c.dia, .int .i64 c.dra, .int .i64 c.clo, .int .i64 c.chi]
  | 17, v, _ => v = .agg #[.int .i64 b1.rate, .int .i64 b1.flame, .int .i64 b1.pool]
  | 18, v, W => ∃ A1_18 c1_18, v = .slice A1_18 wp.length c1_18 ∧ IntsIn W A1_18 wp
  | 19, v, _ => v = .slice (some ⟨b, o, none⟩) m mc
  | 20, v, _ => v = .int .i64 0
  | 21, v, _ => v = .pointer (some ⟨b, o, none⟩)
  | 22, v, _ => v = .int .i64 x
  | 23, v, _ => v = .bool true
  | 24, v, _ => v = .bool false
  | 25, v, _ => v = .bool false
  | 26, v, _ => v = undef
  | 27, v, _ => v = undef
  | 28, v, _ => v = undef
  | 29, v, _ => v = undef
  | 30, v, _ => v = undef
  | 31, v, _ => v = undef
  | 32, v, _ => v = undef
  | 33, v, _ => v = undef
  | 34, v, _ => v = undef
  | 35, v, _ => v = undef
  | 36, v, _ => v = .bool false
  | 37, v, _ => v = .bool false
  | _, _, _ => True
theorem lbftR_on (P C B1 B2 b o m mc kk jj : Nat) (x y : Int) (p : Sp) (c : Cd) (b1 b2 : Bn) (wp wm : List Int) : ∀ i, i < 38 → ∀ v W W', lbftR P C B1 B2 b o m mc kk jj x y p c b1 b2 wp wm i v W → Below W.heap.size W W' → lbftR P C B1 B2 b o m mc kk jj x y p c b1 b2 wp wm i v W' := by
  iterate 38 (refine all_succ ?_ ?_)
  · exact all_zero
  · exact fun _ _ _ h _ => h
  · exact fun _ _ _ h _ => h
  · exact fun _ _ _ h _ => h
  · exact fun _ _ _ h _ => h
  · exact fun _ _ _ h _ => h
  · exact fun _ _ _ h _ => h
  · exact fun _ _ _ h _ => h
  · exact fun _ _ _ h _ => h
  · exact fun _ _ _ h _ => h
  · exact fun _ _ _ h _ => h
  · exact fun _ _ _ h _ => h
  · exact fun _ _ _ h _ => h
  · exact fun _ _ _ h _ => h
  · exact fun _ _ _ h _ => h
  · exact fun _ _ _ h _ => h
  · exact fun _ _ _ h _ => h
  · exact fun _ _ _ h _ => h
  · exact fun _ _ _ h _ => h
  · rintro v W W' ⟨A1_18, c1_18, e, h0⟩ hb; exact ⟨A1_18, c1_18, e, h0.on hb⟩
  · exact fun _ _ _ h _ => h
  · exact fun _ _ _ h _ => h
  · exact fun _ _ _ h _ => h
  · exact fun _ _ _ h _ => h
  · exact fun _ _ _ h _ => h
  · exact fun _ _ _ h _ => h
  · exact fun _ _ _ h _ => h
  · exact fun _ _ _ h _ => h
  · exact fun _ _ _ h _ => h
  · exact fun _ _ _ h _ => h
  · exact fun _ _ _ h _ => h
  · exact fun _ _ _ h _ => h
  · exact fun _ _ _ h _ => h
  · exact fun _ _ _ h _ => h
  · exact fun _ _ _ h _ => h
  · exact fun _ _ _ h _ => h
  · exact fun _ _ _ h _ => h
  · exact fun _ _ _ h _ => h
  · exact fun _ _ _ h _ => h
set_option maxRecDepth 100000 in
set_option maxHeartbeats 8000000 in
theorem lbft_region {S : World → Prop} (hon : ∀ W W', S W → Below W.heap.size W W' → S W') {P C B1 B2 b o m mc kk jj : Nat} {x y : Int} {p : Sp} {c : Cd} {b1 b2 : Bn} {wp wm : List Int} (hP : ∀ W, S W → Blk W P 27 #[.slice p.ka p.s.ks.length p.kc, .slice p.xa p.s.xs.length p.xc, .int .i64 p.s.flo, .int .i64 p.s.fhi, .int .i64 p.s.plo, .int .i64 p.s.phi]) (hC : ∀ W, S W → Blk W C 34 #[.int .i64 c.wax, .int .i64 c.dia, .int .i64 c.dra, .int .i64 c.clo, .int .i64 c.chi]) (hB1 : ∀ W, S W → Blk W B1 40 #[.int .i64 b1.rate, .int .i64 b1.flame, .int .i64 b1.pool]) (HW1 : Hid (∀ W, S W → Calls Try.prog 40 #[.agg #[.slice p.ka p.s.ks.length p.kc, .slice p.xa p.s.xs.length p.xc, .int .i64 p.s.flo, .int .i64 p.s.fhi, .int .i64 p.s.plo, .int .i64 p.s.phi], .agg #[.int .i64 c.wax, .int .i64 c.dia, .int .i64 c.dra, .int .i64 c.clo, .int .i64 c.chi], .agg #[.int .i64 b1.rate, .int .i64 b1.flame, .int .i64 b1.pool]] W fun e w' => ∃ A1 c1, e = .returned (.slice A1 wp.length c1) ∧ IntsIn w' A1 wp ∧ Below W.heap.size W w')) (hA : decide (x ∈ wp) = true) (hkm : 0 < m) (hx : ∀ W, S W → W.cell? ⟨b, o, none⟩ = some (.int .i64 x))  {Q : Exit → Act → World → Prop} {s0 s1 s2 s5 s6 s7 s9 s10 s11 s12 s13 s14 s15 s16 s17 s21 s22 s23 s24 s25 s26 s27 s28 s29 s30 s31 s32 s33 s34 s35 s36 s37 s38 s39 s40 s41 s42 s43 s44 s45 s46 s47 s48 s49 s50 s51 s52 s53 s54 s55 s56 s57 s58 s59 s60 s61 s62 s63 s64 s65 s66 s67 s68 s69 s70 s71 s72 s73 s74 s75 s76 s77 s78 s79 s80 s81 s82 s83 s84 s85 s86 s87 s88 s89 s90 s91 s92 s93 s94 s95 s96 s97 s98 s99 s100 s101 s102 s103 s104 s105 s106 s107 s108 s109 s110 s111 s112 s113 s114 s115 s116 s117 s118 s119 s120 s121 s122 s123 s162 s163 s164 s165 s166 s167 s168 s169 s170 s124 s125 s126 s127 s128 s129 s130 s131 s132 s133 s134 s135 s136 s137 s138 s139 s140 s141 s142 s143 s144 s145 s146 s147 s148 s149 s150 s151 s152 s153 s154 s155 s156 s157 s158 s159 s160 s161 : Value} {W0 : World} (HL : Hid (S W0))
    (HQ : Hid (∀ (u : Nat → Value) (W : World), S W → Q .normal ⟨#[s0, s1, s2, .pointer (some ⟨P, 0, none⟩), .pointer (some ⟨C, 0, none⟩), s5, s6, s7, .slice (some ⟨b, o, none⟩) m mc, s9, s10, s11, s12, s13, s14, s15, s16, s17, .pointer (some ⟨B1, 0, none⟩), .pointer (some ⟨B2, 0, none⟩), .int .i64 0, s21, s22, s23, s24, s25, s26, s27, s28, s29, s30, s31, s32, s33, s34, s35, s36, s37, s38, s39, s40, s41, s42, s43, s44, s45, s46, s47, s48, s49, s50, s51, s52, s53, s54, s55, s56, s57, s58, s59, s60, s61, s62, s63, s64, s65, s66, s67, s68, s69, s70, s71, s72, s73, s74, s75, s76, s77, s78, s79, s80, s81, s82, s83, s84, s85, s86, s87, s88, s89, s90, s91, s92, s93, s94, s95, s96, s97, s98, s99, s100, s101, s102, s103, s104, s105, s106, s107, s108, s109, s110, s111, s112, s113, s114, s115, s116, s117, s118, s119, s120, s121, s122, s123, u 0, u 1, u 2, u 3, u 4, u 5, u 6, u 7, u 8, u 9, u 10, u 11, u 12, u 13, u 14, u 15, u 16, u 17, u 18, u 19, u 20, u 21, u 22, u 23, u 24, u 25, u 26, u 27, u 28, u 29, u 30, u 31, u 32, u 33, u 34, u 35, u 36, .bool false, s162, s163, s164, s165, s166, s167, s168, s169, s170], []⟩ W)) :
    Code.wp Try.prog ((Try.f8.body.bind (regionAt 21)).getD .skip) Q ⟨#[s0, s1, s2, .pointer (some ⟨P, 0, none⟩), .pointer (some ⟨C, 0, none⟩), s5, s6, s7, .slice (some ⟨b, o, none⟩) m mc, s9, s10, s11, s12, s13, s14, s15, s16, s17, .pointer (some ⟨B1, 0, none⟩), .pointer (some ⟨B2, 0, none⟩), .int .i64 0, s21, s22, s23, s24, s25, s26, s27, s28, s29, s30, s31, s32, s33, s34, s35, s36, s37, s38, s39, s40, s41, s42, s43, s44, s45, s46, s47, s48, s49, s50, s51, s52, s53, s54, s55, s56, s57, s58, s59, s60, s61, s62, s63, s64, s65, s66, s67, s68, s69, s70, s71, s72, s73, s74, s75, s76, s77, s78, s79, s80, s81, s82, s83, s84, s85, s86, s87, s88, s89, s90, s91, s92, s93, s94, s95, s96, s97, s98, s99, s100, s101, s102, s103, s104, s105, s106, s107, s108, s109, s110, s111, s112, s113, s114, s115, s116, s117, s118, s119, s120, s121, s122, s123, s124, s125, s126, s127, s128, s129, s130, s131, s132, s133, s134, s135, s136, s137, s138, s139, s140, s141, s142, s143, s144, s145, s146, s147, s148, s149, s150, s151, s152, s153, s154, s155, s156, s157, s158, s159, s160, s161, s162, s163, s164, s165, s166, s167, s168, s169, s170], []⟩ W0 := by
  conv => arg 2; whnf
  refine wp_region_spec (by kernel_rfl) 38 (by kernel_rfl) (fun u => ⟨#[s0, s1, s2, .pointer (some ⟨P, 0, none⟩), .pointer (some ⟨C, 0, none⟩), s5, s6, s7, .slice (some ⟨b, o, none⟩) m mc, s9, s10, s11, s12, s13, s14, s15, s16, s17, .pointer (some ⟨B1, 0, none⟩), .pointer (some ⟨B2, 0, none⟩), .int .i64 0, s21, s22, s23, s24, s25, s26, s27, s28, s29, s30, s31, s32, s33, s34, s35, s36, s37, s38, s39, s40, s41, s42, s43, s44, s45, s46, s47, s48, s49, s50, s51, s52, s53, s54, s55, s56, s57, s58, s59, s60, s61, s62, s63, s64, s65, s66, s67, s68, s69, s70, s71, s72, s73, s74, s75, s76, s77, s78, s79, s80, s81, s82, s83, s84, s85, s86, s87, s88, s89, s90, s91, s92, s93, s94, s95, s96, s97, s98, s99, s100, s101, s102, s103, s104, s105, s106, s107, s108, s109, s110, s111, s112, s113, s114, s115, s116, s117, s118, s119, s120, s121, s122, s123, u 0, u 1, u 2, u 3, u 4, u 5, u 6, u 7, u 8, u 9, u 10, u 11, u 12, u 13, u 14, u 15, u 16, u 17, u 18, u 19, u 20, u 21, u 22, u 23, u 24, u 25, u 26, u 27, u 28, u 29, u 30, u 31, u 32, u 33, u 34, u 35, u 36, u 37, s162, s163, s164, s165, s166, s167, s168, s169, s170], []⟩) (fun i => if i = 0 then s124 else if i = 1 then s125 else if i = 2 then s126 else if i = 3 then s127 else if i = 4 then s128 else if i = 5 then s129 else if i = 6 then s130 else if i = 7 then s131 else if i = 8 then s132 else if i = 9 then s133 else if i = 10 then s134 else if i = 11 then s135 else if i = 12 then s136 else if i = 13 then s137 else if i = 14 then s138 else if i = 15 then s139 else if i = 16 then s140 else if i = 17 then s141 else if i = 18 then s142 else if i = 19 then s143 else if i = 20 then s144 else if i = 21 then s145 else if i = 22 then s146 else if i = 23 then s147 else if i = 24 then s148 else if i = 25 then s149 else if i = 26 then s150 else if i = 27 then s151 else if i = 28 then s152 else if i = 29 then s153 else if i = 30 then s154 else if i = 31 then s155 else if i = 32 then s156 else if i = 33 then s157 else if i = 34 then s158 else if i = 35 then s159 else if i = 36 then s160 else if i = 37 then s161 else undef) (fun W => Hid (S W)) (lbftR P C B1 B2 b o m mc kk jj x y p c b1 b2 wp wm) (by kernel_rfl) (hon _ _ HL.out (Below.refl _ _).drew) (fun i v W W2 hi h hb => lbftR_on P C B1 B2 b o m mc kk jj x y p c b1 b2 wp wm i hi v W W2 h hb) (by decide +kernel) ?_ ?_
  · iterate 38 (refine all_succ ?_ ?_)
    · exact all_zero
    · intro u W hB _ hd _ K hK
      have HK := Lib.hid hK; clear hK
      refine wpOp_of rfl (by rfl) ?_
      go_simp
      exact k_of (HK.out (.int .i64 0) _ rfl hB (Below.refl _ _)) (by kernel_rfl)
    · intro u W hB _ hd _ K hK
      have HK := Lib.hid hK; clear hK
      have e0 : u 0 = .int .i64 0 := hd 0 (by decide +kernel)
      refine wpOp_of rfl (by rfl) ?_
      go_simp
      exact k_of (HK.out (.bool false) _ rfl hB (Below.refl _ _)) (by rw [← u1_eq e0]; kernel_rfl)
    · intro u W hB _ hd _ K hK
      have HK := Lib.hid hK; clear hK
      have e1 : u 1 = .bool false := hd 1 (by decide +kernel)
      refine wpOp_of rfl (by rfl) ?_
      go_simp
      exact k_of (HK.out (.bool false) _ rfl hB (Below.refl _ _)) (by rw [← u1_eq e1]; kernel_rfl)
    · intro u W hB _ hd _ K hK
      have HK := Lib.hid hK; clear hK
      have e2 : u 2 = .bool false := hd 2 (by decide +kernel)
      refine wpOp_skip rfl (by rw [← u1_eq e2]; kernel_rfl) ?_
      exact k_of (HK.out undef _ rfl hB (Below.refl _ _)) (by rw [← u1_eq e2]; kernel_rfl)
    · intro u W hB _ hd _ K hK
      have HK := Lib.hid hK; clear hK
      have e2 : u 2 = .bool false := hd 2 (by decide +kernel)
      refine wpOp_skip rfl (by rw [← u1_eq e2]; kernel_rfl) ?_
      exact k_of (HK.out undef _ rfl hB (Below.refl _ _)) (by rw [← u1_eq e2]; kernel_rfl)
    · intro u W hB _ hd _ K hK
      have HK := Lib.hid hK; clear hK
      have e2 : u 2 = .bool false := hd 2 (by decide +kernel)
      refine wpOp_skip rfl (by rw [← u1_eq e2]; kernel_rfl) ?_
      exact k_of (HK.out undef _ rfl hB (Below.refl _ _)) (by rw [← u1_eq e2]; kernel_rfl)
    · intro u W hB _ hd _ K hK
      have HK := Lib.hid hK; clear hK
      have e2 : u 2 = .bool false := hd 2 (by decide +kernel)
      refine wpOp_skip rfl (by rw [← u1_eq e2]; kernel_rfl) ?_
      exact k_of (HK.out undef _ rfl hB (Below.refl _ _)) (by rw [← u1_eq e2]; kernel_rfl)
    · intro u W hB _ hd _ K hK
      have HK := Lib.hid hK; clear hK
      have e2 : u 2 = .bool false := hd 2 (by decide +kernel)
      refine wpOp_skip rfl (by rw [← u1_eq e2]; kernel_rfl) ?_
      exact k_of (HK.out undef _ rfl hB (Below.refl _ _)) (by rw [← u1_eq e2]; kernel_rfl)
    · intro u W hB _ hd _ K hK
      have HK := Lib.hid hK; clear hK
      have e2 : u 2 = .bool false := hd 2 (by decide +kernel)
      refine wpOp_skip rfl (by rw [← u1_eq e2]; kernel_rfl) ?_
      exact k_of (HK.out undef _ rfl hB (Below.refl _ _)) (by rw [← u1_eq e2]; kernel_rfl)
    · intro u W hB _ hd _ K hK
      have HK := Lib.hid hK; clear hK
      have e2 : u 2 = .bool false := hd 2 (by decide +kernel)
      refine wpOp_skip rfl (by rw [← u1_eq e2]; kernel_rfl) ?_
      exact k_of (HK.out undef _ rfl hB (Below.refl _ _)) (by rw [← u1_eq e2]; kernel_rfl)
    · intro u W hB _ hd _ K hK
      have HK := Lib.hid hK; clear hK
      have e2 : u 2 = .bool false := hd 2 (by decide +kernel)
      refine wpOp_skip rfl (by rw [← u1_eq e2]; kernel_rfl) ?_
      exact k_of (HK.out undef _ rfl hB (Below.refl _ _)) (by rw [← u1_eq e2]; kernel_rfl)
    · intro u W hB _ hd _ K hK
      have HK := Lib.hid hK; clear hK
      have e2 : u 2 = .bool false := hd 2 (by decide +kernel)
      refine wpOp_skip rfl (by rw [← u1_eq e2]; kernel_rfl) ?_
      exact k_of (HK.out undef _ rfl hB (Below.refl _ _)) (by rw [← u1_eq e2]; kernel_rfl)
    · intro u W hB _ hd _ K hK
      have HK := Lib.hid hK; clear hK
      have e2 : u 2 = .bool false := hd 2 (by decide +kernel)
      refine wpOp_skip rfl (by rw [← u1_eq e2]; kernel_rfl) ?_
      exact k_of (HK.out undef _ rfl hB (Below.refl _ _)) (by rw [← u1_eq e2]; kernel_rfl)
    · intro u W hB _ hd _ K hK
      have HK := Lib.hid hK; clear hK
      have e2 : u 2 = .bool false := hd 2 (by decide +kernel)
      have e12 : u 12 = undef := hd 12 (by decide +kernel)
      refine wpOp_of rfl (by rfl) ?_
      go_simp
      exact k_of (HK.out (.bool false) _ rfl hB (Below.refl _ _)) (by rw [← u1_eq e2, ← u1_eq e12]; kernel_rfl)
    · intro u W hB _ hd _ K hK
      have HK := Lib.hid hK; clear hK
      have e13 : u 13 = .bool false := hd 13 (by decide +kernel)
      refine wpOp_of rfl (by rfl) ?_
      go_simp
      exact k_of (HK.out (.bool false) _ rfl hB (Below.refl _ _)) (by rw [← u1_eq e13]; kernel_rfl)
    · intro u W hB _ hd _ K hK
      have HK := Lib.hid hK; clear hK
      have e14 : u 14 = .bool false := hd 14 (by decide +kernel)
      refine wpOp_of rfl (by rw [← u1_eq e14]; kernel_rfl) ?_
      have z0 := (hP W hB.out).cell 0; have z1 := (hP W hB.out).cell 1; have z2 := (hP W hB.out).cell 2; have z3 := (hP W hB.out).cell 3; have z4 := (hP W hB.out).cell 4; have z5 := (hP W hB.out).cell 5
      go_simp
      exact k_of (HK.out (.agg #[.slice p.ka p.s.ks.length p.kc, .slice p.xa p.s.xs.length p.xc, .int .i64 p.s.flo, .int .i64 p.s.fhi, .int .i64 p.s.plo, .int .i64 p.s.phi]) _ rfl hB (Below.refl _ _)) (by rw [← u1_eq e14]; kernel_rfl)
    · intro u W hB _ hd _ K hK
      have HK := Lib.hid hK; clear hK
      have e14 : u 14 = .bool false := hd 14 (by decide +kernel)
      refine wpOp_of rfl (by rw [← u1_eq e14]; kernel_rfl) ?_
      have z0 := (hC W hB.out).cell 0; have z1 := (hC W hB.out).cell 1; have z2 := (hC W hB.out).cell 2; have z3 := (hC W hB.out).cell 3; have z4 := (hC W hB.out).cell 4
      go_simp
      exact k_of (HK.out (.agg #[.int .i64 c.wax, .int .i64 c.dia, .int .i64 c.dra, .int .i64 c.clo, .int .i64 c.chi]) _ rfl hB (Below.refl _ _)) (by rw [← u1_eq e14]; kernel_rfl)
    · intro u W hB _ hd _ K hK
      have HK := Lib.hid hK; clear hK
      have e14 : u 14 = .bool false := hd 14 (by decide +kernel)
      refine wpOp_of rfl (by rw [← u1_eq e14]; kernel_rfl) ?_
      have z0 := (hB1 W hB.out).cell 0; have z1 := (hB1 W hB.out).cell 1; have z2 := (hB1 W hB.out).cell 2
      go_simp
      exact k_of (HK.out (.agg #[.int .i64 b1.rate, .int .i64 b1.flame, .int .i64 b1.pool]) _ rfl hB (Below.refl _ _)) (by rw [← u1_eq e14]; kernel_rfl)
    · intro u W hB _ hd _ K hK
      have HK := Lib.hid hK; clear hK
      have e14 : u 14 = .bool false := hd 14 (by decide +kernel)
      have e15 : u 15 = .agg #[.slice p.ka p.s.ks.length p.kc, .slice p.xa p.s.xs.length p.xc, .int .i64 p.s.flo, .int .i64 p.s.fhi, .int .i64 p.s.plo, .int .i64 p.s.phi] := hd 15 (by decide +kernel)
      have e16 : u 16 = .agg #[.int .i64 c.wax, .int .i64 c.dia, .int .i64 c.dra, .int .i64 c.clo, .int .i64 c.chi] := hd 16 (by decide +kernel)
      have e17 : u 17 = .agg #[.int .i64 b1.rate, .int .i64 b1.flame, .int .i64 b1.pool] := hd 17 (by decide +kernel)
      refine wpOp_of rfl (by rw [← u1_eq e14]; kernel_rfl) ?_
      go_simp
      refine (HW1.out W hB.out).mono ?_
      rintro e w' ⟨A1, c1, rfl, hi, hb⟩
      exact k_of (HK.out (.slice A1 wp.length c1) _ ⟨A1, c1, rfl, hi⟩ (hon _ _ hB.out hb) hb) (by rw [← u1_eq e14, ← u1_eq e15, ← u1_eq e16, ← u1_eq e17]; kernel_rfl)
    · intro u W hB _ hd _ K hK
      have HK := Lib.hid hK; clear hK
      have e14 : u 14 = .bool false := hd 14 (by decide +kernel)
      refine wpOp_of rfl (by rw [← u1_eq e14]; kernel_rfl) ?_
      go_simp
      exact k_of (HK.out (.slice (some ⟨b, o, none⟩) m mc) _ rfl hB (Below.refl _ _)) (by rw [← u1_eq e14]; kernel_rfl)
    · intro u W hB _ hd _ K hK
      have HK := Lib.hid hK; clear hK
      have e14 : u 14 = .bool false := hd 14 (by decide +kernel)
      refine wpOp_of rfl (by rw [← u1_eq e14]; kernel_rfl) ?_
      go_simp
      exact k_of (HK.out (.int .i64 0) _ rfl hB (Below.refl _ _)) (by rw [← u1_eq e14]; kernel_rfl)
    · intro u W hB _ hd _ K hK
      have HK := Lib.hid hK; clear hK
      have e14 : u 14 = .bool false := hd 14 (by decide +kernel)
      have e19 : u 19 = .slice (some ⟨b, o, none⟩) m mc := hd 19 (by decide +kernel)
      have e20 : u 20 = .int .i64 0 := hd 20 (by decide +kernel)
      refine wpOp_of rfl (by rw [← u1_eq e14]; kernel_rfl) ?_
      go_simp
      exact k_of (HK.out (.pointer (some ⟨b, o, none⟩)) _ rfl hB (Below.refl _ _)) (by rw [← u1_eq e14, ← u1_eq e19, ← u1_eq e20]; kernel_rfl)
    · intro u W hB _ hd _ K hK
      have HK := Lib.hid hK; clear hK
      have e14 : u 14 = .bool false := hd 14 (by decide +kernel)
      have e21 : u 21 = .pointer (some ⟨b, o, none⟩) := hd 21 (by decide +kernel)
      refine wpOp_of rfl (by rw [← u1_eq e14]; kernel_rfl) ?_
      have zx := hx W hB.out
      go_simp
      exact k_of (HK.out (.int .i64 x) _ rfl hB (Below.refl _ _)) (by rw [← u1_eq e14, ← u1_eq e21]; kernel_rfl)
    · intro u W hB _ hd _ K hK
      have HK := Lib.hid hK; clear hK
      have e14 : u 14 = .bool false := hd 14 (by decide +kernel)
      obtain ⟨A1_18, c1_18, e18, f18_0⟩ : lbftR P C B1 B2 b o m mc kk jj x y p c b1 b2 wp wm 18 (u 18) W := hd 18 (by decide +kernel)
      have e22 : u 22 = .int .i64 x := hd 22 (by decide +kernel)
      refine wpOp_of rfl (by rw [← u1_eq e14]; kernel_rfl) ?_
      go_simp
      refine (rhas_any f18_0 x).mono ?_; simp only [hA]
      rintro e w' ⟨rfl, rfl⟩
      exact k_of (HK.out (.bool true) _ rfl hB (Below.refl _ _)) (by rw [← u1_eq e14, ← u1_eq e18, ← u1_eq e22]; kernel_rfl)
    · intro u W hB _ hd _ K hK
      have HK := Lib.hid hK; clear hK
      have e14 : u 14 = .bool false := hd 14 (by decide +kernel)
      have e23 : u 23 = .bool true := hd 23 (by decide +kernel)
      refine wpOp_of rfl (by rw [← u1_eq e14]; kernel_rfl) ?_
      go_simp
      exact k_of (HK.out (.bool false) _ rfl hB (Below.refl _ _)) (by rw [← u1_eq e14, ← u1_eq e23]; kernel_rfl)
    · intro u W hB _ hd _ K hK
      have HK := Lib.hid hK; clear hK
      have e14 : u 14 = .bool false := hd 14 (by decide +kernel)
      have e24 : u 24 = .bool false := hd 24 (by decide +kernel)
      refine wpOp_of rfl (by rw [← u1_eq e14]; kernel_rfl) ?_
      go_simp
      exact k_of (HK.out (.bool false) _ rfl hB (Below.refl _ _)) (by rw [← u1_eq e14, ← u1_eq e24]; kernel_rfl)
    · intro u W hB _ hd _ K hK
      have HK := Lib.hid hK; clear hK
      have e25 : u 25 = .bool false := hd 25 (by decide +kernel)
      refine wpOp_skip rfl (by rw [← u1_eq e25]; kernel_rfl) ?_
      exact k_of (HK.out undef _ rfl hB (Below.refl _ _)) (by rw [← u1_eq e25]; kernel_rfl)
    · intro u W hB _ hd _ K hK
      have HK := Lib.hid hK; clear hK
      have e25 : u 25 = .bool false := hd 25 (by decide +kernel)
      refine wpOp_skip rfl (by rw [← u1_eq e25]; kernel_rfl) ?_
      exact k_of (HK.out undef _ rfl hB (Below.refl _ _)) (by rw [← u1_eq e25]; kernel_rfl)
    · intro u W hB _ hd _ K hK
      have HK := Lib.hid hK; clear hK
      have e25 : u 25 = .bool false := hd 25 (by decide +kernel)
      refine wpOp_skip rfl (by rw [← u1_eq e25]; kernel_rfl) ?_
      exact k_of (HK.out undef _ rfl hB (Below.refl _ _)) (by rw [← u1_eq e25]; kernel_rfl)
    · intro u W hB _ hd _ K hK
      have HK := Lib.hid hK; clear hK
      have e25 : u 25 = .bool false := hd 25 (by decide +kernel)
      refine wpOp_skip rfl (by rw [← u1_eq e25]; kernel_rfl) ?_
      exact k_of (HK.out undef _ rfl hB (Below.refl _ _)) (by rw [← u1_eq e25]; kernel_rfl)
    · intro u W hB _ hd _ K hK
      have HK := Lib.hid hK; clear hK
      have e25 : u 25 = .bool false := hd 25 (by decide +kernel)
      refine wpOp_skip rfl (by rw [← u1_eq e25]; kernel_rfl) ?_
      exact k_of (HK.out undef _ rfl hB (Below.refl _ _)) (by rw [← u1_eq e25]; kernel_rfl)
    · intro u W hB _ hd _ K hK
      have HK := Lib.hid hK; clear hK
      have e25 : u 25 = .bool false := hd 25 (by decide +kernel)
      refine wpOp_skip rfl (by rw [← u1_eq e25]; kernel_rfl) ?_
      exact k_of (HK.out undef _ rfl hB (Below.refl _ _)) (by rw [← u1_eq e25]; kernel_rfl)
    · intro u W hB _ hd _ K hK
      have HK := Lib.hid hK; clear hK
      have e25 : u 25 = .bool false := hd 25 (by decide +kernel)
      refine wpOp_skip rfl (by rw [← u1_eq e25]; kernel_rfl) ?_
      exact k_of (HK.out undef _ rfl hB (Below.refl _ _)) (by rw [← u1_eq e25]; kernel_rfl)
    · intro u W hB _ hd _ K hK
      have HK := Lib.hid hK; clear hK
      have e25 : u 25 = .bool false := hd 25 (by decide +kernel)
      refine wpOp_skip rfl (by rw [← u1_eq e25]; kernel_rfl) ?_
      exact k_of (HK.out undef _ rfl hB (Below.refl _ _)) (by rw [← u1_eq e25]; kernel_rfl)
    · intro u W hB _ hd _ K hK
      have HK := Lib.hid hK; clear hK
      have e25 : u 25 = .bool false := hd 25 (by decide +kernel)
      refine wpOp_skip rfl (by rw [← u1_eq e25]; kernel_rfl) ?_
      exact k_of (HK.out undef _ rfl hB (Below.refl _ _)) (by rw [← u1_eq e25]; kernel_rfl)
    · intro u W hB _ hd _ K hK
      have HK := Lib.hid hK; clear hK
      have e25 : u 25 = .bool false := hd 25 (by decide +kernel)
      refine wpOp_skip rfl (by rw [← u1_eq e25]; kernel_rfl) ?_
      exact k_of (HK.out undef _ rfl hB (Below.refl _ _)) (by rw [← u1_eq e25]; kernel_rfl)
    · intro u W hB _ hd _ K hK
      have HK := Lib.hid hK; clear hK
      have e14 : u 14 = .bool false := hd 14 (by decide +kernel)
      have e25 : u 25 = .bool false := hd 25 (by decide +kernel)
      have e35 : u 35 = undef := hd 35 (by decide +kernel)
      refine wpOp_of rfl (by rw [← u1_eq e14]; kernel_rfl) ?_
      go_simp
      exact k_of (HK.out (.bool false) _ rfl hB (Below.refl _ _)) (by rw [← u1_eq e14, ← u1_eq e25, ← u1_eq e35]; kernel_rfl)
    · intro u W hB _ hd _ K hK
      have HK := Lib.hid hK; clear hK
      have e14 : u 14 = .bool false := hd 14 (by decide +kernel)
      have e36 : u 36 = .bool false := hd 36 (by decide +kernel)
      refine wpOp_of rfl (by rfl) ?_
      go_simp
      exact k_of (HK.out (.bool false) _ rfl hB (Below.refl _ _)) (by rw [← u1_eq e14, ← u1_eq e36]; kernel_rfl)
  · intro u W hB hd
    have e37 : u 37 = .bool false := hd 37 (by decide)
    exact k_of (HQ.out u W hB.out) (by simp only [e37])

/-- What each operation leaves. -/
def lbffR (_P _C _B1 _B2 b o m mc _kk _jj : Nat) (x _y : Int) (p : Sp) (c : Cd) (b1 b2 : Bn) (wp wm : List Int) : Nat → Value → World → Prop
  | 0, v, _ => v = .int .i64 0
  | 1, v, _ => v = .bool false
  | 2, v, _ => v = .bool false
  | 3, v, _ => v = undef
  | 4, v, _ => v = undef
  | 5, v, _ => v = undef
  | 6, v, _ => v = undef
  | 7, v, _ => v = undef
  | 8, v, _ => v = undef
  | 9, v, _ => v = undef
  | 10, v, _ => v = undef
  | 11, v, _ => v = undef
  | 12, v, _ => v = undef
  | 13, v, _ => v = .bool false
  | 14, v, _ => v = .bool false
  | 15, v, _ => v = .agg #[.slice p.ka p.s.ks.length p.kc, .slice p.xa p.s.xs.length p.xc, .int .i64 p.s.flo, .int .i64 p.s.fhi, .int .i64 p.s.plo, .int .i64 p.s.phi]
  | 16, v, _ => v = .agg #[.int .i64 c.wax, .int .i64 c.dia, .int .i64 c.dra, .int .i64 c.clo, .int .i64 c.chi]
  | 17, v, _ => v = .agg #[.int .i64 b1.rate, .int .i64 b1.flame, .int .i64 b1.pool]
  | 18, v, W => ∃ A1_18 c1_18, v = .slice A1_18 wp.length c1_18 ∧ IntsIn W A1_18 wp
  | 19, v, _ => v = .slice (some ⟨b, o, none⟩) m mc
  | 20, v, _ => v = .int .i64 0
  | 21, v, _ => v = .pointer (some ⟨b, o, none⟩)
  | 22, v, _ => v = .int .i64 x
  | 23, v, _ => v = .bool false
  | 24, v, _ => v = .bool true
  | 25, v, _ => v = .bool true
  | 26, v, _ => v = .agg #[.slice p.ka p.s.ks.length p.kc, .slice p.xa p.s.xs.length p.xc, .int .i64 p.s.flo, .int .i64 p.s.fhi, .int .i64 p.s.plo, .int .i64 p.s.phi]
  | 27, v, _ => v = .agg #[.int .i64 c.wax, .int .i64 c.dia, .int .i64 c.dra, .int .i64 c.clo, .int .i64 c.chi]
  | 28, v, _ => v = .agg #[.int .i64 b2.rate, .int .i64 b2.flame, .int .i64 b2.pool]
  | 29, v, W => ∃ A1_29 c1_29, v = .slice A1_29 wm.length c1_29 ∧ IntsIn W A1_29 wm
  | 30, v, _ => v = .slice (some ⟨b, o, none⟩) m mc
  | 31, v, _ => v = .int .i64 0
  | 32, v, _ => v = .pointer (some ⟨b, o, none⟩)
  | 33, v, _ => v = .int .i64 x
  | 34, v, _ => v = .bool true
  | 35, v, _ => v = .bool false
  | 36, v, _ => v = .bool false
  | 37, v, _ => v = .bool false
  | _, _, _ => True
theorem lbffR_on (P C B1 B2 b o m mc kk jj : Nat) (x y : Int) (p : Sp) (c : Cd) (b1 b2 : Bn) (wp wm : List Int) : ∀ i, i < 38 → ∀ v W W', lbffR P C B1 B2 b o m mc kk jj x y p c b1 b2 wp wm i v W → Below W.heap.size W W' → lbffR P C B1 B2 b o m mc kk jj x y p c b1 b2 wp wm i v W' := by
  iterate 38 (refine all_succ ?_ ?_)
  · exact all_zero
  · exact fun _ _ _ h _ => h
  · exact fun _ _ _ h _ => h
  · exact fun _ _ _ h _ => h
  · exact fun _ _ _ h _ => h
  · exact fun _ _ _ h _ => h
  · exact fun _ _ _ h _ => h
  · exact fun _ _ _ h _ => h
  · exact fun _ _ _ h _ => h
  · exact fun _ _ _ h _ => h
  · exact fun _ _ _ h _ => h
  · exact fun _ _ _ h _ => h
  · exact fun _ _ _ h _ => h
  · exact fun _ _ _ h _ => h
  · exact fun _ _ _ h _ => h
  · exact fun _ _ _ h _ => h
  · exact fun _ _ _ h _ => h
  · exact fun _ _ _ h _ => h
  · exact fun _ _ _ h _ => h
  · rintro v W W' ⟨A1_18, c1_18, e, h0⟩ hb; exact ⟨A1_18, c1_18, e, h0.on hb⟩
  · exact fun _ _ _ h _ => h
  · exact fun _ _ _ h _ => h
  · exact fun _ _ _ h _ => h
  · exact fun _ _ _ h _ => h
  · exact fun _ _ _ h _ => h
  · exact fun _ _ _ h _ => h
  · exact fun _ _ _ h _ => h
  · exact fun _ _ _ h _ => h
  · exact fun _ _ _ h _ => h
  · exact fun _ _ _ h _ => h
  · rintro v W W' ⟨A1_29, c1_29, e, h0⟩ hb; exact ⟨A1_29, c1_29, e, h0.on hb⟩
  · exact fun _ _ _ h _ => h
  · exact fun _ _ _ h _ => h
  · exact fun _ _ _ h _ => h
  · exact fun _ _ _ h _ => h
  · exact fun _ _ _ h _ => h
  · exact fun _ _ _ h _ => h
  · exact fun _ _ _ h _ => h
  · exact fun _ _ _ h _ => h
set_option maxRecDepth 100000 in
set_option maxHeartbeats 8000000 in
theorem lbff_region {S : World → Prop} (hon : ∀ W W', S W → Below W.heap.size W W' → S W') {P C B1 B2 b o m mc kk jj : Nat} {x y : Int} {p : Sp} {c : Cd} {b1 b2 : Bn} {wp wm : List Int} (hP : ∀ W, S W → Blk W P 27 #[.slice p.ka p.s.ks.length p.kc, .slice p.xa p.s.xs.length p.xc, .int .i64 p.s.flo, .int .i64 p.s.fhi, .int .i64 p.s.plo, .int .i64 p.s.phi]) (hC : ∀ W, S W → Blk W C 34 #[.int .i64 c.wax, .int .i64 c.dia, .int .i64 c.dra, .int .i64 c.clo, .int .i64 c.chi]) (hB1 : ∀ W, S W → Blk W B1 40 #[.int .i64 b1.rate, .int .i64 b1.flame, .int .i64 b1.pool]) (HW1 : Hid (∀ W, S W → Calls Try.prog 40 #[.agg #[.slice p.ka p.s.ks.length p.kc, .slice p.xa p.s.xs.length p.xc, .int .i64 p.s.flo, .int .i64 p.s.fhi, .int .i64 p.s.plo, .int .i64 p.s.phi], .agg #[.int .i64 c.wax, .int .i64 c.dia, .int .i64 c.dra, .int .i64 c.clo, .int .i64 c.chi], .agg #[.int .i64 b1.rate, .int .i64 b1.flame, .int .i64 b1.pool]] W fun e w' => ∃ A1 c1, e = .returned (.slice A1 wp.length c1) ∧ IntsIn w' A1 wp ∧ Below W.heap.size W w')) (hA : decide (x ∈ wp) = false) (hkm : 0 < m) (hx : ∀ W, S W → W.cell? ⟨b, o, none⟩ = some (.int .i64 x)) (hB2 : ∀ W, S W → Blk W B2 40 #[.int .i64 b2.rate, .int .i64 b2.flame, .int .i64 b2.pool]) (HW2 : Hid (∀ W, S W → Calls Try.prog 40 #[.agg #[.slice p.ka p.s.ks.length p.kc, .slice p.xa p.s.xs.length p.xc, .int .i64 p.s.flo, .int .i64 p.s.fhi, .int .i64 p.s.plo, .int .i64 p.s.phi], .agg #[.int .i64 c.wax, .int .i64 c.dia, .int .i64 c.dra, .int .i64 c.clo, .int .i64 c.chi], .agg #[.int .i64 b2.rate, .int .i64 b2.flame, .int .i64 b2.pool]] W fun e w' => ∃ A1 c1, e = .returned (.slice A1 wm.length c1) ∧ IntsIn w' A1 wm ∧ Below W.heap.size W w')) (hA2 : decide (x ∈ wm) = true)  {Q : Exit → Act → World → Prop} {s0 s1 s2 s5 s6 s7 s9 s10 s11 s12 s13 s14 s15 s16 s17 s21 s22 s23 s24 s25 s26 s27 s28 s29 s30 s31 s32 s33 s34 s35 s36 s37 s38 s39 s40 s41 s42 s43 s44 s45 s46 s47 s48 s49 s50 s51 s52 s53 s54 s55 s56 s57 s58 s59 s60 s61 s62 s63 s64 s65 s66 s67 s68 s69 s70 s71 s72 s73 s74 s75 s76 s77 s78 s79 s80 s81 s82 s83 s84 s85 s86 s87 s88 s89 s90 s91 s92 s93 s94 s95 s96 s97 s98 s99 s100 s101 s102 s103 s104 s105 s106 s107 s108 s109 s110 s111 s112 s113 s114 s115 s116 s117 s118 s119 s120 s121 s122 s123 s162 s163 s164 s165 s166 s167 s168 s169 s170 s124 s125 s126 s127 s128 s129 s130 s131 s132 s133 s134 s135 s136 s137 s138 s139 s140 s141 s142 s143 s144 s145 s146 s147 s148 s149 s150 s151 s152 s153 s154 s155 s156 s157 s158 s159 s160 s161 : Value} {W0 : World} (HL : Hid (S W0))
    (HQ : Hid (∀ (u : Nat → Value) (W : World), S W → Q .normal ⟨#[s0, s1, s2, .pointer (some ⟨P, 0, none⟩), .pointer (some ⟨C, 0, none⟩), s5, s6, s7, .slice (some ⟨b, o, none⟩) m mc, s9, s10, s11, s12, s13, s14, s15, s16, s17, .pointer (some ⟨B1, 0, none⟩), .pointer (some ⟨B2, 0, none⟩), .int .i64 0, s21, s22, s23, s24, s25, s26, s27, s28, s29, s30, s31, s32, s33, s34, s35, s36, s37, s38, s39, s40, s41, s42, s43, s44, s45, s46, s47, s48, s49, s50, s51, s52, s53, s54, s55, s56, s57, s58, s59, s60, s61, s62, s63, s64, s65, s66, s67, s68, s69, s70, s71, s72, s73, s74, s75, s76, s77, s78, s79, s80, s81, s82, s83, s84, s85, s86, s87, s88, s89, s90, s91, s92, s93, s94, s95, s96, s97, s98, s99, s100, s101, s102, s103, s104, s105, s106, s107, s108, s109, s110, s111, s112, s113, s114, s115, s116, s117, s118, s119, s120, s121, s122, s123, u 0, u 1, u 2, u 3, u 4, u 5, u 6, u 7, u 8, u 9, u 10, u 11, u 12, u 13, u 14, u 15, u 16, u 17, u 18, u 19, u 20, u 21, u 22, u 23, u 24, u 25, u 26, u 27, u 28, u 29, u 30, u 31, u 32, u 33, u 34, u 35, u 36, .bool false, s162, s163, s164, s165, s166, s167, s168, s169, s170], []⟩ W)) :
    Code.wp Try.prog ((Try.f8.body.bind (regionAt 21)).getD .skip) Q ⟨#[s0, s1, s2, .pointer (some ⟨P, 0, none⟩), .pointer (some ⟨C, 0, none⟩), s5, s6, s7, .slice (some ⟨b, o, none⟩) m mc, s9, s10, s11, s12, s13, s14, s15, s16, s17, .pointer (some ⟨B1, 0, none⟩), .pointer (some ⟨B2, 0, none⟩), .int .i64 0, s21, s22, s23, s24, s25, s26, s27, s28, s29, s30, s31, s32, s33, s34, s35, s36, s37, s38, s39, s40, s41, s42, s43, s44, s45, s46, s47, s48, s49, s50, s51, s52, s53, s54, s55, s56, s57, s58, s59, s60, s61, s62, s63, s64, s65, s66, s67, s68, s69, s70, s71, s72, s73, s74, s75, s76, s77, s78, s79, s80, s81, s82, s83, s84, s85, s86, s87, s88, s89, s90, s91, s92, s93, s94, s95, s96, s97, s98, s99, s100, s101, s102, s103, s104, s105, s106, s107, s108, s109, s110, s111, s112, s113, s114, s115, s116, s117, s118, s119, s120, s121, s122, s123, s124, s125, s126, s127, s128, s129, s130, s131, s132, s133, s134, s135, s136, s137, s138, s139, s140, s141, s142, s143, s144, s145, s146, s147, s148, s149, s150, s151, s152, s153, s154, s155, s156, s157, s158, s159, s160, s161, s162, s163, s164, s165, s166, s167, s168, s169, s170], []⟩ W0 := by
  conv => arg 2; whnf
  refine wp_region_spec (by kernel_rfl) 38 (by kernel_rfl) (fun u => ⟨#[s0, s1, s2, .pointer (some ⟨P, 0, none⟩), .pointer (some ⟨C, 0, none⟩), s5, s6, s7, .slice (some ⟨b, o, none⟩) m mc, s9, s10, s11, s12, s13, s14, s15, s16, s17, .pointer (some ⟨B1, 0, none⟩), .pointer (some ⟨B2, 0, none⟩), .int .i64 0, s21, s22, s23, s24, s25, s26, s27, s28, s29, s30, s31, s32, s33, s34, s35, s36, s37, s38, s39, s40, s41, s42, s43, s44, s45, s46, s47, s48, s49, s50, s51, s52, s53, s54, s55, s56, s57, s58, s59, s60, s61, s62, s63, s64, s65, s66, s67, s68, s69, s70, s71, s72, s73, s74, s75, s76, s77, s78, s79, s80, s81, s82, s83, s84, s85, s86, s87, s88, s89, s90, s91, s92, s93, s94, s95, s96, s97, s98, s99, s100, s101, s102, s103, s104, s105, s106, s107, s108, s109, s110, s111, s112, s113, s114, s115, s116, s117, s118, s119, s120, s121, s122, s123, u 0, u 1, u 2, u 3, u 4, u 5, u 6, u 7, u 8, u 9, u 10, u 11, u 12, u 13, u 14, u 15, u 16, u 17, u 18, u 19, u 20, u 21, u 22, u 23, u 24, u 25, u 26, u 27, u 28, u 29, u 30, u 31, u 32, u 33, u 34, u 35, u 36, u 37, s162, s163, s164, s165, s166, s167, s168, s169, s170], []⟩) (fun i => if i = 0 then s124 else if i = 1 then s125 else if i = 2 then s126 else if i = 3 then s127 else if i = 4 then s128 else if i = 5 then s129 else if i = 6 then s130 else if i = 7 then s131 else if i = 8 then s132 else if i = 9 then s133 else if i = 10 then s134 else if i = 11 then s135 else if i = 12 then s136 else if i = 13 then s137 else if i = 14 then s138 else if i = 15 then s139 else if i = 16 then s140 else if i = 17 then s141 else if i = 18 then s142 else if i = 19 then s143 else if i = 20 then s144 else if i = 21 then s145 else if i = 22 then s146 else if i = 23 then s147 else if i = 24 then s148 else if i = 25 then s149 else if i = 26 then s150 else if i = 27 then s151 else if i = 28 then s152 else if i = 29 then s153 else if i = 30 then s154 else if i = 31 then s155 else if i = 32 then s156 else if i = 33 then s157 else if i = 34 then s158 else if i = 35 then s159 else if i = 36 then s160 else if i = 37 then s161 else undef) (fun W => Hid (S W)) (lbffR P C B1 B2 b o m mc kk jj x y p c b1 b2 wp wm) (by kernel_rfl) (hon _ _ HL.out (Below.refl _ _).drew) (fun i v W W2 hi h hb => lbffR_on P C B1 B2 b o m mc kk jj x y p c b1 b2 wp wm i hi v W W2 h hb) (by decide +kernel) ?_ ?_
  · iterate 38 (refine all_succ ?_ ?_)
    · exact all_zero
    · intro u W hB _ hd _ K hK
      have HK := Lib.hid hK; clear hK
      refine wpOp_of rfl (by rfl) ?_
      go_simp
      exact k_of (HK.out (.int .i64 0) _ rfl hB (Below.refl _ _)) (by kernel_rfl)
    · intro u W hB _ hd _ K hK
      have HK := Lib.hid hK; clear hK
      have e0 : u 0 = .int .i64 0 := hd 0 (by decide +kernel)
      refine wpOp_of rfl (by rfl) ?_
      go_simp
      exact k_of (HK.out (.bool false) _ rfl hB (Below.refl _ _)) (by rw [← u1_eq e0]; kernel_rfl)
    · intro u W hB _ hd _ K hK
      have HK := Lib.hid hK; clear hK
      have e1 : u 1 = .bool false := hd 1 (by decide +kernel)
      refine wpOp_of rfl (by rfl) ?_
      go_simp
      exact k_of (HK.out (.bool false) _ rfl hB (Below.refl _ _)) (by rw [← u1_eq e1]; kernel_rfl)
    · intro u W hB _ hd _ K hK
      have HK := Lib.hid hK; clear hK
      have e2 : u 2 = .bool false := hd 2 (by decide +kernel)
      refine wpOp_skip rfl (by rw [← u1_eq e2]; kernel_rfl) ?_
      exact k_of (HK.out undef _ rfl hB (Below.refl _ _)) (by rw [← u1_eq e2]; kernel_rfl)
    · intro u W hB _ hd _ K hK
      have HK := Lib.hid hK; clear hK
      have e2 : u 2 = .bool false := hd 2 (by decide +kernel)
      refine wpOp_skip rfl (by rw [← u1_eq e2]; kernel_rfl) ?_
      exact k_of (HK.out undef _ rfl hB (Below.refl _ _)) (by rw [← u1_eq e2]; kernel_rfl)
    · intro u W hB _ hd _ K hK
      have HK := Lib.hid hK; clear hK
      have e2 : u 2 = .bool false := hd 2 (by decide +kernel)
      refine wpOp_skip rfl (by rw [← u1_eq e2]; kernel_rfl) ?_
      exact k_of (HK.out undef _ rfl hB (Below.refl _ _)) (by rw [← u1_eq e2]; kernel_rfl)
    · intro u W hB _ hd _ K hK
      have HK := Lib.hid hK; clear hK
      have e2 : u 2 = .bool false := hd 2 (by decide +kernel)
      refine wpOp_skip rfl (by rw [← u1_eq e2]; kernel_rfl) ?_
      exact k_of (HK.out undef _ rfl hB (Below.refl _ _)) (by rw [← u1_eq e2]; kernel_rfl)
    · intro u W hB _ hd _ K hK
      have HK := Lib.hid hK; clear hK
      have e2 : u 2 = .bool false := hd 2 (by decide +kernel)
      refine wpOp_skip rfl (by rw [← u1_eq e2]; kernel_rfl) ?_
      exact k_of (HK.out undef _ rfl hB (Below.refl _ _)) (by rw [← u1_eq e2]; kernel_rfl)
    · intro u W hB _ hd _ K hK
      have HK := Lib.hid hK; clear hK
      have e2 : u 2 = .bool false := hd 2 (by decide +kernel)
      refine wpOp_skip rfl (by rw [← u1_eq e2]; kernel_rfl) ?_
      exact k_of (HK.out undef _ rfl hB (Below.refl _ _)) (by rw [← u1_eq e2]; kernel_rfl)
    · intro u W hB _ hd _ K hK
      have HK := Lib.hid hK; clear hK
      have e2 : u 2 = .bool false := hd 2 (by decide +kernel)
      refine wpOp_skip rfl (by rw [← u1_eq e2]; kernel_rfl) ?_
      exact k_of (HK.out undef _ rfl hB (Below.refl _ _)) (by rw [← u1_eq e2]; kernel_rfl)
    · intro u W hB _ hd _ K hK
      have HK := Lib.hid hK; clear hK
      have e2 : u 2 = .bool false := hd 2 (by decide +kernel)
      refine wpOp_skip rfl (by rw [← u1_eq e2]; kernel_rfl) ?_
      exact k_of (HK.out undef _ rfl hB (Below.refl _ _)) (by rw [← u1_eq e2]; kernel_rfl)
    · intro u W hB _ hd _ K hK
      have HK := Lib.hid hK; clear hK
      have e2 : u 2 = .bool false := hd 2 (by decide +kernel)
      refine wpOp_skip rfl (by rw [← u1_eq e2]; kernel_rfl) ?_
      exact k_of (HK.out undef _ rfl hB (Below.refl _ _)) (by rw [← u1_eq e2]; kernel_rfl)
    · intro u W hB _ hd _ K hK
      have HK := Lib.hid hK; clear hK
      have e2 : u 2 = .bool false := hd 2 (by decide +kernel)
      refine wpOp_skip rfl (by rw [← u1_eq e2]; kernel_rfl) ?_
      exact k_of (HK.out undef _ rfl hB (Below.refl _ _)) (by rw [← u1_eq e2]; kernel_rfl)
    · intro u W hB _ hd _ K hK
      have HK := Lib.hid hK; clear hK
      have e2 : u 2 = .bool false := hd 2 (by decide +kernel)
      have e12 : u 12 = undef := hd 12 (by decide +kernel)
      refine wpOp_of rfl (by rfl) ?_
      go_simp
      exact k_of (HK.out (.bool false) _ rfl hB (Below.refl _ _)) (by rw [← u1_eq e2, ← u1_eq e12]; kernel_rfl)
    · intro u W hB _ hd _ K hK
      have HK := Lib.hid hK; clear hK
      have e13 : u 13 = .bool false := hd 13 (by decide +kernel)
      refine wpOp_of rfl (by rfl) ?_
      go_simp
      exact k_of (HK.out (.bool false) _ rfl hB (Below.refl _ _)) (by rw [← u1_eq e13]; kernel_rfl)
    · intro u W hB _ hd _ K hK
      have HK := Lib.hid hK; clear hK
      have e14 : u 14 = .bool false := hd 14 (by decide +kernel)
      refine wpOp_of rfl (by rw [← u1_eq e14]; kernel_rfl) ?_
      have z0 := (hP W hB.out).cell 0; have z1 := (hP W hB.out).cell 1; have z2 := (hP W hB.out).cell 2; have z3 := (hP W hB.out).cell 3; have z4 := (hP W hB.out).cell 4; have z5 := (hP W hB.out).cell 5
      go_simp
      exact k_of (HK.out (.agg #[.slice p.ka p.s.ks.length p.kc, .slice p.xa p.s.xs.length p.xc, .int .i64 p.s.flo, .int .i64 p.s.fhi, .int .i64 p.s.plo, .int .i64 p.s.phi]) _ rfl hB (Below.refl _ _)) (by rw [← u1_eq e14]; kernel_rfl)
    · intro u W hB _ hd _ K hK
      have HK := Lib.hid hK; clear hK
      have e14 : u 14 = .bool false := hd 14 (by decide +kernel)
      refine wpOp_of rfl (by rw [← u1_eq e14]; kernel_rfl) ?_
      have z0 := (hC W hB.out).cell 0; have z1 := (hC W hB.out).cell 1; have z2 := (hC W hB.out).cell 2; have z3 := (hC W hB.out).cell 3; have z4 := (hC W hB.out).cell 4
      go_simp
      exact k_of (HK.out (.agg #[.int .i64 c.wax, .int .i64 c.dia, .int .i64 c.dra, .int .i64 c.clo, .int .i64 c.chi]) _ rfl hB (Below.refl _ _)) (by rw [← u1_eq e14]; kernel_rfl)
    · intro u W hB _ hd _ K hK
      have HK := Lib.hid hK; clear hK
      have e14 : u 14 = .bool false := hd 14 (by decide +kernel)
      refine wpOp_of rfl (by rw [← u1_eq e14]; kernel_rfl) ?_
      have z0 := (hB1 W hB.out).cell 0; have z1 := (hB1 W hB.out).cell 1; have z2 := (hB1 W hB.out).cell 2
      go_simp
      exact k_of (HK.out (.agg #[.int .i64 b1.rate, .int .i64 b1.flame, .int .i64 b1.pool]) _ rfl hB (Below.refl _ _)) (by rw [← u1_eq e14]; kernel_rfl)
    · intro u W hB _ hd _ K hK
      have HK := Lib.hid hK; clear hK
      have e14 : u 14 = .bool false := hd 14 (by decide +kernel)
      have e15 : u 15 = .agg #[.slice p.ka p.s.ks.length p.kc, .slice p.xa p.s.xs.length p.xc, .int .i64 p.s.flo, .int .i64 p.s.fhi, .int .i64 p.s.plo, .int .i64 p.s.phi] := hd 15 (by decide +kernel)
      have e16 : u 16 = .agg #[.int .i64 c.wax, .int .i64 c.dia, .int .i64 c.dra, .int .i64 c.clo, .int .i64 c.chi] := hd 16 (by decide +kernel)
      have e17 : u 17 = .agg #[.int .i64 b1.rate, .int .i64 b1.flame, .int .i64 b1.pool] := hd 17 (by decide +kernel)
      refine wpOp_of rfl (by rw [← u1_eq e14]; kernel_rfl) ?_
      go_simp
      refine (HW1.out W hB.out).mono ?_
      rintro e w' ⟨A1, c1, rfl, hi, hb⟩
      exact k_of (HK.out (.slice A1 wp.length c1) _ ⟨A1, c1, rfl, hi⟩ (hon _ _ hB.out hb) hb) (by rw [← u1_eq e14, ← u1_eq e15, ← u1_eq e16, ← u1_eq e17]; kernel_rfl)
    · intro u W hB _ hd _ K hK
      have HK := Lib.hid hK; clear hK
      have e14 : u 14 = .bool false := hd 14 (by decide +kernel)
      refine wpOp_of rfl (by rw [← u1_eq e14]; kernel_rfl) ?_
      go_simp
      exact k_of (HK.out (.slice (some ⟨b, o, none⟩) m mc) _ rfl hB (Below.refl _ _)) (by rw [← u1_eq e14]; kernel_rfl)
    · intro u W hB _ hd _ K hK
      have HK := Lib.hid hK; clear hK
      have e14 : u 14 = .bool false := hd 14 (by decide +kernel)
      refine wpOp_of rfl (by rw [← u1_eq e14]; kernel_rfl) ?_
      go_simp
      exact k_of (HK.out (.int .i64 0) _ rfl hB (Below.refl _ _)) (by rw [← u1_eq e14]; kernel_rfl)
    · intro u W hB _ hd _ K hK
      have HK := Lib.hid hK; clear hK
      have e14 : u 14 = .bool false := hd 14 (by decide +kernel)
      have e19 : u 19 = .slice (some ⟨b, o, none⟩) m mc := hd 19 (by decide +kernel)
      have e20 : u 20 = .int .i64 0 := hd 20 (by decide +kernel)
      refine wpOp_of rfl (by rw [← u1_eq e14]; kernel_rfl) ?_
      go_simp
      exact k_of (HK.out (.pointer (some ⟨b, o, none⟩)) _ rfl hB (Below.refl _ _)) (by rw [← u1_eq e14, ← u1_eq e19, ← u1_eq e20]; kernel_rfl)
    · intro u W hB _ hd _ K hK
      have HK := Lib.hid hK; clear hK
      have e14 : u 14 = .bool false := hd 14 (by decide +kernel)
      have e21 : u 21 = .pointer (some ⟨b, o, none⟩) := hd 21 (by decide +kernel)
      refine wpOp_of rfl (by rw [← u1_eq e14]; kernel_rfl) ?_
      have zx := hx W hB.out
      go_simp
      exact k_of (HK.out (.int .i64 x) _ rfl hB (Below.refl _ _)) (by rw [← u1_eq e14, ← u1_eq e21]; kernel_rfl)
    · intro u W hB _ hd _ K hK
      have HK := Lib.hid hK; clear hK
      have e14 : u 14 = .bool false := hd 14 (by decide +kernel)
      obtain ⟨A1_18, c1_18, e18, f18_0⟩ : lbffR P C B1 B2 b o m mc kk jj x y p c b1 b2 wp wm 18 (u 18) W := hd 18 (by decide +kernel)
      have e22 : u 22 = .int .i64 x := hd 22 (by decide +kernel)
      refine wpOp_of rfl (by rw [← u1_eq e14]; kernel_rfl) ?_
      go_simp
      refine (rhas_any f18_0 x).mono ?_; simp only [hA]
      rintro e w' ⟨rfl, rfl⟩
      exact k_of (HK.out (.bool false) _ rfl hB (Below.refl _ _)) (by rw [← u1_eq e14, ← u1_eq e18, ← u1_eq e22]; kernel_rfl)
    · intro u W hB _ hd _ K hK
      have HK := Lib.hid hK; clear hK
      have e14 : u 14 = .bool false := hd 14 (by decide +kernel)
      have e23 : u 23 = .bool false := hd 23 (by decide +kernel)
      refine wpOp_of rfl (by rw [← u1_eq e14]; kernel_rfl) ?_
      go_simp
      exact k_of (HK.out (.bool true) _ rfl hB (Below.refl _ _)) (by rw [← u1_eq e14, ← u1_eq e23]; kernel_rfl)
    · intro u W hB _ hd _ K hK
      have HK := Lib.hid hK; clear hK
      have e14 : u 14 = .bool false := hd 14 (by decide +kernel)
      have e24 : u 24 = .bool true := hd 24 (by decide +kernel)
      refine wpOp_of rfl (by rw [← u1_eq e14]; kernel_rfl) ?_
      go_simp
      exact k_of (HK.out (.bool true) _ rfl hB (Below.refl _ _)) (by rw [← u1_eq e14, ← u1_eq e24]; kernel_rfl)
    · intro u W hB _ hd _ K hK
      have HK := Lib.hid hK; clear hK
      have e25 : u 25 = .bool true := hd 25 (by decide +kernel)
      refine wpOp_of rfl (by rw [← u1_eq e25]; kernel_rfl) ?_
      have z0 := (hP W hB.out).cell 0; have z1 := (hP W hB.out).cell 1; have z2 := (hP W hB.out).cell 2; have z3 := (hP W hB.out).cell 3; have z4 := (hP W hB.out).cell 4; have z5 := (hP W hB.out).cell 5
      go_simp
      exact k_of (HK.out (.agg #[.slice p.ka p.s.ks.length p.kc, .slice p.xa p.s.xs.length p.xc, .int .i64 p.s.flo, .int .i64 p.s.fhi, .int .i64 p.s.plo, .int .i64 p.s.phi]) _ rfl hB (Below.refl _ _)) (by rw [← u1_eq e25]; kernel_rfl)
    · intro u W hB _ hd _ K hK
      have HK := Lib.hid hK; clear hK
      have e25 : u 25 = .bool true := hd 25 (by decide +kernel)
      refine wpOp_of rfl (by rw [← u1_eq e25]; kernel_rfl) ?_
      have z0 := (hC W hB.out).cell 0; have z1 := (hC W hB.out).cell 1; have z2 := (hC W hB.out).cell 2; have z3 := (hC W hB.out).cell 3; have z4 := (hC W hB.out).cell 4
      go_simp
      exact k_of (HK.out (.agg #[.int .i64 c.wax, .int .i64 c.dia, .int .i64 c.dra, .int .i64 c.clo, .int .i64 c.chi]) _ rfl hB (Below.refl _ _)) (by rw [← u1_eq e25]; kernel_rfl)
    · intro u W hB _ hd _ K hK
      have HK := Lib.hid hK; clear hK
      have e25 : u 25 = .bool true := hd 25 (by decide +kernel)
      refine wpOp_of rfl (by rw [← u1_eq e25]; kernel_rfl) ?_
      have z0 := (hB2 W hB.out).cell 0; have z1 := (hB2 W hB.out).cell 1; have z2 := (hB2 W hB.out).cell 2
      go_simp
      exact k_of (HK.out (.agg #[.int .i64 b2.rate, .int .i64 b2.flame, .int .i64 b2.pool]) _ rfl hB (Below.refl _ _)) (by rw [← u1_eq e25]; kernel_rfl)
    · intro u W hB _ hd _ K hK
      have HK := Lib.hid hK; clear hK
      have e25 : u 25 = .bool true := hd 25 (by decide +kernel)
      have e26 : u 26 = .agg #[.slice p.ka p.s.ks.length p.kc, .slice p.xa p.s.xs.length p.xc, .int .i64 p.s.flo, .int .i64 p.s.fhi, .int .i64 p.s.plo, .int .i64 p.s.phi] := hd 26 (by decide +kernel)
      have e27 : u 27 = .agg #[.int .i64 c.wax, .int .i64 c.dia, .int .i64 c.dra, .int .i64 c.clo, .int .i64 c.chi] := hd 27 (by decide +kernel)
      have e28 : u 28 = .agg #[.int .i64 b2.rate, .int .i64 b2.flame, .int .i64 b2.pool] := hd 28 (by decide +kernel)
      refine wpOp_of rfl (by rw [← u1_eq e25]; kernel_rfl) ?_
      go_simp
      refine (HW2.out W hB.out).mono ?_
      rintro e w' ⟨A1, c1, rfl, hi, hb⟩
      exact k_of (HK.out (.slice A1 wm.length c1) _ ⟨A1, c1, rfl, hi⟩ (hon _ _ hB.out hb) hb) (by rw [← u1_eq e25, ← u1_eq e26, ← u1_eq e27, ← u1_eq e28]; kernel_rfl)
    · intro u W hB _ hd _ K hK
      have HK := Lib.hid hK; clear hK
      have e25 : u 25 = .bool true := hd 25 (by decide +kernel)
      refine wpOp_of rfl (by rw [← u1_eq e25]; kernel_rfl) ?_
      go_simp
      exact k_of (HK.out (.slice (some ⟨b, o, none⟩) m mc) _ rfl hB (Below.refl _ _)) (by rw [← u1_eq e25]; kernel_rfl)
    · intro u W hB _ hd _ K hK
      have HK := Lib.hid hK; clear hK
      have e25 : u 25 = .bool true := hd 25 (by decide +kernel)
      refine wpOp_of rfl (by rw [← u1_eq e25]; kernel_rfl) ?_
      go_simp
      exact k_of (HK.out (.int .i64 0) _ rfl hB (Below.refl _ _)) (by rw [← u1_eq e25]; kernel_rfl)
    · intro u W hB _ hd _ K hK
      have HK := Lib.hid hK; clear hK
      have e25 : u 25 = .bool true := hd 25 (by decide +kernel)
      have e30 : u 30 = .slice (some ⟨b, o, none⟩) m mc := hd 30 (by decide +kernel)
      have e31 : u 31 = .int .i64 0 := hd 31 (by decide +kernel)
      refine wpOp_of rfl (by rw [← u1_eq e25]; kernel_rfl) ?_
      go_simp
      exact k_of (HK.out (.pointer (some ⟨b, o, none⟩)) _ rfl hB (Below.refl _ _)) (by rw [← u1_eq e25, ← u1_eq e30, ← u1_eq e31]; kernel_rfl)
    · intro u W hB _ hd _ K hK
      have HK := Lib.hid hK; clear hK
      have e25 : u 25 = .bool true := hd 25 (by decide +kernel)
      have e32 : u 32 = .pointer (some ⟨b, o, none⟩) := hd 32 (by decide +kernel)
      refine wpOp_of rfl (by rw [← u1_eq e25]; kernel_rfl) ?_
      have zx := hx W hB.out
      go_simp
      exact k_of (HK.out (.int .i64 x) _ rfl hB (Below.refl _ _)) (by rw [← u1_eq e25, ← u1_eq e32]; kernel_rfl)
    · intro u W hB _ hd _ K hK
      have HK := Lib.hid hK; clear hK
      have e25 : u 25 = .bool true := hd 25 (by decide +kernel)
      obtain ⟨A1_29, c1_29, e29, f29_0⟩ : lbffR P C B1 B2 b o m mc kk jj x y p c b1 b2 wp wm 29 (u 29) W := hd 29 (by decide +kernel)
      have e33 : u 33 = .int .i64 x := hd 33 (by decide +kernel)
      refine wpOp_of rfl (by rw [← u1_eq e25]; kernel_rfl) ?_
      go_simp
      refine (rhas_any f29_0 x).mono ?_; simp only [hA2]
      rintro e w' ⟨rfl, rfl⟩
      exact k_of (HK.out (.bool true) _ rfl hB (Below.refl _ _)) (by rw [← u1_eq e25, ← u1_eq e29, ← u1_eq e33]; kernel_rfl)
    · intro u W hB _ hd _ K hK
      have HK := Lib.hid hK; clear hK
      have e25 : u 25 = .bool true := hd 25 (by decide +kernel)
      have e34 : u 34 = .bool true := hd 34 (by decide +kernel)
      refine wpOp_of rfl (by rw [← u1_eq e25]; kernel_rfl) ?_
      go_simp
      exact k_of (HK.out (.bool false) _ rfl hB (Below.refl _ _)) (by rw [← u1_eq e25, ← u1_eq e34]; kernel_rfl)
    · intro u W hB _ hd _ K hK
      have HK := Lib.hid hK; clear hK
      have e14 : u 14 = .bool false := hd 14 (by decide +kernel)
      have e25 : u 25 = .bool true := hd 25 (by decide +kernel)
      have e35 : u 35 = .bool false := hd 35 (by decide +kernel)
      refine wpOp_of rfl (by rw [← u1_eq e14]; kernel_rfl) ?_
      go_simp
      exact k_of (HK.out (.bool false) _ rfl hB (Below.refl _ _)) (by rw [← u1_eq e14, ← u1_eq e25, ← u1_eq e35]; kernel_rfl)
    · intro u W hB _ hd _ K hK
      have HK := Lib.hid hK; clear hK
      have e14 : u 14 = .bool false := hd 14 (by decide +kernel)
      have e36 : u 36 = .bool false := hd 36 (by decide +kernel)
      refine wpOp_of rfl (by rfl) ?_
      go_simp
      exact k_of (HK.out (.bool false) _ rfl hB (Below.refl _ _)) (by rw [← u1_eq e14, ← u1_eq e36]; kernel_rfl)
  · intro u W hB hd
    have e37 : u 37 = .bool false := hd 37 (by decide)
    exact k_of (HQ.out u W hB.out) (by simp only [e37])

/-- What each operation leaves. -/
def lbntR (_P _C _B1 _B2 b o m mc kk jj : Nat) (x y : Int) (p : Sp) (c : Cd) (b1 _b2 : Bn) (wp _wm : List Int) : Nat → Value → World → Prop
  | 0, v, _ => v = .int .i64 (kk : Int)
  | 1, v, _ => v = .bool true
  | 2, v, _ => v = .bool true
  | 3, v, _ => v = .slice (some ⟨b, o, none⟩) m mc
  | 4, v, _ => v = .int .i64 (kk : Int)
  | 5, v, _ => v = .pointer (some ⟨b, o + kk, none⟩)
  | 6, v, _ => v = .int .i64 x
  | 7, v, _ => v = .slice (some ⟨b, o, none⟩) m mc
  | 8, v, _ => v = .int .i64 (kk : Int)
  | 9, v, _ => v = .int .i64 (jj : Int)
  | 10, v, _ => v = .pointer (some ⟨b, o + jj, none⟩)
  | 11, v, _ => v = .int .i64 y
  | 12, v, _ => v = .bool false
  | 13, v, _ => v = .bool false
  | 14, v, _ => v = .bool false
  | 15, v, _ => v = .agg #[.slice p.ka p.s.ks.length p.kc, .slice p.xa p.s.xs.length p.xc, .int .i64 p.s.flo, .int .i64 p.s.fhi, .int .i64 p.s.plo, .int .i64 p.s.phi]
  | 16, v, _ => v = .agg #[.int .i64 c.wax, .int .i64 c.dia, .int .i64 c.dra, .int .i64 c.clo, .int .i64 c.chi]
  | 17, v, _ => v = .agg #[.int .i64 b1.rate, .int .i64 b1.flame, .int .i64 b1.pool]
  | 18, v, W => ∃ A1_18 c1_18, v = .slice A1_18 wp.length c1_18 ∧ IntsIn W A1_18 wp
  | 19, v, _ => v = .slice (some ⟨b, o, none⟩) m mc
  | 20, v, _ => v = .int .i64 (kk : Int)
  | 21, v, _ => v = .pointer (some ⟨b, o + kk, none⟩)
  | 22, v, _ => v = .int .i64 x
  | 23, v, _ => v = .bool true
  | 24, v, _ => v = .bool false
  | 25, v, _ => v = .bool false
  | 26, v, _ => v = undef
  | 27, v, _ => v = undef
  | 28, v, _ => v = undef
  | 29, v, _ => v = undef
  | 30, v, _ => v = undef
  | 31, v, _ => v = undef
  | 32, v, _ => v = undef
  | 33, v, _ => v = undef
  | 34, v, _ => v = undef
  | 35, v, _ => v = undef
  | 36, v, _ => v = .bool false
  | 37, v, _ => v = .bool false
  | _, _, _ => True
theorem lbntR_on (P C B1 B2 b o m mc kk jj : Nat) (x y : Int) (p : Sp) (c : Cd) (b1 b2 : Bn) (wp wm : List Int) : ∀ i, i < 38 → ∀ v W W', lbntR P C B1 B2 b o m mc kk jj x y p c b1 b2 wp wm i v W → Below W.heap.size W W' → lbntR P C B1 B2 b o m mc kk jj x y p c b1 b2 wp wm i v W' := by
  iterate 38 (refine all_succ ?_ ?_)
  · exact all_zero
  · exact fun _ _ _ h _ => h
  · exact fun _ _ _ h _ => h
  · exact fun _ _ _ h _ => h
  · exact fun _ _ _ h _ => h
  · exact fun _ _ _ h _ => h
  · exact fun _ _ _ h _ => h
  · exact fun _ _ _ h _ => h
  · exact fun _ _ _ h _ => h
  · exact fun _ _ _ h _ => h
  · exact fun _ _ _ h _ => h
  · exact fun _ _ _ h _ => h
  · exact fun _ _ _ h _ => h
  · exact fun _ _ _ h _ => h
  · exact fun _ _ _ h _ => h
  · exact fun _ _ _ h _ => h
  · exact fun _ _ _ h _ => h
  · exact fun _ _ _ h _ => h
  · exact fun _ _ _ h _ => h
  · rintro v W W' ⟨A1_18, c1_18, e, h0⟩ hb; exact ⟨A1_18, c1_18, e, h0.on hb⟩
  · exact fun _ _ _ h _ => h
  · exact fun _ _ _ h _ => h
  · exact fun _ _ _ h _ => h
  · exact fun _ _ _ h _ => h
  · exact fun _ _ _ h _ => h
  · exact fun _ _ _ h _ => h
  · exact fun _ _ _ h _ => h
  · exact fun _ _ _ h _ => h
  · exact fun _ _ _ h _ => h
  · exact fun _ _ _ h _ => h
  · exact fun _ _ _ h _ => h
  · exact fun _ _ _ h _ => h
  · exact fun _ _ _ h _ => h
  · exact fun _ _ _ h _ => h
  · exact fun _ _ _ h _ => h
  · exact fun _ _ _ h _ => h
  · exact fun _ _ _ h _ => h
  · exact fun _ _ _ h _ => h
  · exact fun _ _ _ h _ => h
set_option maxRecDepth 100000 in
set_option maxHeartbeats 8000000 in
theorem lbnt_region {S : World → Prop} (hon : ∀ W W', S W → Below W.heap.size W W' → S W') {P C B1 B2 b o m mc kk jj : Nat} {x y : Int} {p : Sp} {c : Cd} {b1 b2 : Bn} {wp wm : List Int} (hP : ∀ W, S W → Blk W P 27 #[.slice p.ka p.s.ks.length p.kc, .slice p.xa p.s.xs.length p.xc, .int .i64 p.s.flo, .int .i64 p.s.fhi, .int .i64 p.s.plo, .int .i64 p.s.phi]) (hC : ∀ W, S W → Blk W C 34 #[.int .i64 c.wax, .int .i64 c.dia, .int .i64 c.dra, .int .i64 c.clo, .int .i64 c.chi]) (hB1 : ∀ W, S W → Blk W B1 40 #[.int .i64 b1.rate, .int .i64 b1.flame, .int .i64 b1.pool]) (HW1 : Hid (∀ W, S W → Calls Try.prog 40 #[.agg #[.slice p.ka p.s.ks.length p.kc, .slice p.xa p.s.xs.length p.xc, .int .i64 p.s.flo, .int .i64 p.s.fhi, .int .i64 p.s.plo, .int .i64 p.s.phi], .agg #[.int .i64 c.wax, .int .i64 c.dia, .int .i64 c.dra, .int .i64 c.clo, .int .i64 c.chi], .agg #[.int .i64 b1.rate, .int .i64 b1.flame, .int .i64 b1.pool]] W fun e w' => ∃ A1 c1, e = .returned (.slice A1 wp.length c1) ∧ IntsIn w' A1 wp ∧ Below W.heap.size W w')) (hA : decide (x ∈ wp) = true) (hkm : kk < m) (hx : ∀ W, S W → W.cell? ⟨b, o + kk, none⟩ = some (.int .i64 x)) (hz : 0 < kk) (hjm : jj < m) (hsub : IntKind.i64.wrap ((kk : Int) - 1) = (jj : Int)) (hy : ∀ W, S W → W.cell? ⟨b, o + jj, none⟩ = some (.int .i64 y)) (hxy : decide (x ≤ y) = false)  {Q : Exit → Act → World → Prop} {s0 s1 s2 s5 s6 s7 s9 s10 s11 s12 s13 s14 s15 s16 s17 s21 s22 s23 s24 s25 s26 s27 s28 s29 s30 s31 s32 s33 s34 s35 s36 s37 s38 s39 s40 s41 s42 s43 s44 s45 s46 s47 s48 s49 s50 s51 s52 s53 s54 s55 s56 s57 s58 s59 s60 s61 s62 s63 s64 s65 s66 s67 s68 s69 s70 s71 s72 s73 s74 s75 s76 s77 s78 s79 s80 s81 s82 s83 s84 s85 s86 s87 s88 s89 s90 s91 s92 s93 s94 s95 s96 s97 s98 s99 s100 s101 s102 s103 s104 s105 s106 s107 s108 s109 s110 s111 s112 s113 s114 s115 s116 s117 s118 s119 s120 s121 s122 s123 s162 s163 s164 s165 s166 s167 s168 s169 s170 s124 s125 s126 s127 s128 s129 s130 s131 s132 s133 s134 s135 s136 s137 s138 s139 s140 s141 s142 s143 s144 s145 s146 s147 s148 s149 s150 s151 s152 s153 s154 s155 s156 s157 s158 s159 s160 s161 : Value} {W0 : World} (HL : Hid (S W0))
    (HQ : Hid (∀ (u : Nat → Value) (W : World), S W → Q .normal ⟨#[s0, s1, s2, .pointer (some ⟨P, 0, none⟩), .pointer (some ⟨C, 0, none⟩), s5, s6, s7, .slice (some ⟨b, o, none⟩) m mc, s9, s10, s11, s12, s13, s14, s15, s16, s17, .pointer (some ⟨B1, 0, none⟩), .pointer (some ⟨B2, 0, none⟩), .int .i64 (kk : Int), s21, s22, s23, s24, s25, s26, s27, s28, s29, s30, s31, s32, s33, s34, s35, s36, s37, s38, s39, s40, s41, s42, s43, s44, s45, s46, s47, s48, s49, s50, s51, s52, s53, s54, s55, s56, s57, s58, s59, s60, s61, s62, s63, s64, s65, s66, s67, s68, s69, s70, s71, s72, s73, s74, s75, s76, s77, s78, s79, s80, s81, s82, s83, s84, s85, s86, s87, s88, s89, s90, s91, s92, s93, s94, s95, s96, s97, s98, s99, s100, s101, s102, s103, s104, s105, s106, s107, s108, s109, s110, s111, s112, s113, s114, s115, s116, s117, s118, s119, s120, s121, s122, s123, u 0, u 1, u 2, u 3, u 4, u 5, u 6, u 7, u 8, u 9, u 10, u 11, u 12, u 13, u 14, u 15, u 16, u 17, u 18, u 19, u 20, u 21, u 22, u 23, u 24, u 25, u 26, u 27, u 28, u 29, u 30, u 31, u 32, u 33, u 34, u 35, u 36, .bool false, s162, s163, s164, s165, s166, s167, s168, s169, s170], []⟩ W)) :
    Code.wp Try.prog ((Try.f8.body.bind (regionAt 21)).getD .skip) Q ⟨#[s0, s1, s2, .pointer (some ⟨P, 0, none⟩), .pointer (some ⟨C, 0, none⟩), s5, s6, s7, .slice (some ⟨b, o, none⟩) m mc, s9, s10, s11, s12, s13, s14, s15, s16, s17, .pointer (some ⟨B1, 0, none⟩), .pointer (some ⟨B2, 0, none⟩), .int .i64 (kk : Int), s21, s22, s23, s24, s25, s26, s27, s28, s29, s30, s31, s32, s33, s34, s35, s36, s37, s38, s39, s40, s41, s42, s43, s44, s45, s46, s47, s48, s49, s50, s51, s52, s53, s54, s55, s56, s57, s58, s59, s60, s61, s62, s63, s64, s65, s66, s67, s68, s69, s70, s71, s72, s73, s74, s75, s76, s77, s78, s79, s80, s81, s82, s83, s84, s85, s86, s87, s88, s89, s90, s91, s92, s93, s94, s95, s96, s97, s98, s99, s100, s101, s102, s103, s104, s105, s106, s107, s108, s109, s110, s111, s112, s113, s114, s115, s116, s117, s118, s119, s120, s121, s122, s123, s124, s125, s126, s127, s128, s129, s130, s131, s132, s133, s134, s135, s136, s137, s138, s139, s140, s141, s142, s143, s144, s145, s146, s147, s148, s149, s150, s151, s152, s153, s154, s155, s156, s157, s158, s159, s160, s161, s162, s163, s164, s165, s166, s167, s168, s169, s170], []⟩ W0 := by
  conv => arg 2; whnf
  refine wp_region_spec (by kernel_rfl) 38 (by kernel_rfl) (fun u => ⟨#[s0, s1, s2, .pointer (some ⟨P, 0, none⟩), .pointer (some ⟨C, 0, none⟩), s5, s6, s7, .slice (some ⟨b, o, none⟩) m mc, s9, s10, s11, s12, s13, s14, s15, s16, s17, .pointer (some ⟨B1, 0, none⟩), .pointer (some ⟨B2, 0, none⟩), .int .i64 (kk : Int), s21, s22, s23, s24, s25, s26, s27, s28, s29, s30, s31, s32, s33, s34, s35, s36, s37, s38, s39, s40, s41, s42, s43, s44, s45, s46, s47, s48, s49, s50, s51, s52, s53, s54, s55, s56, s57, s58, s59, s60, s61, s62, s63, s64, s65, s66, s67, s68, s69, s70, s71, s72, s73, s74, s75, s76, s77, s78, s79, s80, s81, s82, s83, s84, s85, s86, s87, s88, s89, s90, s91, s92, s93, s94, s95, s96, s97, s98, s99, s100, s101, s102, s103, s104, s105, s106, s107, s108, s109, s110, s111, s112, s113, s114, s115, s116, s117, s118, s119, s120, s121, s122, s123, u 0, u 1, u 2, u 3, u 4, u 5, u 6, u 7, u 8, u 9, u 10, u 11, u 12, u 13, u 14, u 15, u 16, u 17, u 18, u 19, u 20, u 21, u 22, u 23, u 24, u 25, u 26, u 27, u 28, u 29, u 30, u 31, u 32, u 33, u 34, u 35, u 36, u 37, s162, s163, s164, s165, s166, s167, s168, s169, s170], []⟩) (fun i => if i = 0 then s124 else if i = 1 then s125 else if i = 2 then s126 else if i = 3 then s127 else if i = 4 then s128 else if i = 5 then s129 else if i = 6 then s130 else if i = 7 then s131 else if i = 8 then s132 else if i = 9 then s133 else if i = 10 then s134 else if i = 11 then s135 else if i = 12 then s136 else if i = 13 then s137 else if i = 14 then s138 else if i = 15 then s139 else if i = 16 then s140 else if i = 17 then s141 else if i = 18 then s142 else if i = 19 then s143 else if i = 20 then s144 else if i = 21 then s145 else if i = 22 then s146 else if i = 23 then s147 else if i = 24 then s148 else if i = 25 then s149 else if i = 26 then s150 else if i = 27 then s151 else if i = 28 then s152 else if i = 29 then s153 else if i = 30 then s154 else if i = 31 then s155 else if i = 32 then s156 else if i = 33 then s157 else if i = 34 then s158 else if i = 35 then s159 else if i = 36 then s160 else if i = 37 then s161 else undef) (fun W => Hid (S W)) (lbntR P C B1 B2 b o m mc kk jj x y p c b1 b2 wp wm) (by kernel_rfl) (hon _ _ HL.out (Below.refl _ _).drew) (fun i v W W2 hi h hb => lbntR_on P C B1 B2 b o m mc kk jj x y p c b1 b2 wp wm i hi v W W2 h hb) (by decide +kernel) ?_ ?_
  · iterate 38 (refine all_succ ?_ ?_)
    · exact all_zero
    · intro u W hB _ hd _ K hK
      have HK := Lib.hid hK; clear hK
      refine wpOp_of rfl (by rfl) ?_
      go_simp
      exact k_of (HK.out (.int .i64 (kk : Int)) _ rfl hB (Below.refl _ _)) (by kernel_rfl)
    · intro u W hB _ hd _ K hK
      have HK := Lib.hid hK; clear hK
      have e0 : u 0 = .int .i64 (kk : Int) := hd 0 (by decide +kernel)
      refine wpOp_of rfl (by rfl) ?_
      go_simp
      exact k_of (HK.out (.bool true) _ rfl hB (Below.refl _ _)) (by rw [← u1_eq e0]; kernel_rfl)
    · intro u W hB _ hd _ K hK
      have HK := Lib.hid hK; clear hK
      have e1 : u 1 = .bool true := hd 1 (by decide +kernel)
      refine wpOp_of rfl (by rfl) ?_
      go_simp
      exact k_of (HK.out (.bool true) _ rfl hB (Below.refl _ _)) (by rw [← u1_eq e1]; kernel_rfl)
    · intro u W hB _ hd _ K hK
      have HK := Lib.hid hK; clear hK
      have e2 : u 2 = .bool true := hd 2 (by decide +kernel)
      refine wpOp_of rfl (by rw [← u1_eq e2]; kernel_rfl) ?_
      go_simp
      exact k_of (HK.out (.slice (some ⟨b, o, none⟩) m mc) _ rfl hB (Below.refl _ _)) (by rw [← u1_eq e2]; kernel_rfl)
    · intro u W hB _ hd _ K hK
      have HK := Lib.hid hK; clear hK
      have e2 : u 2 = .bool true := hd 2 (by decide +kernel)
      refine wpOp_of rfl (by rw [← u1_eq e2]; kernel_rfl) ?_
      go_simp
      exact k_of (HK.out (.int .i64 (kk : Int)) _ rfl hB (Below.refl _ _)) (by rw [← u1_eq e2]; kernel_rfl)
    · intro u W hB _ hd _ K hK
      have HK := Lib.hid hK; clear hK
      have e2 : u 2 = .bool true := hd 2 (by decide +kernel)
      have e3 : u 3 = .slice (some ⟨b, o, none⟩) m mc := hd 3 (by decide +kernel)
      have e4 : u 4 = .int .i64 (kk : Int) := hd 4 (by decide +kernel)
      refine wpOp_of rfl (by rw [← u1_eq e2]; kernel_rfl) ?_
      go_simp
      exact k_of (HK.out (.pointer (some ⟨b, o + kk, none⟩)) _ rfl hB (Below.refl _ _)) (by rw [← u1_eq e2, ← u1_eq e3, ← u1_eq e4]; kernel_rfl)
    · intro u W hB _ hd _ K hK
      have HK := Lib.hid hK; clear hK
      have e2 : u 2 = .bool true := hd 2 (by decide +kernel)
      have e5 : u 5 = .pointer (some ⟨b, o + kk, none⟩) := hd 5 (by decide +kernel)
      refine wpOp_of rfl (by rw [← u1_eq e2]; kernel_rfl) ?_
      have zx := hx W hB.out
      go_simp
      exact k_of (HK.out (.int .i64 x) _ rfl hB (Below.refl _ _)) (by rw [← u1_eq e2, ← u1_eq e5]; kernel_rfl)
    · intro u W hB _ hd _ K hK
      have HK := Lib.hid hK; clear hK
      have e2 : u 2 = .bool true := hd 2 (by decide +kernel)
      refine wpOp_of rfl (by rw [← u1_eq e2]; kernel_rfl) ?_
      go_simp
      exact k_of (HK.out (.slice (some ⟨b, o, none⟩) m mc) _ rfl hB (Below.refl _ _)) (by rw [← u1_eq e2]; kernel_rfl)
    · intro u W hB _ hd _ K hK
      have HK := Lib.hid hK; clear hK
      have e2 : u 2 = .bool true := hd 2 (by decide +kernel)
      refine wpOp_of rfl (by rw [← u1_eq e2]; kernel_rfl) ?_
      go_simp
      exact k_of (HK.out (.int .i64 (kk : Int)) _ rfl hB (Below.refl _ _)) (by rw [← u1_eq e2]; kernel_rfl)
    · intro u W hB _ hd _ K hK
      have HK := Lib.hid hK; clear hK
      have e2 : u 2 = .bool true := hd 2 (by decide +kernel)
      have e8 : u 8 = .int .i64 (kk : Int) := hd 8 (by decide +kernel)
      refine wpOp_of rfl (by rw [← u1_eq e2]; kernel_rfl) ?_
      go_simp
      exact k_of (HK.out (.int .i64 (jj : Int)) _ rfl hB (Below.refl _ _)) (by rw [← u1_eq e2, ← u1_eq e8]; kernel_rfl)
    · intro u W hB _ hd _ K hK
      have HK := Lib.hid hK; clear hK
      have e2 : u 2 = .bool true := hd 2 (by decide +kernel)
      have e7 : u 7 = .slice (some ⟨b, o, none⟩) m mc := hd 7 (by decide +kernel)
      have e9 : u 9 = .int .i64 (jj : Int) := hd 9 (by decide +kernel)
      refine wpOp_of rfl (by rw [← u1_eq e2]; kernel_rfl) ?_
      go_simp
      exact k_of (HK.out (.pointer (some ⟨b, o + jj, none⟩)) _ rfl hB (Below.refl _ _)) (by rw [← u1_eq e2, ← u1_eq e7, ← u1_eq e9]; kernel_rfl)
    · intro u W hB _ hd _ K hK
      have HK := Lib.hid hK; clear hK
      have e2 : u 2 = .bool true := hd 2 (by decide +kernel)
      have e10 : u 10 = .pointer (some ⟨b, o + jj, none⟩) := hd 10 (by decide +kernel)
      refine wpOp_of rfl (by rw [← u1_eq e2]; kernel_rfl) ?_
      have zy := hy W hB.out
      go_simp
      exact k_of (HK.out (.int .i64 y) _ rfl hB (Below.refl _ _)) (by rw [← u1_eq e2, ← u1_eq e10]; kernel_rfl)
    · intro u W hB _ hd _ K hK
      have HK := Lib.hid hK; clear hK
      have e2 : u 2 = .bool true := hd 2 (by decide +kernel)
      have e6 : u 6 = .int .i64 x := hd 6 (by decide +kernel)
      have e11 : u 11 = .int .i64 y := hd 11 (by decide +kernel)
      refine wpOp_of rfl (by rw [← u1_eq e2]; kernel_rfl) ?_
      go_simp
      exact k_of (HK.out (.bool false) _ rfl hB (Below.refl _ _)) (by rw [← u1_eq e2, ← u1_eq e6, ← u1_eq e11]; kernel_rfl)
    · intro u W hB _ hd _ K hK
      have HK := Lib.hid hK; clear hK
      have e2 : u 2 = .bool true := hd 2 (by decide +kernel)
      have e12 : u 12 = .bool false := hd 12 (by decide +kernel)
      refine wpOp_of rfl (by rfl) ?_
      go_simp
      exact k_of (HK.out (.bool false) _ rfl hB (Below.refl _ _)) (by rw [← u1_eq e2, ← u1_eq e12]; kernel_rfl)
    · intro u W hB _ hd _ K hK
      have HK := Lib.hid hK; clear hK
      have e13 : u 13 = .bool false := hd 13 (by decide +kernel)
      refine wpOp_of rfl (by rfl) ?_
      go_simp
      exact k_of (HK.out (.bool false) _ rfl hB (Below.refl _ _)) (by rw [← u1_eq e13]; kernel_rfl)
    · intro u W hB _ hd _ K hK
      have HK := Lib.hid hK; clear hK
      have e14 : u 14 = .bool false := hd 14 (by decide +kernel)
      refine wpOp_of rfl (by rw [← u1_eq e14]; kernel_rfl) ?_
      have z0 := (hP W hB.out).cell 0; have z1 := (hP W hB.out).cell 1; have z2 := (hP W hB.out).cell 2; have z3 := (hP W hB.out).cell 3; have z4 := (hP W hB.out).cell 4; have z5 := (hP W hB.out).cell 5
      go_simp
      exact k_of (HK.out (.agg #[.slice p.ka p.s.ks.length p.kc, .slice p.xa p.s.xs.length p.xc, .int .i64 p.s.flo, .int .i64 p.s.fhi, .int .i64 p.s.plo, .int .i64 p.s.phi]) _ rfl hB (Below.refl _ _)) (by rw [← u1_eq e14]; kernel_rfl)
    · intro u W hB _ hd _ K hK
      have HK := Lib.hid hK; clear hK
      have e14 : u 14 = .bool false := hd 14 (by decide +kernel)
      refine wpOp_of rfl (by rw [← u1_eq e14]; kernel_rfl) ?_
      have z0 := (hC W hB.out).cell 0; have z1 := (hC W hB.out).cell 1; have z2 := (hC W hB.out).cell 2; have z3 := (hC W hB.out).cell 3; have z4 := (hC W hB.out).cell 4
      go_simp
      exact k_of (HK.out (.agg #[.int .i64 c.wax, .int .i64 c.dia, .int .i64 c.dra, .int .i64 c.clo, .int .i64 c.chi]) _ rfl hB (Below.refl _ _)) (by rw [← u1_eq e14]; kernel_rfl)
    · intro u W hB _ hd _ K hK
      have HK := Lib.hid hK; clear hK
      have e14 : u 14 = .bool false := hd 14 (by decide +kernel)
      refine wpOp_of rfl (by rw [← u1_eq e14]; kernel_rfl) ?_
      have z0 := (hB1 W hB.out).cell 0; have z1 := (hB1 W hB.out).cell 1; have z2 := (hB1 W hB.out).cell 2
      go_simp
      exact k_of (HK.out (.agg #[.int .i64 b1.rate, .int .i64 b1.flame, .int .i64 b1.pool]) _ rfl hB (Below.refl _ _)) (by rw [← u1_eq e14]; kernel_rfl)
    · intro u W hB _ hd _ K hK
      have HK := Lib.hid hK; clear hK
      have e14 : u 14 = .bool false := hd 14 (by decide +kernel)
      have e15 : u 15 = .agg #[.slice p.ka p.s.ks.length p.kc, .slice p.xa p.s.xs.length p.xc, .int .i64 p.s.flo, .int .i64 p.s.fhi, .int .i64 p.s.plo, .int .i64 p.s.phi] := hd 15 (by decide +kernel)
      have e16 : u 16 = .agg #[.int .i64 c.wax, .int .i64 c.dia, .int .i64 c.dra, .int .i64 c.clo, .int .i64 c.chi] := hd 16 (by decide +kernel)
      have e17 : u 17 = .agg #[.int .i64 b1.rate, .int .i64 b1.flame, .int .i64 b1.pool] := hd 17 (by decide +kernel)
      refine wpOp_of rfl (by rw [← u1_eq e14]; kernel_rfl) ?_
      go_simp
      refine (HW1.out W hB.out).mono ?_
      rintro e w' ⟨A1, c1, rfl, hi, hb⟩
      exact k_of (HK.out (.slice A1 wp.length c1) _ ⟨A1, c1, rfl, hi⟩ (hon _ _ hB.out hb) hb) (by rw [← u1_eq e14, ← u1_eq e15, ← u1_eq e16, ← u1_eq e17]; kernel_rfl)
    · intro u W hB _ hd _ K hK
      have HK := Lib.hid hK; clear hK
      have e14 : u 14 = .bool false := hd 14 (by decide +kernel)
      refine wpOp_of rfl (by rw [← u1_eq e14]; kernel_rfl) ?_
      go_simp
      exact k_of (HK.out (.slice (some ⟨b, o, none⟩) m mc) _ rfl hB (Below.refl _ _)) (by rw [← u1_eq e14]; kernel_rfl)
    · intro u W hB _ hd _ K hK
      have HK := Lib.hid hK; clear hK
      have e14 : u 14 = .bool false := hd 14 (by decide +kernel)
      refine wpOp_of rfl (by rw [← u1_eq e14]; kernel_rfl) ?_
      go_simp
      exact k_of (HK.out (.int .i64 (kk : Int)) _ rfl hB (Below.refl _ _)) (by rw [← u1_eq e14]; kernel_rfl)
    · intro u W hB _ hd _ K hK
      have HK := Lib.hid hK; clear hK
      have e14 : u 14 = .bool false := hd 14 (by decide +kernel)
      have e19 : u 19 = .slice (some ⟨b, o, none⟩) m mc := hd 19 (by decide +kernel)
      have e20 : u 20 = .int .i64 (kk : Int) := hd 20 (by decide +kernel)
      refine wpOp_of rfl (by rw [← u1_eq e14]; kernel_rfl) ?_
      go_simp
      exact k_of (HK.out (.pointer (some ⟨b, o + kk, none⟩)) _ rfl hB (Below.refl _ _)) (by rw [← u1_eq e14, ← u1_eq e19, ← u1_eq e20]; kernel_rfl)
    · intro u W hB _ hd _ K hK
      have HK := Lib.hid hK; clear hK
      have e14 : u 14 = .bool false := hd 14 (by decide +kernel)
      have e21 : u 21 = .pointer (some ⟨b, o + kk, none⟩) := hd 21 (by decide +kernel)
      refine wpOp_of rfl (by rw [← u1_eq e14]; kernel_rfl) ?_
      have zx := hx W hB.out
      go_simp
      exact k_of (HK.out (.int .i64 x) _ rfl hB (Below.refl _ _)) (by rw [← u1_eq e14, ← u1_eq e21]; kernel_rfl)
    · intro u W hB _ hd _ K hK
      have HK := Lib.hid hK; clear hK
      have e14 : u 14 = .bool false := hd 14 (by decide +kernel)
      obtain ⟨A1_18, c1_18, e18, f18_0⟩ : lbntR P C B1 B2 b o m mc kk jj x y p c b1 b2 wp wm 18 (u 18) W := hd 18 (by decide +kernel)
      have e22 : u 22 = .int .i64 x := hd 22 (by decide +kernel)
      refine wpOp_of rfl (by rw [← u1_eq e14]; kernel_rfl) ?_
      go_simp
      refine (rhas_any f18_0 x).mono ?_; simp only [hA]
      rintro e w' ⟨rfl, rfl⟩
      exact k_of (HK.out (.bool true) _ rfl hB (Below.refl _ _)) (by rw [← u1_eq e14, ← u1_eq e18, ← u1_eq e22]; kernel_rfl)
    · intro u W hB _ hd _ K hK
      have HK := Lib.hid hK; clear hK
      have e14 : u 14 = .bool false := hd 14 (by decide +kernel)
      have e23 : u 23 = .bool true := hd 23 (by decide +kernel)
      refine wpOp_of rfl (by rw [← u1_eq e14]; kernel_rfl) ?_
      go_simp
      exact k_of (HK.out (.bool false) _ rfl hB (Below.refl _ _)) (by rw [← u1_eq e14, ← u1_eq e23]; kernel_rfl)
    · intro u W hB _ hd _ K hK
      have HK := Lib.hid hK; clear hK
      have e14 : u 14 = .bool false := hd 14 (by decide +kernel)
      have e24 : u 24 = .bool false := hd 24 (by decide +kernel)
      refine wpOp_of rfl (by rw [← u1_eq e14]; kernel_rfl) ?_
      go_simp
      exact k_of (HK.out (.bool false) _ rfl hB (Below.refl _ _)) (by rw [← u1_eq e14, ← u1_eq e24]; kernel_rfl)
    · intro u W hB _ hd _ K hK
      have HK := Lib.hid hK; clear hK
      have e25 : u 25 = .bool false := hd 25 (by decide +kernel)
      refine wpOp_skip rfl (by rw [← u1_eq e25]; kernel_rfl) ?_
      exact k_of (HK.out undef _ rfl hB (Below.refl _ _)) (by rw [← u1_eq e25]; kernel_rfl)
    · intro u W hB _ hd _ K hK
      have HK := Lib.hid hK; clear hK
      have e25 : u 25 = .bool false := hd 25 (by decide +kernel)
      refine wpOp_skip rfl (by rw [← u1_eq e25]; kernel_rfl) ?_
      exact k_of (HK.out undef _ rfl hB (Below.refl _ _)) (by rw [← u1_eq e25]; kernel_rfl)
    · intro u W hB _ hd _ K hK
      have HK := Lib.hid hK; clear hK
      have e25 : u 25 = .bool false := hd 25 (by decide +kernel)
      refine wpOp_skip rfl (by rw [← u1_eq e25]; kernel_rfl) ?_
      exact k_of (HK.out undef _ rfl hB (Below.refl _ _)) (by rw [← u1_eq e25]; kernel_rfl)
    · intro u W hB _ hd _ K hK
      have HK := Lib.hid hK; clear hK
      have e25 : u 25 = .bool false := hd 25 (by decide +kernel)
      refine wpOp_skip rfl (by rw [← u1_eq e25]; kernel_rfl) ?_
      exact k_of (HK.out undef _ rfl hB (Below.refl _ _)) (by rw [← u1_eq e25]; kernel_rfl)
    · intro u W hB _ hd _ K hK
      have HK := Lib.hid hK; clear hK
      have e25 : u 25 = .bool false := hd 25 (by decide +kernel)
      refine wpOp_skip rfl (by rw [← u1_eq e25]; kernel_rfl) ?_
      exact k_of (HK.out undef _ rfl hB (Below.refl _ _)) (by rw [← u1_eq e25]; kernel_rfl)
    · intro u W hB _ hd _ K hK
      have HK := Lib.hid hK; clear hK
      have e25 : u 25 = .bool false := hd 25 (by decide +kernel)
      refine wpOp_skip rfl (by rw [← u1_eq e25]; kernel_rfl) ?_
      exact k_of (HK.out undef _ rfl hB (Below.refl _ _)) (by rw [← u1_eq e25]; kernel_rfl)
    · intro u W hB _ hd _ K hK
      have HK := Lib.hid hK; clear hK
      have e25 : u 25 = .bool false := hd 25 (by decide +kernel)
      refine wpOp_skip rfl (by rw [← u1_eq e25]; kernel_rfl) ?_
      exact k_of (HK.out undef _ rfl hB (Below.refl _ _)) (by rw [← u1_eq e25]; kernel_rfl)
    · intro u W hB _ hd _ K hK
      have HK := Lib.hid hK; clear hK
      have e25 : u 25 = .bool false := hd 25 (by decide +kernel)
      refine wpOp_skip rfl (by rw [← u1_eq e25]; kernel_rfl) ?_
      exact k_of (HK.out undef _ rfl hB (Below.refl _ _)) (by rw [← u1_eq e25]; kernel_rfl)
    · intro u W hB _ hd _ K hK
      have HK := Lib.hid hK; clear hK
      have e25 : u 25 = .bool false := hd 25 (by decide +kernel)
      refine wpOp_skip rfl (by rw [← u1_eq e25]; kernel_rfl) ?_
      exact k_of (HK.out undef _ rfl hB (Below.refl _ _)) (by rw [← u1_eq e25]; kernel_rfl)
    · intro u W hB _ hd _ K hK
      have HK := Lib.hid hK; clear hK
      have e25 : u 25 = .bool false := hd 25 (by decide +kernel)
      refine wpOp_skip rfl (by rw [← u1_eq e25]; kernel_rfl) ?_
      exact k_of (HK.out undef _ rfl hB (Below.refl _ _)) (by rw [← u1_eq e25]; kernel_rfl)
    · intro u W hB _ hd _ K hK
      have HK := Lib.hid hK; clear hK
      have e14 : u 14 = .bool false := hd 14 (by decide +kernel)
      have e25 : u 25 = .bool false := hd 25 (by decide +kernel)
      have e35 : u 35 = undef := hd 35 (by decide +kernel)
      refine wpOp_of rfl (by rw [← u1_eq e14]; kernel_rfl) ?_
      go_simp
      exact k_of (HK.out (.bool false) _ rfl hB (Below.refl _ _)) (by rw [← u1_eq e14, ← u1_eq e25, ← u1_eq e35]; kernel_rfl)
    · intro u W hB _ hd _ K hK
      have HK := Lib.hid hK; clear hK
      have e14 : u 14 = .bool false := hd 14 (by decide +kernel)
      have e36 : u 36 = .bool false := hd 36 (by decide +kernel)
      refine wpOp_of rfl (by rfl) ?_
      go_simp
      exact k_of (HK.out (.bool false) _ rfl hB (Below.refl _ _)) (by rw [← u1_eq e14, ← u1_eq e36]; kernel_rfl)
  · intro u W hB hd
    have e37 : u 37 = .bool false := hd 37 (by decide)
    exact k_of (HQ.out u W hB.out) (by simp only [e37])

/-- What each operation leaves. -/
def lbnfR (_P _C _B1 _B2 b o m mc kk jj : Nat) (x y : Int) (p : Sp) (c : Cd) (b1 b2 : Bn) (wp wm : List Int) : Nat → Value → World → Prop
  | 0, v, _ => v = .int .i64 (kk : Int)
  | 1, v, _ => v = .bool true
  | 2, v, _ => v = .bool true
  | 3, v, _ => v = .slice (some ⟨b, o, none⟩) m mc
  | 4, v, _ => v = .int .i64 (kk : Int)
  | 5, v, _ => v = .pointer (some ⟨b, o + kk, none⟩)
  | 6, v, _ => v = .int .i64 x
  | 7, v, _ => v = .slice (some ⟨b, o, none⟩) m mc
  | 8, v, _ => v = .int .i64 (kk : Int)
  | 9, v, _ => v = .int .i64 (jj : Int)
  | 10, v, _ => v = .pointer (some ⟨b, o + jj, none⟩)
  | 11, v, _ => v = .int .i64 y
  | 12, v, _ => v = .bool false
  | 13, v, _ => v = .bool false
  | 14, v, _ => v = .bool false
  | 15, v, _ => v = .agg #[.slice p.ka p.s.ks.length p.kc, .slice p.xa p.s.xs.length p.xc, .int .i64 p.s.flo, .int .i64 p.s.fhi, .int .i64 p.s.plo, .int .i64 p.s.phi]
  | 16, v, _ => v = .agg #[.int .i64 c.wax, .int .i64 c.dia, .int .i64 c.dra, .int .i64 c.clo, .int .i64 c.chi]
  | 17, v, _ => v = .agg #[.int .i64 b1.rate, .int .i64 b1.flame, .int .i64 b1.pool]
  | 18, v, W => ∃ A1_18 c1_18, v = .slice A1_18 wp.length c1_18 ∧ IntsIn W A1_18 wp
  | 19, v, _ => v = .slice (some ⟨b, o, none⟩) m mc
  | 20, v, _ => v = .int .i64 (kk : Int)
  | 21, v, _ => v = .pointer (some ⟨b, o + kk, none⟩)
  | 22, v, _ => v = .int .i64 x
  | 23, v, _ => v = .bool false
  | 24, v, _ => v = .bool true
  | 25, v, _ => v = .bool true
  | 26, v, _ => v = .agg #[.slice p.ka p.s.ks.length p.kc, .slice p.xa p.s.xs.length p.xc, .int .i64 p.s.flo, .int .i64 p.s.fhi, .int .i64 p.s.plo, .int .i64 p.s.phi]
  | 27, v, _ => v = .agg #[.int .i64 c.wax, .int .i64 c.dia, .int .i64 c.dra, .int .i64 c.clo, .int .i64 c.chi]
  | 28, v, _ => v = .agg #[.int .i64 b2.rate, .int .i64 b2.flame, .int .i64 b2.pool]
  | 29, v, W => ∃ A1_29 c1_29, v = .slice A1_29 wm.length c1_29 ∧ IntsIn W A1_29 wm
  | 30, v, _ => v = .slice (some ⟨b, o, none⟩) m mc
  | 31, v, _ => v = .int .i64 (kk : Int)
  | 32, v, _ => v = .pointer (some ⟨b, o + kk, none⟩)
  | 33, v, _ => v = .int .i64 x
  | 34, v, _ => v = .bool true
  | 35, v, _ => v = .bool false
  | 36, v, _ => v = .bool false
  | 37, v, _ => v = .bool false
  | _, _, _ => True
theorem lbnfR_on (P C B1 B2 b o m mc kk jj : Nat) (x y : Int) (p : Sp) (c : Cd) (b1 b2 : Bn) (wp wm : List Int) : ∀ i, i < 38 → ∀ v W W', lbnfR P C B1 B2 b o m mc kk jj x y p c b1 b2 wp wm i v W → Below W.heap.size W W' → lbnfR P C B1 B2 b o m mc kk jj x y p c b1 b2 wp wm i v W' := by
  iterate 38 (refine all_succ ?_ ?_)
  · exact all_zero
  · exact fun _ _ _ h _ => h
  · exact fun _ _ _ h _ => h
  · exact fun _ _ _ h _ => h
  · exact fun _ _ _ h _ => h
  · exact fun _ _ _ h _ => h
  · exact fun _ _ _ h _ => h
  · exact fun _ _ _ h _ => h
  · exact fun _ _ _ h _ => h
  · exact fun _ _ _ h _ => h
  · exact fun _ _ _ h _ => h
  · exact fun _ _ _ h _ => h
  · exact fun _ _ _ h _ => h
  · exact fun _ _ _ h _ => h
  · exact fun _ _ _ h _ => h
  · exact fun _ _ _ h _ => h
  · exact fun _ _ _ h _ => h
  · exact fun _ _ _ h _ => h
  · exact fun _ _ _ h _ => h
  · rintro v W W' ⟨A1_18, c1_18, e, h0⟩ hb; exact ⟨A1_18, c1_18, e, h0.on hb⟩
  · exact fun _ _ _ h _ => h
  · exact fun _ _ _ h _ => h
  · exact fun _ _ _ h _ => h
  · exact fun _ _ _ h _ => h
  · exact fun _ _ _ h _ => h
  · exact fun _ _ _ h _ => h
  · exact fun _ _ _ h _ => h
  · exact fun _ _ _ h _ => h
  · exact fun _ _ _ h _ => h
  · exact fun _ _ _ h _ => h
  · rintro v W W' ⟨A1_29, c1_29, e, h0⟩ hb; exact ⟨A1_29, c1_29, e, h0.on hb⟩
  · exact fun _ _ _ h _ => h
  · exact fun _ _ _ h _ => h
  · exact fun _ _ _ h _ => h
  · exact fun _ _ _ h _ => h
  · exact fun _ _ _ h _ => h
  · exact fun _ _ _ h _ => h
  · exact fun _ _ _ h _ => h
  · exact fun _ _ _ h _ => h
set_option maxRecDepth 100000 in
set_option maxHeartbeats 8000000 in
theorem lbnf_region {S : World → Prop} (hon : ∀ W W', S W → Below W.heap.size W W' → S W') {P C B1 B2 b o m mc kk jj : Nat} {x y : Int} {p : Sp} {c : Cd} {b1 b2 : Bn} {wp wm : List Int} (hP : ∀ W, S W → Blk W P 27 #[.slice p.ka p.s.ks.length p.kc, .slice p.xa p.s.xs.length p.xc, .int .i64 p.s.flo, .int .i64 p.s.fhi, .int .i64 p.s.plo, .int .i64 p.s.phi]) (hC : ∀ W, S W → Blk W C 34 #[.int .i64 c.wax, .int .i64 c.dia, .int .i64 c.dra, .int .i64 c.clo, .int .i64 c.chi]) (hB1 : ∀ W, S W → Blk W B1 40 #[.int .i64 b1.rate, .int .i64 b1.flame, .int .i64 b1.pool]) (HW1 : Hid (∀ W, S W → Calls Try.prog 40 #[.agg #[.slice p.ka p.s.ks.length p.kc, .slice p.xa p.s.xs.length p.xc, .int .i64 p.s.flo, .int .i64 p.s.fhi, .int .i64 p.s.plo, .int .i64 p.s.phi], .agg #[.int .i64 c.wax, .int .i64 c.dia, .int .i64 c.dra, .int .i64 c.clo, .int .i64 c.chi], .agg #[.int .i64 b1.rate, .int .i64 b1.flame, .int .i64 b1.pool]] W fun e w' => ∃ A1 c1, e = .returned (.slice A1 wp.length c1) ∧ IntsIn w' A1 wp ∧ Below W.heap.size W w')) (hA : decide (x ∈ wp) = false) (hkm : kk < m) (hx : ∀ W, S W → W.cell? ⟨b, o + kk, none⟩ = some (.int .i64 x)) (hB2 : ∀ W, S W → Blk W B2 40 #[.int .i64 b2.rate, .int .i64 b2.flame, .int .i64 b2.pool]) (HW2 : Hid (∀ W, S W → Calls Try.prog 40 #[.agg #[.slice p.ka p.s.ks.length p.kc, .slice p.xa p.s.xs.length p.xc, .int .i64 p.s.flo, .int .i64 p.s.fhi, .int .i64 p.s.plo, .int .i64 p.s.phi], .agg #[.int .i64 c.wax, .int .i64 c.dia, .int .i64 c.dra, .int .i64 c.clo, .int .i64 c.chi], .agg #[.int .i64 b2.rate, .int .i64 b2.flame, .int .i64 b2.pool]] W fun e w' => ∃ A1 c1, e = .returned (.slice A1 wm.length c1) ∧ IntsIn w' A1 wm ∧ Below W.heap.size W w')) (hA2 : decide (x ∈ wm) = true) (hz : 0 < kk) (hjm : jj < m) (hsub : IntKind.i64.wrap ((kk : Int) - 1) = (jj : Int)) (hy : ∀ W, S W → W.cell? ⟨b, o + jj, none⟩ = some (.int .i64 y)) (hxy : decide (x ≤ y) = false)  {Q : Exit → Act → World → Prop} {s0 s1 s2 s5 s6 s7 s9 s10 s11 s12 s13 s14 s15 s16 s17 s21 s22 s23 s24 s25 s26 s27 s28 s29 s30 s31 s32 s33 s34 s35 s36 s37 s38 s39 s40 s41 s42 s43 s44 s45 s46 s47 s48 s49 s50 s51 s52 s53 s54 s55 s56 s57 s58 s59 s60 s61 s62 s63 s64 s65 s66 s67 s68 s69 s70 s71 s72 s73 s74 s75 s76 s77 s78 s79 s80 s81 s82 s83 s84 s85 s86 s87 s88 s89 s90 s91 s92 s93 s94 s95 s96 s97 s98 s99 s100 s101 s102 s103 s104 s105 s106 s107 s108 s109 s110 s111 s112 s113 s114 s115 s116 s117 s118 s119 s120 s121 s122 s123 s162 s163 s164 s165 s166 s167 s168 s169 s170 s124 s125 s126 s127 s128 s129 s130 s131 s132 s133 s134 s135 s136 s137 s138 s139 s140 s141 s142 s143 s144 s145 s146 s147 s148 s149 s150 s151 s152 s153 s154 s155 s156 s157 s158 s159 s160 s161 : Value} {W0 : World} (HL : Hid (S W0))
    (HQ : Hid (∀ (u : Nat → Value) (W : World), S W → Q .normal ⟨#[s0, s1, s2, .pointer (some ⟨P, 0, none⟩), .pointer (some ⟨C, 0, none⟩), s5, s6, s7, .slice (some ⟨b, o, none⟩) m mc, s9, s10, s11, s12, s13, s14, s15, s16, s17, .pointer (some ⟨B1, 0, none⟩), .pointer (some ⟨B2, 0, none⟩), .int .i64 (kk : Int), s21, s22, s23, s24, s25, s26, s27, s28, s29, s30, s31, s32, s33, s34, s35, s36, s37, s38, s39, s40, s41, s42, s43, s44, s45, s46, s47, s48, s49, s50, s51, s52, s53, s54, s55, s56, s57, s58, s59, s60, s61, s62, s63, s64, s65, s66, s67, s68, s69, s70, s71, s72, s73, s74, s75, s76, s77, s78, s79, s80, s81, s82, s83, s84, s85, s86, s87, s88, s89, s90, s91, s92, s93, s94, s95, s96, s97, s98, s99, s100, s101, s102, s103, s104, s105, s106, s107, s108, s109, s110, s111, s112, s113, s114, s115, s116, s117, s118, s119, s120, s121, s122, s123, u 0, u 1, u 2, u 3, u 4, u 5, u 6, u 7, u 8, u 9, u 10, u 11, u 12, u 13, u 14, u 15, u 16, u 17, u 18, u 19, u 20, u 21, u 22, u 23, u 24, u 25, u 26, u 27, u 28, u 29, u 30, u 31, u 32, u 33, u 34, u 35, u 36, .bool false, s162, s163, s164, s165, s166, s167, s168, s169, s170], []⟩ W)) :
    Code.wp Try.prog ((Try.f8.body.bind (regionAt 21)).getD .skip) Q ⟨#[s0, s1, s2, .pointer (some ⟨P, 0, none⟩), .pointer (some ⟨C, 0, none⟩), s5, s6, s7, .slice (some ⟨b, o, none⟩) m mc, s9, s10, s11, s12, s13, s14, s15, s16, s17, .pointer (some ⟨B1, 0, none⟩), .pointer (some ⟨B2, 0, none⟩), .int .i64 (kk : Int), s21, s22, s23, s24, s25, s26, s27, s28, s29, s30, s31, s32, s33, s34, s35, s36, s37, s38, s39, s40, s41, s42, s43, s44, s45, s46, s47, s48, s49, s50, s51, s52, s53, s54, s55, s56, s57, s58, s59, s60, s61, s62, s63, s64, s65, s66, s67, s68, s69, s70, s71, s72, s73, s74, s75, s76, s77, s78, s79, s80, s81, s82, s83, s84, s85, s86, s87, s88, s89, s90, s91, s92, s93, s94, s95, s96, s97, s98, s99, s100, s101, s102, s103, s104, s105, s106, s107, s108, s109, s110, s111, s112, s113, s114, s115, s116, s117, s118, s119, s120, s121, s122, s123, s124, s125, s126, s127, s128, s129, s130, s131, s132, s133, s134, s135, s136, s137, s138, s139, s140, s141, s142, s143, s144, s145, s146, s147, s148, s149, s150, s151, s152, s153, s154, s155, s156, s157, s158, s159, s160, s161, s162, s163, s164, s165, s166, s167, s168, s169, s170], []⟩ W0 := by
  conv => arg 2; whnf
  refine wp_region_spec (by kernel_rfl) 38 (by kernel_rfl) (fun u => ⟨#[s0, s1, s2, .pointer (some ⟨P, 0, none⟩), .pointer (some ⟨C, 0, none⟩), s5, s6, s7, .slice (some ⟨b, o, none⟩) m mc, s9, s10, s11, s12, s13, s14, s15, s16, s17, .pointer (some ⟨B1, 0, none⟩), .pointer (some ⟨B2, 0, none⟩), .int .i64 (kk : Int), s21, s22, s23, s24, s25, s26, s27, s28, s29, s30, s31, s32, s33, s34, s35, s36, s37, s38, s39, s40, s41, s42, s43, s44, s45, s46, s47, s48, s49, s50, s51, s52, s53, s54, s55, s56, s57, s58, s59, s60, s61, s62, s63, s64, s65, s66, s67, s68, s69, s70, s71, s72, s73, s74, s75, s76, s77, s78, s79, s80, s81, s82, s83, s84, s85, s86, s87, s88, s89, s90, s91, s92, s93, s94, s95, s96, s97, s98, s99, s100, s101, s102, s103, s104, s105, s106, s107, s108, s109, s110, s111, s112, s113, s114, s115, s116, s117, s118, s119, s120, s121, s122, s123, u 0, u 1, u 2, u 3, u 4, u 5, u 6, u 7, u 8, u 9, u 10, u 11, u 12, u 13, u 14, u 15, u 16, u 17, u 18, u 19, u 20, u 21, u 22, u 23, u 24, u 25, u 26, u 27, u 28, u 29, u 30, u 31, u 32, u 33, u 34, u 35, u 36, u 37, s162, s163, s164, s165, s166, s167, s168, s169, s170], []⟩) (fun i => if i = 0 then s124 else if i = 1 then s125 else if i = 2 then s126 else if i = 3 then s127 else if i = 4 then s128 else if i = 5 then s129 else if i = 6 then s130 else if i = 7 then s131 else if i = 8 then s132 else if i = 9 then s133 else if i = 10 then s134 else if i = 11 then s135 else if i = 12 then s136 else if i = 13 then s137 else if i = 14 then s138 else if i = 15 then s139 else if i = 16 then s140 else if i = 17 then s141 else if i = 18 then s142 else if i = 19 then s143 else if i = 20 then s144 else if i = 21 then s145 else if i = 22 then s146 else if i = 23 then s147 else if i = 24 then s148 else if i = 25 then s149 else if i = 26 then s150 else if i = 27 then s151 else if i = 28 then s152 else if i = 29 then s153 else if i = 30 then s154 else if i = 31 then s155 else if i = 32 then s156 else if i = 33 then s157 else if i = 34 then s158 else if i = 35 then s159 else if i = 36 then s160 else if i = 37 then s161 else undef) (fun W => Hid (S W)) (lbnfR P C B1 B2 b o m mc kk jj x y p c b1 b2 wp wm) (by kernel_rfl) (hon _ _ HL.out (Below.refl _ _).drew) (fun i v W W2 hi h hb => lbnfR_on P C B1 B2 b o m mc kk jj x y p c b1 b2 wp wm i hi v W W2 h hb) (by decide +kernel) ?_ ?_
  · iterate 38 (refine all_succ ?_ ?_)
    · exact all_zero
    · intro u W hB _ hd _ K hK
      have HK := Lib.hid hK; clear hK
      refine wpOp_of rfl (by rfl) ?_
      go_simp
      exact k_of (HK.out (.int .i64 (kk : Int)) _ rfl hB (Below.refl _ _)) (by kernel_rfl)
    · intro u W hB _ hd _ K hK
      have HK := Lib.hid hK; clear hK
      have e0 : u 0 = .int .i64 (kk : Int) := hd 0 (by decide +kernel)
      refine wpOp_of rfl (by rfl) ?_
      go_simp
      exact k_of (HK.out (.bool true) _ rfl hB (Below.refl _ _)) (by rw [← u1_eq e0]; kernel_rfl)
    · intro u W hB _ hd _ K hK
      have HK := Lib.hid hK; clear hK
      have e1 : u 1 = .bool true := hd 1 (by decide +kernel)
      refine wpOp_of rfl (by rfl) ?_
      go_simp
      exact k_of (HK.out (.bool true) _ rfl hB (Below.refl _ _)) (by rw [← u1_eq e1]; kernel_rfl)
    · intro u W hB _ hd _ K hK
      have HK := Lib.hid hK; clear hK
      have e2 : u 2 = .bool true := hd 2 (by decide +kernel)
      refine wpOp_of rfl (by rw [← u1_eq e2]; kernel_rfl) ?_
      go_simp
      exact k_of (HK.out (.slice (some ⟨b, o, none⟩) m mc) _ rfl hB (Below.refl _ _)) (by rw [← u1_eq e2]; kernel_rfl)
    · intro u W hB _ hd _ K hK
      have HK := Lib.hid hK; clear hK
      have e2 : u 2 = .bool true := hd 2 (by decide +kernel)
      refine wpOp_of rfl (by rw [← u1_eq e2]; kernel_rfl) ?_
      go_simp
      exact k_of (HK.out (.int .i64 (kk : Int)) _ rfl hB (Below.refl _ _)) (by rw [← u1_eq e2]; kernel_rfl)
    · intro u W hB _ hd _ K hK
      have HK := Lib.hid hK; clear hK
      have e2 : u 2 = .bool true := hd 2 (by decide +kernel)
      have e3 : u 3 = .slice (some ⟨b, o, none⟩) m mc := hd 3 (by decide +kernel)
      have e4 : u 4 = .int .i64 (kk : Int) := hd 4 (by decide +kernel)
      refine wpOp_of rfl (by rw [← u1_eq e2]; kernel_rfl) ?_
      go_simp
      exact k_of (HK.out (.pointer (some ⟨b, o + kk, none⟩)) _ rfl hB (Below.refl _ _)) (by rw [← u1_eq e2, ← u1_eq e3, ← u1_eq e4]; kernel_rfl)
    · intro u W hB _ hd _ K hK
      have HK := Lib.hid hK; clear hK
      have e2 : u 2 = .bool true := hd 2 (by decide +kernel)
      have e5 : u 5 = .pointer (some ⟨b, o + kk, none⟩) := hd 5 (by decide +kernel)
      refine wpOp_of rfl (by rw [← u1_eq e2]; kernel_rfl) ?_
      have zx := hx W hB.out
      go_simp
      exact k_of (HK.out (.int .i64 x) _ rfl hB (Below.refl _ _)) (by rw [← u1_eq e2, ← u1_eq e5]; kernel_rfl)
    · intro u W hB _ hd _ K hK
      have HK := Lib.hid hK; clear hK
      have e2 : u 2 = .bool true := hd 2 (by decide +kernel)
      refine wpOp_of rfl (by rw [← u1_eq e2]; kernel_rfl) ?_
      go_simp
      exact k_of (HK.out (.slice (some ⟨b, o, none⟩) m mc) _ rfl hB (Below.refl _ _)) (by rw [← u1_eq e2]; kernel_rfl)
    · intro u W hB _ hd _ K hK
      have HK := Lib.hid hK; clear hK
      have e2 : u 2 = .bool true := hd 2 (by decide +kernel)
      refine wpOp_of rfl (by rw [← u1_eq e2]; kernel_rfl) ?_
      go_simp
      exact k_of (HK.out (.int .i64 (kk : Int)) _ rfl hB (Below.refl _ _)) (by rw [← u1_eq e2]; kernel_rfl)
    · intro u W hB _ hd _ K hK
      have HK := Lib.hid hK; clear hK
      have e2 : u 2 = .bool true := hd 2 (by decide +kernel)
      have e8 : u 8 = .int .i64 (kk : Int) := hd 8 (by decide +kernel)
      refine wpOp_of rfl (by rw [← u1_eq e2]; kernel_rfl) ?_
      go_simp
      exact k_of (HK.out (.int .i64 (jj : Int)) _ rfl hB (Below.refl _ _)) (by rw [← u1_eq e2, ← u1_eq e8]; kernel_rfl)
    · intro u W hB _ hd _ K hK
      have HK := Lib.hid hK; clear hK
      have e2 : u 2 = .bool true := hd 2 (by decide +kernel)
      have e7 : u 7 = .slice (some ⟨b, o, none⟩) m mc := hd 7 (by decide +kernel)
      have e9 : u 9 = .int .i64 (jj : Int) := hd 9 (by decide +kernel)
      refine wpOp_of rfl (by rw [← u1_eq e2]; kernel_rfl) ?_
      go_simp
      exact k_of (HK.out (.pointer (some ⟨b, o + jj, none⟩)) _ rfl hB (Below.refl _ _)) (by rw [← u1_eq e2, ← u1_eq e7, ← u1_eq e9]; kernel_rfl)
    · intro u W hB _ hd _ K hK
      have HK := Lib.hid hK; clear hK
      have e2 : u 2 = .bool true := hd 2 (by decide +kernel)
      have e10 : u 10 = .pointer (some ⟨b, o + jj, none⟩) := hd 10 (by decide +kernel)
      refine wpOp_of rfl (by rw [← u1_eq e2]; kernel_rfl) ?_
      have zy := hy W hB.out
      go_simp
      exact k_of (HK.out (.int .i64 y) _ rfl hB (Below.refl _ _)) (by rw [← u1_eq e2, ← u1_eq e10]; kernel_rfl)
    · intro u W hB _ hd _ K hK
      have HK := Lib.hid hK; clear hK
      have e2 : u 2 = .bool true := hd 2 (by decide +kernel)
      have e6 : u 6 = .int .i64 x := hd 6 (by decide +kernel)
      have e11 : u 11 = .int .i64 y := hd 11 (by decide +kernel)
      refine wpOp_of rfl (by rw [← u1_eq e2]; kernel_rfl) ?_
      go_simp
      exact k_of (HK.out (.bool false) _ rfl hB (Below.refl _ _)) (by rw [← u1_eq e2, ← u1_eq e6, ← u1_eq e11]; kernel_rfl)
    · intro u W hB _ hd _ K hK
      have HK := Lib.hid hK; clear hK
      have e2 : u 2 = .bool true := hd 2 (by decide +kernel)
      have e12 : u 12 = .bool false := hd 12 (by decide +kernel)
      refine wpOp_of rfl (by rfl) ?_
      go_simp
      exact k_of (HK.out (.bool false) _ rfl hB (Below.refl _ _)) (by rw [← u1_eq e2, ← u1_eq e12]; kernel_rfl)
    · intro u W hB _ hd _ K hK
      have HK := Lib.hid hK; clear hK
      have e13 : u 13 = .bool false := hd 13 (by decide +kernel)
      refine wpOp_of rfl (by rfl) ?_
      go_simp
      exact k_of (HK.out (.bool false) _ rfl hB (Below.refl _ _)) (by rw [← u1_eq e13]; kernel_rfl)
    · intro u W hB _ hd _ K hK
      have HK := Lib.hid hK; clear hK
      have e14 : u 14 = .bool false := hd 14 (by decide +kernel)
      refine wpOp_of rfl (by rw [← u1_eq e14]; kernel_rfl) ?_
      have z0 := (hP W hB.out).cell 0; have z1 := (hP W hB.out).cell 1; have z2 := (hP W hB.out).cell 2; have z3 := (hP W hB.out).cell 3; have z4 := (hP W hB.out).cell 4; have z5 := (hP W hB.out).cell 5
      go_simp
      exact k_of (HK.out (.agg #[.slice p.ka p.s.ks.length p.kc, .slice p.xa p.s.xs.length p.xc, .int .i64 p.s.flo, .int .i64 p.s.fhi, .int .i64 p.s.plo, .int .i64 p.s.phi]) _ rfl hB (Below.refl _ _)) (by rw [← u1_eq e14]; kernel_rfl)
    · intro u W hB _ hd _ K hK
      have HK := Lib.hid hK; clear hK
      have e14 : u 14 = .bool false := hd 14 (by decide +kernel)
      refine wpOp_of rfl (by rw [← u1_eq e14]; kernel_rfl) ?_
      have z0 := (hC W hB.out).cell 0; have z1 := (hC W hB.out).cell 1; have z2 := (hC W hB.out).cell 2; have z3 := (hC W hB.out).cell 3; have z4 := (hC W hB.out).cell 4
      go_simp
      exact k_of (HK.out (.agg #[.int .i64 c.wax, .int .i64 c.dia, .int .i64 c.dra, .int .i64 c.clo, .int .i64 c.chi]) _ rfl hB (Below.refl _ _)) (by rw [← u1_eq e14]; kernel_rfl)
    · intro u W hB _ hd _ K hK
      have HK := Lib.hid hK; clear hK
      have e14 : u 14 = .bool false := hd 14 (by decide +kernel)
      refine wpOp_of rfl (by rw [← u1_eq e14]; kernel_rfl) ?_
      have z0 := (hB1 W hB.out).cell 0; have z1 := (hB1 W hB.out).cell 1; have z2 := (hB1 W hB.out).cell 2
      go_simp
      exact k_of (HK.out (.agg #[.int .i64 b1.rate, .int .i64 b1.flame, .int .i64 b1.pool]) _ rfl hB (Below.refl _ _)) (by rw [← u1_eq e14]; kernel_rfl)
    · intro u W hB _ hd _ K hK
      have HK := Lib.hid hK; clear hK
      have e14 : u 14 = .bool false := hd 14 (by decide +kernel)
      have e15 : u 15 = .agg #[.slice p.ka p.s.ks.length p.kc, .slice p.xa p.s.xs.length p.xc, .int .i64 p.s.flo, .int .i64 p.s.fhi, .int .i64 p.s.plo, .int .i64 p.s.phi] := hd 15 (by decide +kernel)
      have e16 : u 16 = .agg #[.int .i64 c.wax, .int .i64 c.dia, .int .i64 c.dra, .int .i64 c.clo, .int .i64 c.chi] := hd 16 (by decide +kernel)
      have e17 : u 17 = .agg #[.int .i64 b1.rate, .int .i64 b1.flame, .int .i64 b1.pool] := hd 17 (by decide +kernel)
      refine wpOp_of rfl (by rw [← u1_eq e14]; kernel_rfl) ?_
      go_simp
      refine (HW1.out W hB.out).mono ?_
      rintro e w' ⟨A1, c1, rfl, hi, hb⟩
      exact k_of (HK.out (.slice A1 wp.length c1) _ ⟨A1, c1, rfl, hi⟩ (hon _ _ hB.out hb) hb) (by rw [← u1_eq e14, ← u1_eq e15, ← u1_eq e16, ← u1_eq e17]; kernel_rfl)
    · intro u W hB _ hd _ K hK
      have HK := Lib.hid hK; clear hK
      have e14 : u 14 = .bool false := hd 14 (by decide +kernel)
      refine wpOp_of rfl (by rw [← u1_eq e14]; kernel_rfl) ?_
      go_simp
      exact k_of (HK.out (.slice (some ⟨b, o, none⟩) m mc) _ rfl hB (Below.refl _ _)) (by rw [← u1_eq e14]; kernel_rfl)
    · intro u W hB _ hd _ K hK
      have HK := Lib.hid hK; clear hK
      have e14 : u 14 = .bool false := hd 14 (by decide +kernel)
      refine wpOp_of rfl (by rw [← u1_eq e14]; kernel_rfl) ?_
      go_simp
      exact k_of (HK.out (.int .i64 (kk : Int)) _ rfl hB (Below.refl _ _)) (by rw [← u1_eq e14]; kernel_rfl)
    · intro u W hB _ hd _ K hK
      have HK := Lib.hid hK; clear hK
      have e14 : u 14 = .bool false := hd 14 (by decide +kernel)
      have e19 : u 19 = .slice (some ⟨b, o, none⟩) m mc := hd 19 (by decide +kernel)
      have e20 : u 20 = .int .i64 (kk : Int) := hd 20 (by decide +kernel)
      refine wpOp_of rfl (by rw [← u1_eq e14]; kernel_rfl) ?_
      go_simp
      exact k_of (HK.out (.pointer (some ⟨b, o + kk, none⟩)) _ rfl hB (Below.refl _ _)) (by rw [← u1_eq e14, ← u1_eq e19, ← u1_eq e20]; kernel_rfl)
    · intro u W hB _ hd _ K hK
      have HK := Lib.hid hK; clear hK
      have e14 : u 14 = .bool false := hd 14 (by decide +kernel)
      have e21 : u 21 = .pointer (some ⟨b, o + kk, none⟩) := hd 21 (by decide +kernel)
      refine wpOp_of rfl (by rw [← u1_eq e14]; kernel_rfl) ?_
      have zx := hx W hB.out
      go_simp
      exact k_of (HK.out (.int .i64 x) _ rfl hB (Below.refl _ _)) (by rw [← u1_eq e14, ← u1_eq e21]; kernel_rfl)
    · intro u W hB _ hd _ K hK
      have HK := Lib.hid hK; clear hK
      have e14 : u 14 = .bool false := hd 14 (by decide +kernel)
      obtain ⟨A1_18, c1_18, e18, f18_0⟩ : lbnfR P C B1 B2 b o m mc kk jj x y p c b1 b2 wp wm 18 (u 18) W := hd 18 (by decide +kernel)
      have e22 : u 22 = .int .i64 x := hd 22 (by decide +kernel)
      refine wpOp_of rfl (by rw [← u1_eq e14]; kernel_rfl) ?_
      go_simp
      refine (rhas_any f18_0 x).mono ?_; simp only [hA]
      rintro e w' ⟨rfl, rfl⟩
      exact k_of (HK.out (.bool false) _ rfl hB (Below.refl _ _)) (by rw [← u1_eq e14, ← u1_eq e18, ← u1_eq e22]; kernel_rfl)
    · intro u W hB _ hd _ K hK
      have HK := Lib.hid hK; clear hK
      have e14 : u 14 = .bool false := hd 14 (by decide +kernel)
      have e23 : u 23 = .bool false := hd 23 (by decide +kernel)
      refine wpOp_of rfl (by rw [← u1_eq e14]; kernel_rfl) ?_
      go_simp
      exact k_of (HK.out (.bool true) _ rfl hB (Below.refl _ _)) (by rw [← u1_eq e14, ← u1_eq e23]; kernel_rfl)
    · intro u W hB _ hd _ K hK
      have HK := Lib.hid hK; clear hK
      have e14 : u 14 = .bool false := hd 14 (by decide +kernel)
      have e24 : u 24 = .bool true := hd 24 (by decide +kernel)
      refine wpOp_of rfl (by rw [← u1_eq e14]; kernel_rfl) ?_
      go_simp
      exact k_of (HK.out (.bool true) _ rfl hB (Below.refl _ _)) (by rw [← u1_eq e14, ← u1_eq e24]; kernel_rfl)
    · intro u W hB _ hd _ K hK
      have HK := Lib.hid hK; clear hK
      have e25 : u 25 = .bool true := hd 25 (by decide +kernel)
      refine wpOp_of rfl (by rw [← u1_eq e25]; kernel_rfl) ?_
      have z0 := (hP W hB.out).cell 0; have z1 := (hP W hB.out).cell 1; have z2 := (hP W hB.out).cell 2; have z3 := (hP W hB.out).cell 3; have z4 := (hP W hB.out).cell 4; have z5 := (hP W hB.out).cell 5
      go_simp
      exact k_of (HK.out (.agg #[.slice p.ka p.s.ks.length p.kc, .slice p.xa p.s.xs.length p.xc, .int .i64 p.s.flo, .int .i64 p.s.fhi, .int .i64 p.s.plo, .int .i64 p.s.phi]) _ rfl hB (Below.refl _ _)) (by rw [← u1_eq e25]; kernel_rfl)
    · intro u W hB _ hd _ K hK
      have HK := Lib.hid hK; clear hK
      have e25 : u 25 = .bool true := hd 25 (by decide +kernel)
      refine wpOp_of rfl (by rw [← u1_eq e25]; kernel_rfl) ?_
      have z0 := (hC W hB.out).cell 0; have z1 := (hC W hB.out).cell 1; have z2 := (hC W hB.out).cell 2; have z3 := (hC W hB.out).cell 3; have z4 := (hC W hB.out).cell 4
      go_simp
      exact k_of (HK.out (.agg #[.int .i64 c.wax, .int .i64 c.dia, .int .i64 c.dra, .int .i64 c.clo, .int .i64 c.chi]) _ rfl hB (Below.refl _ _)) (by rw [← u1_eq e25]; kernel_rfl)
    · intro u W hB _ hd _ K hK
      have HK := Lib.hid hK; clear hK
      have e25 : u 25 = .bool true := hd 25 (by decide +kernel)
      refine wpOp_of rfl (by rw [← u1_eq e25]; kernel_rfl) ?_
      have z0 := (hB2 W hB.out).cell 0; have z1 := (hB2 W hB.out).cell 1; have z2 := (hB2 W hB.out).cell 2
      go_simp
      exact k_of (HK.out (.agg #[.int .i64 b2.rate, .int .i64 b2.flame, .int .i64 b2.pool]) _ rfl hB (Below.refl _ _)) (by rw [← u1_eq e25]; kernel_rfl)
    · intro u W hB _ hd _ K hK
      have HK := Lib.hid hK; clear hK
      have e25 : u 25 = .bool true := hd 25 (by decide +kernel)
      have e26 : u 26 = .agg #[.slice p.ka p.s.ks.length p.kc, .slice p.xa p.s.xs.length p.xc, .int .i64 p.s.flo, .int .i64 p.s.fhi, .int .i64 p.s.plo, .int .i64 p.s.phi] := hd 26 (by decide +kernel)
      have e27 : u 27 = .agg #[.int .i64 c.wax, .int .i64 c.dia, .int .i64 c.dra, .int .i64 c.clo, .int .i64 c.chi] := hd 27 (by decide +kernel)
      have e28 : u 28 = .agg #[.int .i64 b2.rate, .int .i64 b2.flame, .int .i64 b2.pool] := hd 28 (by decide +kernel)
      refine wpOp_of rfl (by rw [← u1_eq e25]; kernel_rfl) ?_
      go_simp
      refine (HW2.out W hB.out).mono ?_
      rintro e w' ⟨A1, c1, rfl, hi, hb⟩
      exact k_of (HK.out (.slice A1 wm.length c1) _ ⟨A1, c1, rfl, hi⟩ (hon _ _ hB.out hb) hb) (by rw [← u1_eq e25, ← u1_eq e26, ← u1_eq e27, ← u1_eq e28]; kernel_rfl)
    · intro u W hB _ hd _ K hK
      have HK := Lib.hid hK; clear hK
      have e25 : u 25 = .bool true := hd 25 (by decide +kernel)
      refine wpOp_of rfl (by rw [← u1_eq e25]; kernel_rfl) ?_
      go_simp
      exact k_of (HK.out (.slice (some ⟨b, o, none⟩) m mc) _ rfl hB (Below.refl _ _)) (by rw [← u1_eq e25]; kernel_rfl)
    · intro u W hB _ hd _ K hK
      have HK := Lib.hid hK; clear hK
      have e25 : u 25 = .bool true := hd 25 (by decide +kernel)
      refine wpOp_of rfl (by rw [← u1_eq e25]; kernel_rfl) ?_
      go_simp
      exact k_of (HK.out (.int .i64 (kk : Int)) _ rfl hB (Below.refl _ _)) (by rw [← u1_eq e25]; kernel_rfl)
    · intro u W hB _ hd _ K hK
      have HK := Lib.hid hK; clear hK
      have e25 : u 25 = .bool true := hd 25 (by decide +kernel)
      have e30 : u 30 = .slice (some ⟨b, o, none⟩) m mc := hd 30 (by decide +kernel)
      have e31 : u 31 = .int .i64 (kk : Int) := hd 31 (by decide +kernel)
      refine wpOp_of rfl (by rw [← u1_eq e25]; kernel_rfl) ?_
      go_simp
      exact k_of (HK.out (.pointer (some ⟨b, o + kk, none⟩)) _ rfl hB (Below.refl _ _)) (by rw [← u1_eq e25, ← u1_eq e30, ← u1_eq e31]; kernel_rfl)
    · intro u W hB _ hd _ K hK
      have HK := Lib.hid hK; clear hK
      have e25 : u 25 = .bool true := hd 25 (by decide +kernel)
      have e32 : u 32 = .pointer (some ⟨b, o + kk, none⟩) := hd 32 (by decide +kernel)
      refine wpOp_of rfl (by rw [← u1_eq e25]; kernel_rfl) ?_
      have zx := hx W hB.out
      go_simp
      exact k_of (HK.out (.int .i64 x) _ rfl hB (Below.refl _ _)) (by rw [← u1_eq e25, ← u1_eq e32]; kernel_rfl)
    · intro u W hB _ hd _ K hK
      have HK := Lib.hid hK; clear hK
      have e25 : u 25 = .bool true := hd 25 (by decide +kernel)
      obtain ⟨A1_29, c1_29, e29, f29_0⟩ : lbnfR P C B1 B2 b o m mc kk jj x y p c b1 b2 wp wm 29 (u 29) W := hd 29 (by decide +kernel)
      have e33 : u 33 = .int .i64 x := hd 33 (by decide +kernel)
      refine wpOp_of rfl (by rw [← u1_eq e25]; kernel_rfl) ?_
      go_simp
      refine (rhas_any f29_0 x).mono ?_; simp only [hA2]
      rintro e w' ⟨rfl, rfl⟩
      exact k_of (HK.out (.bool true) _ rfl hB (Below.refl _ _)) (by rw [← u1_eq e25, ← u1_eq e29, ← u1_eq e33]; kernel_rfl)
    · intro u W hB _ hd _ K hK
      have HK := Lib.hid hK; clear hK
      have e25 : u 25 = .bool true := hd 25 (by decide +kernel)
      have e34 : u 34 = .bool true := hd 34 (by decide +kernel)
      refine wpOp_of rfl (by rw [← u1_eq e25]; kernel_rfl) ?_
      go_simp
      exact k_of (HK.out (.bool false) _ rfl hB (Below.refl _ _)) (by rw [← u1_eq e25, ← u1_eq e34]; kernel_rfl)
    · intro u W hB _ hd _ K hK
      have HK := Lib.hid hK; clear hK
      have e14 : u 14 = .bool false := hd 14 (by decide +kernel)
      have e25 : u 25 = .bool true := hd 25 (by decide +kernel)
      have e35 : u 35 = .bool false := hd 35 (by decide +kernel)
      refine wpOp_of rfl (by rw [← u1_eq e14]; kernel_rfl) ?_
      go_simp
      exact k_of (HK.out (.bool false) _ rfl hB (Below.refl _ _)) (by rw [← u1_eq e14, ← u1_eq e25, ← u1_eq e35]; kernel_rfl)
    · intro u W hB _ hd _ K hK
      have HK := Lib.hid hK; clear hK
      have e14 : u 14 = .bool false := hd 14 (by decide +kernel)
      have e36 : u 36 = .bool false := hd 36 (by decide +kernel)
      refine wpOp_of rfl (by rfl) ?_
      go_simp
      exact k_of (HK.out (.bool false) _ rfl hB (Below.refl _ _)) (by rw [← u1_eq e14, ← u1_eq e36]; kernel_rfl)
  · intro u W hB hd
    have e37 : u 37 = .bool false := hd 37 (by decide)
    exact k_of (HQ.out u W hB.out) (by simp only [e37])
end Go.Proofs.Ytkjfommdeljefaa
