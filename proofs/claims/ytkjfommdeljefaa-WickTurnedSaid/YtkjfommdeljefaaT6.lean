/- WickTruth: the law: its region that draws. -/
import Derived.Test.YtkjfommdeljefaaT4
import Derived.Test.YtkjfommdeljefaaS2
namespace Go.Proofs.Ytkjfommdeljefaa
open Go.RowKit Go.Shelf Go.Maps
attribute [local go_sem] Oper.semAt_some

/-- What each operation leaves. -/
def lt6F (_P _C X : Nat) (qk : Int) (p : Sp) (c : Cd) (t : Tu) (b : Bn) (_yk y0 y1 y2 y3 y4 y5 _n0 _n1 _n2 _n3 : Int) : Nat → Value → Prop
  | 0, v => v = .agg #[.slice p.ka p.s.ks.length p.kc, .slice p.xa p.s.xs.length p.xc, .int .i64 p.s.flo, .int .i64 p.s.fhi, .int .i64 p.s.plo, .int .i64 p.s.phi]
  | 1, v => v = .int .i64 qk
  | 2, v => v = .agg #[.int .i64 c.wax, .int .i64 c.dia, .int .i64 c.dra, .int .i64 c.clo, .int .i64 c.chi]
  | 3, v => v = .agg #[.slice p.ka p.s.ks.length p.kc, .slice p.xa p.s.xs.length p.xc, .int .i64 p.s.flo, .int .i64 p.s.fhi, .int .i64 p.s.plo, .int .i64 p.s.phi]
  | 4, v => v = .int .i64 qk
  | 5, v => v = .agg #[.int .i64 c.wax, .int .i64 c.dia, .int .i64 c.dra, .int .i64 c.clo, .int .i64 c.chi]
  | 6, v => v = .pointer (some ⟨X, 1, none⟩)
  | 7, v => v = .agg #[.int .u16 y0, .int .u16 y1, .int .u16 y2, .int .u16 y3, .int .u16 y4, .int .u16 y5]
  | 8, v => v = .agg #[.int .i64 t.pull, .int .i64 t.flow, .int .i64 t.rise, .int .i64 t.spr, .int .i64 t.dra, .int .i64 t.cold]
  | 9, v => v = .tuple #[.agg #[.int .i64 b.rate, .int .i64 b.flame, .int .i64 b.pool], .int .i64 0]
  | 10, v => v = .tuple #[.agg #[.int .i64 b.rate, .int .i64 b.flame, .int .i64 b.pool], .int .i64 0]
  | 11, v => v = .agg #[.int .i64 b.rate, .int .i64 b.flame, .int .i64 b.pool]
  | 12, v => v = .int .i64 0
  | 13, _ => True
  | 14, _ => True
  | 15, v => v = .int .i64 0
  | _, _ => True
set_option maxRecDepth 100000 in
set_option maxHeartbeats 8000000 in
theorem lt6_region {P C X N : Nat} {qk : Int} {p : Sp} {c : Cd} {t : Tu} {b : Bn} {yk y0 y1 y2 y3 y4 y5 n0 n1 n2 n3 : Int} {S : World → Prop} (hP : ∀ W, S W → Blk W P 27 #[.slice p.ka p.s.ks.length p.kc, .slice p.xa p.s.xs.length p.xc, .int .i64 p.s.flo, .int .i64 p.s.fhi, .int .i64 p.s.plo, .int .i64 p.s.phi]) (hC : ∀ W, S W → Blk W C 34 #[.int .i64 c.wax, .int .i64 c.dia, .int .i64 c.dra, .int .i64 c.clo, .int .i64 c.chi]) (hX : ∀ W, S W → Blk W X 65 #[.int .u8 yk, .int .u16 y0, .int .u16 y1, .int .u16 y2, .int .u16 y3, .int .u16 y4, .int .u16 y5, .int .u16 n0, .int .u16 n1, .int .u16 n2, .int .u16 n3]) (HT : Hid (∀ W, S W → Calls Try.prog 37 #[.agg #[.slice p.ka p.s.ks.length p.kc, .slice p.xa p.s.xs.length p.xc, .int .i64 p.s.flo, .int .i64 p.s.fhi, .int .i64 p.s.plo, .int .i64 p.s.phi], .int .i64 qk, .agg #[.int .i64 c.wax, .int .i64 c.dia, .int .i64 c.dra, .int .i64 c.clo, .int .i64 c.chi], .agg #[.int .u16 y0, .int .u16 y1, .int .u16 y2, .int .u16 y3, .int .u16 y4, .int .u16 y5]] W fun e w' => e = .returned (.agg #[.int .i64 t.pull, .int .i64 t.flow, .int .i64 t.rise, .int .i64 t.spr, .int .i64 t.dra, .int .i64 t.cold]) ∧ Below W.heap.size W w')) (HA : Hid (∀ W, S W → Calls Try.prog 17 #[.agg #[.slice p.ka p.s.ks.length p.kc, .slice p.xa p.s.xs.length p.xc, .int .i64 p.s.flo, .int .i64 p.s.fhi, .int .i64 p.s.plo, .int .i64 p.s.phi], .int .i64 qk, .agg #[.int .i64 c.wax, .int .i64 c.dia, .int .i64 c.dra, .int .i64 c.clo, .int .i64 c.chi], .agg #[.int .i64 t.pull, .int .i64 t.flow, .int .i64 t.rise, .int .i64 t.spr, .int .i64 t.dra, .int .i64 t.cold]] W fun e w' => e = .returned (.tuple #[.agg #[.int .i64 b.rate, .int .i64 b.flame, .int .i64 b.pool], .int .i64 0]) ∧ Below W.heap.size W w')) (hon : ∀ W W', S W → Below W.heap.size W W' → S W') (hput : ∀ W W' G, S W → W.grownBy W' (some G) → (N ≤ G) → S W') (hN : ∀ W, S W → N ≤ W.heap.size) {Q : Exit → Act → World → Prop} {s0 s1 s2 s6 s7 s8 s10 s11 s12 s15 s16 s17 s18 s19 s20 s21 s22 s23 s24 s25 s26 s27 s28 s29 s30 s31 s32 s33 s34 s35 s36 s37 s38 s39 s40 s41 s42 s43 s44 s45 s46 s47 s48 s49 s50 s64 s65 s66 s67 s68 s69 s70 s71 s72 s73 s74 s75 s76 s77 s78 s79 s80 s81 s82 s83 s84 s85 s86 s87 s88 s89 s90 s91 s92 s93 s94 s95 s96 s97 s98 s99 s100 s101 s102 s103 s104 s105 s106 s107 s108 s109 s110 s111 s112 s113 s114 s115 s116 s117 s118 s119 s120 s121 s122 s123 s124 s125 s126 s127 s128 s129 s130 s131 s132 s133 s134 s135 s136 s137 s138 s139 s140 s141 s142 s143 s144 s145 s146 s147 s148 s149 s150 s151 s152 s153 s154 s155 s156 s157 s158 : Value} {W0 : World} (HL : Hid (S W0))
    (HQ : Hid (∀ (u : Nat → Value) (G0 : Nat) (W : World), S W → N ≤ G0 → Blk W (G0) 40 #[.int .i64 b.rate, .int .i64 b.flame, .int .i64 b.pool] → Q .normal ⟨#[s0, s1, s2, .pointer (some ⟨P, 0, none⟩), .pointer (some ⟨C, 0, none⟩), .pointer (some ⟨X, 0, none⟩), s6, s7, s8, .int .i64 qk, s10, s11, s12, .pointer (some ⟨G0, 0, none⟩), .int .i64 0, s15, s16, s17, s18, s19, s20, s21, s22, s23, s24, s25, s26, s27, s28, s29, s30, s31, s32, s33, s34, s35, s36, s37, s38, s39, s40, s41, s42, s43, s44, s45, s46, s47, s48, s49, s50, u 10, u 0, u 1, u 2, u 3, u 4, u 5, u 6, u 7, u 8, u 9, u 11, u 12, s64, s65, s66, s67, s68, s69, s70, s71, s72, s73, s74, s75, s76, s77, s78, s79, s80, s81, s82, s83, s84, s85, s86, s87, s88, s89, s90, s91, s92, s93, s94, s95, s96, s97, s98, s99, s100, s101, s102, s103, s104, s105, s106, s107, s108, s109, s110, s111, s112, s113, s114, s115, s116, s117, s118, s119, s120, s121, s122, s123, s124, s125, s126, s127, s128, s129, s130, s131, s132, s133, s134, s135, s136, s137, s138, s139, s140, s141, s142, s143, s144, s145, s146, s147, s148, s149, s150, s151, s152, s153, s154, s155, s156, s157, s158], []⟩ W)) :
    Code.wp Try.prog ((Try.f7.body.bind (regionAt 6)).getD .skip) Q ⟨#[s0, s1, s2, .pointer (some ⟨P, 0, none⟩), .pointer (some ⟨C, 0, none⟩), .pointer (some ⟨X, 0, none⟩), s6, s7, s8, .int .i64 qk, s10, s11, s12, undef, undef, s15, s16, s17, s18, s19, s20, s21, s22, s23, s24, s25, s26, s27, s28, s29, s30, s31, s32, s33, s34, s35, s36, s37, s38, s39, s40, s41, s42, s43, s44, s45, s46, s47, s48, s49, s50, undef, undef, undef, undef, undef, undef, undef, undef, undef, undef, undef, undef, undef, s64, s65, s66, s67, s68, s69, s70, s71, s72, s73, s74, s75, s76, s77, s78, s79, s80, s81, s82, s83, s84, s85, s86, s87, s88, s89, s90, s91, s92, s93, s94, s95, s96, s97, s98, s99, s100, s101, s102, s103, s104, s105, s106, s107, s108, s109, s110, s111, s112, s113, s114, s115, s116, s117, s118, s119, s120, s121, s122, s123, s124, s125, s126, s127, s128, s129, s130, s131, s132, s133, s134, s135, s136, s137, s138, s139, s140, s141, s142, s143, s144, s145, s146, s147, s148, s149, s150, s151, s152, s153, s154, s155, s156, s157, s158], []⟩ W0 := by
  conv => arg 2; whnf
  refine wp_region_vars (by kernel_rfl) 16 (by kernel_rfl) (fun u => ⟨#[s0, s1, s2, .pointer (some ⟨P, 0, none⟩), .pointer (some ⟨C, 0, none⟩), .pointer (some ⟨X, 0, none⟩), s6, s7, s8, .int .i64 qk, s10, s11, s12, u 13, u 15, s15, s16, s17, s18, s19, s20, s21, s22, s23, s24, s25, s26, s27, s28, s29, s30, s31, s32, s33, s34, s35, s36, s37, s38, s39, s40, s41, s42, s43, s44, s45, s46, s47, s48, s49, s50, u 10, u 0, u 1, u 2, u 3, u 4, u 5, u 6, u 7, u 8, u 9, u 11, u 12, s64, s65, s66, s67, s68, s69, s70, s71, s72, s73, s74, s75, s76, s77, s78, s79, s80, s81, s82, s83, s84, s85, s86, s87, s88, s89, s90, s91, s92, s93, s94, s95, s96, s97, s98, s99, s100, s101, s102, s103, s104, s105, s106, s107, s108, s109, s110, s111, s112, s113, s114, s115, s116, s117, s118, s119, s120, s121, s122, s123, s124, s125, s126, s127, s128, s129, s130, s131, s132, s133, s134, s135, s136, s137, s138, s139, s140, s141, s142, s143, s144, s145, s146, s147, s148, s149, s150, s151, s152, s153, s154, s155, s156, s157, s158], []⟩) (fun i => undef) (fun W => Hid (S W)) (lt6F P C X qk p c t b yk y0 y1 y2 y3 y4 y5 n0 n1 n2 n3) (N) [⟨some 13, 0, 14, 40, #[.int .i64 0, .int .i64 0, .int .i64 0], #[.int .i64 b.rate, .int .i64 b.flame, .int .i64 b.pool]⟩] [13] [14] rfl rfl (by kernel_rfl) (hon _ _ HL.out (Below.refl _ _).drew) ?hV (fun W h => hN W h.out) ?hg (by decide +kernel) (fun W W' h hb => hon W W' h.out hb) ?hp ?hA ?hP (by decide) (by decide) (by decide) (by decide) (by decide) ?step ?done
  case hV =>
    refine ⟨fun q hq => ⟨fun a e hl => (by cases hl), fun G hG => ?_⟩, fun q hq r hr hne G h1 h2 => ?_⟩
    · simp only [List.mem_cons, List.not_mem_nil, or_false] at hq
      rcases hq with rfl
      · exact absurd hG.1 (by decide)
    · simp only [List.mem_cons, List.not_mem_nil, or_false] at hq
      rcases hq with rfl
      · exact absurd h1.1 (by decide)
  case hg =>
    intro q hq ha
    simp only [List.mem_cons, List.not_mem_nil, or_false] at hq
    rcases hq with rfl
    · cases ha
  case hp =>
    intro W W' G h hg hG
    refine hput W W' G h.out hg ?_
    rcases hG with h1 | ⟨q, hq, ha, h2⟩
    · exact h1
    · simp only [List.mem_cons, List.not_mem_nil, or_false] at hq
      rcases hq with rfl
      · cases ha
  case hA =>
    intro q hq i ha
    simp only [List.mem_cons, List.not_mem_nil, or_false] at hq
    rcases hq with rfl
    · cases ha
      refine ⟨by show _ ∈ waits _ _ 14; decide +kernel, fun u W hB K hK => ?_⟩
      have HK := Lib.hid hK; clear hK
      refine wpOp_of rfl (by rfl) ?_
      go_simp
      exact k_of HK.out (by kernel_rfl)
  case hP =>
    intro q hq u W hB hd G hG hb K hK
    have HK := Lib.hid hK; clear hK
    simp only [List.mem_cons, List.not_mem_nil, or_false] at hq
    rcases hq with rfl
    · obtain ⟨-, eG, hle⟩ := hG
      replace eG : u 13 = .pointer (some ⟨G, 0, none⟩) := eG
      replace hd : ∀ j ∈ waits .any _ 14, j ∉ [13] → j ∉ [14] → lt6F P C X qk p c t b yk y0 y1 y2 y3 y4 y5 n0 n1 n2 n3 j (u j) := hd
      have e11 : u 11 = .agg #[.int .i64 b.rate, .int .i64 b.flame, .int .i64 b.pool] := hd 11 (by decide +kernel) (by decide) (by decide)
      replace hb : Blk W G 40 #[.int .i64 0, .int .i64 0, .int .i64 0] := hb
      have hb2 := (((hb).set_ 0 (.int .i64 b.rate)).set_ 1 (.int .i64 b.flame)).set_ 2 (.int .i64 b.pool)
      simp only [List.setIfInBounds_toArray, List.set_cons_zero, List.set_cons_succ] at hb2
      have hg2 : W.grownBy _ (some (G)) := grown_more (grown_more (grown_more (World.grownBy.refl W (some G)) 0 (.int .i64 b.rate)) 1 (.int .i64 b.flame)) 2 (.int .i64 b.pool)
      have fz0 := hb.frozen 0
      have cl0 := hb.cell 0
      have fz1 := hb.frozen 1
      have cl1 := hb.cell 1
      have fz2 := hb.frozen 2
      have cl2 := hb.cell 2
      have gl := hb.lt
      have HB2 := Lib.hid hb2
      have HG2 := Lib.hid hg2
      clear hb2 hg2
      refine wpOp_of rfl (by rfl) ?_
      go_simp
      exact k_of (HK.out _ HB2.out HG2.out) (by rw [← u1_eq eG, ← u1_eq e11] <;> kernel_rfl)
  case step =>
    iterate 16 (refine all_succ ?_ ?_)
    · exact all_zero
    · intro _ _ u W hB hv hd K hK
      have HK := Lib.hid hK; clear hK
      refine wpOp_of rfl (by rfl) ?_
      have z0 := (hP W hB.out).cell 0; have z1 := (hP W hB.out).cell 1; have z2 := (hP W hB.out).cell 2; have z3 := (hP W hB.out).cell 3; have z4 := (hP W hB.out).cell 4; have z5 := (hP W hB.out).cell 5
      go_simp
      exact k_of (HK.out (.agg #[.slice p.ka p.s.ks.length p.kc, .slice p.xa p.s.xs.length p.xc, .int .i64 p.s.flo, .int .i64 p.s.fhi, .int .i64 p.s.plo, .int .i64 p.s.phi]) _ rfl hB (Below.refl _ _)) (by kernel_rfl)
    · intro _ _ u W hB hv hd K hK
      have HK := Lib.hid hK; clear hK
      refine wpOp_of rfl (by rfl) ?_
      go_simp
      exact k_of (HK.out (.int .i64 qk) _ rfl hB (Below.refl _ _)) (by kernel_rfl)
    · intro _ _ u W hB hv hd K hK
      have HK := Lib.hid hK; clear hK
      refine wpOp_of rfl (by rfl) ?_
      have z0 := (hC W hB.out).cell 0; have z1 := (hC W hB.out).cell 1; have z2 := (hC W hB.out).cell 2; have z3 := (hC W hB.out).cell 3; have z4 := (hC W hB.out).cell 4
      go_simp
      exact k_of (HK.out (.agg #[.int .i64 c.wax, .int .i64 c.dia, .int .i64 c.dra, .int .i64 c.clo, .int .i64 c.chi]) _ rfl hB (Below.refl _ _)) (by kernel_rfl)
    · intro _ _ u W hB hv hd K hK
      have HK := Lib.hid hK; clear hK
      refine wpOp_of rfl (by rfl) ?_
      have z0 := (hP W hB.out).cell 0; have z1 := (hP W hB.out).cell 1; have z2 := (hP W hB.out).cell 2; have z3 := (hP W hB.out).cell 3; have z4 := (hP W hB.out).cell 4; have z5 := (hP W hB.out).cell 5
      go_simp
      exact k_of (HK.out (.agg #[.slice p.ka p.s.ks.length p.kc, .slice p.xa p.s.xs.length p.xc, .int .i64 p.s.flo, .int .i64 p.s.fhi, .int .i64 p.s.plo, .int .i64 p.s.phi]) _ rfl hB (Below.refl _ _)) (by kernel_rfl)
    · intro _ _ u W hB hv hd K hK
      have HK := Lib.hid hK; clear hK
      refine wpOp_of rfl (by rfl) ?_
      go_simp
      exact k_of (HK.out (.int .i64 qk) _ rfl hB (Below.refl _ _)) (by kernel_rfl)
    · intro _ _ u W hB hv hd K hK
      have HK := Lib.hid hK; clear hK
      refine wpOp_of rfl (by rfl) ?_
      have z0 := (hC W hB.out).cell 0; have z1 := (hC W hB.out).cell 1; have z2 := (hC W hB.out).cell 2; have z3 := (hC W hB.out).cell 3; have z4 := (hC W hB.out).cell 4
      go_simp
      exact k_of (HK.out (.agg #[.int .i64 c.wax, .int .i64 c.dia, .int .i64 c.dra, .int .i64 c.clo, .int .i64 c.chi]) _ rfl hB (Below.refl _ _)) (by kernel_rfl)
    · intro _ _ u W hB hv hd K hK
      have HK := Lib.hid hK; clear hK
      refine wpOp_of rfl (by rfl) ?_
      go_simp
      exact k_of (HK.out (.pointer (some ⟨X, 1, none⟩)) _ rfl hB (Below.refl _ _)) (by kernel_rfl)
    · intro _ _ u W hB hv hd K hK
      have HK := Lib.hid hK; clear hK
      have e6 : u 6 = .pointer (some ⟨X, 1, none⟩) := hd 6 (by decide +kernel) (by decide) (by decide)
      refine wpOp_of rfl (by rfl) ?_
      have z1 := (hX W hB.out).cell 1; have z2 := (hX W hB.out).cell 2; have z3 := (hX W hB.out).cell 3; have z4 := (hX W hB.out).cell 4; have z5 := (hX W hB.out).cell 5; have z6 := (hX W hB.out).cell 6
      go_simp
      exact k_of (HK.out (.agg #[.int .u16 y0, .int .u16 y1, .int .u16 y2, .int .u16 y3, .int .u16 y4, .int .u16 y5]) _ rfl hB (Below.refl _ _)) (by rw [← u1_eq e6]; kernel_rfl)
    · intro _ _ u W hB hv hd K hK
      have HK := Lib.hid hK; clear hK
      have e3 : u 3 = .agg #[.slice p.ka p.s.ks.length p.kc, .slice p.xa p.s.xs.length p.xc, .int .i64 p.s.flo, .int .i64 p.s.fhi, .int .i64 p.s.plo, .int .i64 p.s.phi] := hd 3 (by decide +kernel) (by decide) (by decide)
      have e4 : u 4 = .int .i64 qk := hd 4 (by decide +kernel) (by decide) (by decide)
      have e5 : u 5 = .agg #[.int .i64 c.wax, .int .i64 c.dia, .int .i64 c.dra, .int .i64 c.clo, .int .i64 c.chi] := hd 5 (by decide +kernel) (by decide) (by decide)
      have e7 : u 7 = .agg #[.int .u16 y0, .int .u16 y1, .int .u16 y2, .int .u16 y3, .int .u16 y4, .int .u16 y5] := hd 7 (by decide +kernel) (by decide) (by decide)
      refine wpOp_of rfl (by rfl) ?_
      go_simp
      refine (HT.out W hB.out).mono ?_
      rintro e w' ⟨rfl, hb⟩
      exact k_of (HK.out (.agg #[.int .i64 t.pull, .int .i64 t.flow, .int .i64 t.rise, .int .i64 t.spr, .int .i64 t.dra, .int .i64 t.cold]) _ rfl (hon _ _ hB.out hb) hb) (by rw [← u1_eq e3, ← u1_eq e4, ← u1_eq e5, ← u1_eq e7]; kernel_rfl)
    · intro _ _ u W hB hv hd K hK
      have HK := Lib.hid hK; clear hK
      have e0 : u 0 = .agg #[.slice p.ka p.s.ks.length p.kc, .slice p.xa p.s.xs.length p.xc, .int .i64 p.s.flo, .int .i64 p.s.fhi, .int .i64 p.s.plo, .int .i64 p.s.phi] := hd 0 (by decide +kernel) (by decide) (by decide)
      have e1 : u 1 = .int .i64 qk := hd 1 (by decide +kernel) (by decide) (by decide)
      have e2 : u 2 = .agg #[.int .i64 c.wax, .int .i64 c.dia, .int .i64 c.dra, .int .i64 c.clo, .int .i64 c.chi] := hd 2 (by decide +kernel) (by decide) (by decide)
      have e8 : u 8 = .agg #[.int .i64 t.pull, .int .i64 t.flow, .int .i64 t.rise, .int .i64 t.spr, .int .i64 t.dra, .int .i64 t.cold] := hd 8 (by decide +kernel) (by decide) (by decide)
      refine wpOp_of rfl (by rfl) ?_
      go_simp
      refine (HA.out W hB.out).mono ?_
      rintro e w' ⟨rfl, hb⟩
      exact k_of (HK.out (.tuple #[.agg #[.int .i64 b.rate, .int .i64 b.flame, .int .i64 b.pool], .int .i64 0]) _ rfl (hon _ _ hB.out hb) hb) (by rw [← u1_eq e0, ← u1_eq e1, ← u1_eq e2, ← u1_eq e8]; kernel_rfl)
    · intro _ _ u W hB hv hd K hK
      have HK := Lib.hid hK; clear hK
      have e9 : u 9 = .tuple #[.agg #[.int .i64 b.rate, .int .i64 b.flame, .int .i64 b.pool], .int .i64 0] := hd 9 (by decide +kernel) (by decide) (by decide)
      refine wpOp_of rfl (by rfl) ?_
      go_simp
      exact k_of (HK.out (.tuple #[.agg #[.int .i64 b.rate, .int .i64 b.flame, .int .i64 b.pool], .int .i64 0]) _ rfl hB (Below.refl _ _)) (by rw [← u1_eq e9]; kernel_rfl)
    · intro _ _ u W hB hv hd K hK
      have HK := Lib.hid hK; clear hK
      have e10 : u 10 = .tuple #[.agg #[.int .i64 b.rate, .int .i64 b.flame, .int .i64 b.pool], .int .i64 0] := hd 10 (by decide +kernel) (by decide) (by decide)
      refine wpOp_of rfl (by rfl) ?_
      go_simp
      exact k_of (HK.out (.agg #[.int .i64 b.rate, .int .i64 b.flame, .int .i64 b.pool]) _ rfl hB (Below.refl _ _)) (by rw [← u1_eq e10]; kernel_rfl)
    · intro _ _ u W hB hv hd K hK
      have HK := Lib.hid hK; clear hK
      have e10 : u 10 = .tuple #[.agg #[.int .i64 b.rate, .int .i64 b.flame, .int .i64 b.pool], .int .i64 0] := hd 10 (by decide +kernel) (by decide) (by decide)
      refine wpOp_of rfl (by rfl) ?_
      go_simp
      exact k_of (HK.out (.int .i64 0) _ rfl hB (Below.refl _ _)) (by rw [← u1_eq e10]; kernel_rfl)
    · intro ha; exact absurd (by decide) ha
    · intro _ ha; exact absurd (by decide) ha
    · intro _ _ u W hB hv hd K hK
      have HK := Lib.hid hK; clear hK
      have e12 : u 12 = .int .i64 0 := hd 12 (by decide +kernel) (by decide) (by decide)
      refine wpOp_of rfl (by rfl) ?_
      go_simp
      exact k_of (HK.out (.int .i64 0) _ rfl hB (Below.refl _ _)) (by rw [← u1_eq e12]; kernel_rfl)
  case done =>
    intro L u W hL hB hd hV
    have hv0 := hV.ok ⟨some 13, 0, 14, 40, #[.int .i64 0, .int .i64 0, .int .i64 0], #[.int .i64 b.rate, .int .i64 b.flame, .int .i64 b.pool]⟩ (by simp)
    obtain ⟨G0, eG0, hN0⟩ := hv0.1 13 rfl (hL 13 (by decide))
    have hB0 := hv0.2 G0 ⟨hL 13 (by decide), eG0, hN0⟩
    rw [if_pos (hL 14 (by decide))] at hB0
    have e15 : u 15 = .int .i64 0 := hd 15 (by decide) (by decide) (by decide)
    exact k_of (HQ.out u G0 W hB.out hN0 hB0) (by simp only [eG0, e15])
end Go.Proofs.Ytkjfommdeljefaa
