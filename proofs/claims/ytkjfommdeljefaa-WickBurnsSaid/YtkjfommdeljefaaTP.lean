/- ref03.Minutes: its contract. -/
import Derived.Test.YtkjfommdeljefaaTK
import Derived.Test.YtkjfommdeljefaaT2
import Derived.Test.YtkjfommdeljefaaQA
namespace Go.Proofs.Ytkjfommdeljefaa
open Go.RowKit Go.Shelf Go.Maps
attribute [local go_sem] Oper.semAt_some

/-- What each operation leaves. -/
def rm7R (_P _C _T1 _T2 : Nat) (p : Sp) (c : Cd) (tl th : Tu) (b1 b2 : Bn) : Nat → Value → World → Prop
  | 0, v, _ => v = .agg #[.slice p.ka p.s.ks.length p.kc, .slice p.xa p.s.xs.length p.xc, .int .i64 p.s.flo, .int .i64 p.s.fhi, .int .i64 p.s.plo, .int .i64 p.s.phi]
  | 1, v, _ => v = .agg #[.int .i64 c.wax, .int .i64 c.dia, .int .i64 c.dra, .int .i64 c.clo, .int .i64 c.chi]
  | 2, v, _ => v = .agg #[.int .i64 tl.pull, .int .i64 tl.flow, .int .i64 tl.rise, .int .i64 tl.spr, .int .i64 tl.dra, .int .i64 tl.cold]
  | 3, v, _ => v = .agg #[.int .i64 b1.rate, .int .i64 b1.flame, .int .i64 b1.pool]
  | 4, v, _ => v = .int .i64 b1.rate
  | 5, v, _ => v = .agg #[.slice p.ka p.s.ks.length p.kc, .slice p.xa p.s.xs.length p.xc, .int .i64 p.s.flo, .int .i64 p.s.fhi, .int .i64 p.s.plo, .int .i64 p.s.phi]
  | 6, v, _ => v = .agg #[.int .i64 c.wax, .int .i64 c.dia, .int .i64 c.dra, .int .i64 c.clo, .int .i64 c.chi]
  | 7, v, _ => v = .agg #[.int .i64 th.pull, .int .i64 th.flow, .int .i64 th.rise, .int .i64 th.spr, .int .i64 th.dra, .int .i64 th.cold]
  | 8, v, _ => v = .agg #[.int .i64 b2.rate, .int .i64 b2.flame, .int .i64 b2.pool]
  | 9, v, _ => v = .int .i64 b2.rate
  | 10, v, _ => v = .int .i64 b1.rate
  | 11, v, _ => v = .int .i64 b2.rate
  | _, _, _ => True
theorem rm7R_on (P C T1 T2 : Nat) (p : Sp) (c : Cd) (tl th : Tu) (b1 b2 : Bn) : ∀ i, i < 12 → ∀ v W W', rm7R P C T1 T2 p c tl th b1 b2 i v W → Below W.heap.size W W' → rm7R P C T1 T2 p c tl th b1 b2 i v W' := by
  iterate 12 (refine all_succ ?_ ?_)
  · exact all_zero
  · exact fun _ _ _ h _ => h
  · exact fun _ _ _ h _ => h
  · exact fun _ _ _ h _ => h
  · exact fun _ _ _ h _ => h
  · exact fun _ _ _ h _ => h
  · exact fun _ _ _ h _ => h
  · exact fun _ _ _ h _ => h
  · exact fun _ _ _ h _ => h
  · exact fun _ _ _ h _ => h
  · exact fun _ _ _ h _ => h
  · exact fun _ _ _ h _ => h
  · exact fun _ _ _ h _ => h
set_option maxRecDepth 100000 in
set_option maxHeartbeats 8000000 in
theorem rm7_region {S : World → Prop} (hon : ∀ W W', S W → Below W.heap.size W W' → S W') {P C T1 T2 : Nat} {p : Sp} {c : Cd} {tl th : Tu} {b1 b2 : Bn} (hP : ∀ W, S W → Blk W P 27 #[.slice p.ka p.s.ks.length p.kc, .slice p.xa p.s.xs.length p.xc, .int .i64 p.s.flo, .int .i64 p.s.fhi, .int .i64 p.s.plo, .int .i64 p.s.phi]) (hC : ∀ W, S W → Blk W C 34 #[.int .i64 c.wax, .int .i64 c.dia, .int .i64 c.dra, .int .i64 c.clo, .int .i64 c.chi]) (h1 : ∀ W, S W → Blk W T1 36 #[.int .i64 tl.pull, .int .i64 tl.flow, .int .i64 tl.rise, .int .i64 tl.spr, .int .i64 tl.dra, .int .i64 tl.cold]) (h2 : ∀ W, S W → Blk W T2 36 #[.int .i64 th.pull, .int .i64 th.flow, .int .i64 th.rise, .int .i64 th.spr, .int .i64 th.dra, .int .i64 th.cold]) (H1 : Hid (∀ W, S W → Calls Try.prog 54 #[.agg #[.slice p.ka p.s.ks.length p.kc, .slice p.xa p.s.xs.length p.xc, .int .i64 p.s.flo, .int .i64 p.s.fhi, .int .i64 p.s.plo, .int .i64 p.s.phi], .agg #[.int .i64 c.wax, .int .i64 c.dia, .int .i64 c.dra, .int .i64 c.clo, .int .i64 c.chi], .agg #[.int .i64 tl.pull, .int .i64 tl.flow, .int .i64 tl.rise, .int .i64 tl.spr, .int .i64 tl.dra, .int .i64 tl.cold]] W fun e w' => e = .returned (.agg #[.int .i64 b1.rate, .int .i64 b1.flame, .int .i64 b1.pool]) ∧ Below W.heap.size W w')) (H2 : Hid (∀ W, S W → Calls Try.prog 54 #[.agg #[.slice p.ka p.s.ks.length p.kc, .slice p.xa p.s.xs.length p.xc, .int .i64 p.s.flo, .int .i64 p.s.fhi, .int .i64 p.s.plo, .int .i64 p.s.phi], .agg #[.int .i64 c.wax, .int .i64 c.dia, .int .i64 c.dra, .int .i64 c.clo, .int .i64 c.chi], .agg #[.int .i64 th.pull, .int .i64 th.flow, .int .i64 th.rise, .int .i64 th.spr, .int .i64 th.dra, .int .i64 th.cold]] W fun e w' => e = .returned (.agg #[.int .i64 b2.rate, .int .i64 b2.flame, .int .i64 b2.pool]) ∧ Below W.heap.size W w'))  {Q : Exit → Act → World → Prop} {s0 s1 s2 s3 s5 s7 s8 s9 s10 s15 s16 s17 s18 s19 s20 s21 s22 s23 s24 s25 s26 s27 s28 s29 s30 s31 s32 s33 s34 s35 s36 s37 s48 s49 s50 s51 s52 s53 s54 s55 s56 s57 s58 s59 s60 : Value} {W0 : World} (HL : Hid (S W0))
    (HQ : Hid (∀ (u : Nat → Value) (W : World), S W → Q .normal ⟨#[s0, s1, s2, s3, .pointer (some ⟨P, 0, none⟩), s5, .pointer (some ⟨C, 0, none⟩), s7, s8, s9, s10, .pointer (some ⟨T1, 0, none⟩), .pointer (some ⟨T2, 0, none⟩), .int .i64 b1.rate, .int .i64 b2.rate, s15, s16, s17, s18, s19, s20, s21, s22, s23, s24, s25, s26, s27, s28, s29, s30, s31, s32, s33, s34, s35, s36, s37, u 0, u 1, u 2, u 3, u 4, u 5, u 6, u 7, u 8, u 9, s48, s49, s50, s51, s52, s53, s54, s55, s56, s57, s58, s59, s60], []⟩ W)) :
    Code.wp Try.prog ((Try.f22.body.bind (regionAt 7)).getD .skip) Q ⟨#[s0, s1, s2, s3, .pointer (some ⟨P, 0, none⟩), s5, .pointer (some ⟨C, 0, none⟩), s7, s8, s9, s10, .pointer (some ⟨T1, 0, none⟩), .pointer (some ⟨T2, 0, none⟩), undef, undef, s15, s16, s17, s18, s19, s20, s21, s22, s23, s24, s25, s26, s27, s28, s29, s30, s31, s32, s33, s34, s35, s36, s37, undef, undef, undef, undef, undef, undef, undef, undef, undef, undef, s48, s49, s50, s51, s52, s53, s54, s55, s56, s57, s58, s59, s60], []⟩ W0 := by
  conv => arg 2; whnf
  refine wp_region_spec (by kernel_rfl) 12 (by kernel_rfl) (fun u => ⟨#[s0, s1, s2, s3, .pointer (some ⟨P, 0, none⟩), s5, .pointer (some ⟨C, 0, none⟩), s7, s8, s9, s10, .pointer (some ⟨T1, 0, none⟩), .pointer (some ⟨T2, 0, none⟩), u 10, u 11, s15, s16, s17, s18, s19, s20, s21, s22, s23, s24, s25, s26, s27, s28, s29, s30, s31, s32, s33, s34, s35, s36, s37, u 0, u 1, u 2, u 3, u 4, u 5, u 6, u 7, u 8, u 9, s48, s49, s50, s51, s52, s53, s54, s55, s56, s57, s58, s59, s60], []⟩) (fun i => undef) (fun W => Hid (S W)) (rm7R P C T1 T2 p c tl th b1 b2) (by kernel_rfl) (hon _ _ HL.out (Below.refl _ _).drew) (fun i v W W2 hi h hb => rm7R_on P C T1 T2 p c tl th b1 b2 i hi v W W2 h hb) (by decide +kernel) ?_ ?_
  · iterate 12 (refine all_succ ?_ ?_)
    · exact all_zero
    · intro u W hB _ hd _ K hK
      have HK := Lib.hid hK; clear hK
      refine wpOp_of rfl (by rfl) ?_
      have z0 := (hP W hB.out).cell 0; have z1 := (hP W hB.out).cell 1; have z2 := (hP W hB.out).cell 2; have z3 := (hP W hB.out).cell 3; have z4 := (hP W hB.out).cell 4; have z5 := (hP W hB.out).cell 5
      go_simp
      exact k_of (HK.out (.agg #[.slice p.ka p.s.ks.length p.kc, .slice p.xa p.s.xs.length p.xc, .int .i64 p.s.flo, .int .i64 p.s.fhi, .int .i64 p.s.plo, .int .i64 p.s.phi]) _ rfl hB (Below.refl _ _)) (by kernel_rfl)
    · intro u W hB _ hd _ K hK
      have HK := Lib.hid hK; clear hK
      refine wpOp_of rfl (by rfl) ?_
      have z0 := (hC W hB.out).cell 0; have z1 := (hC W hB.out).cell 1; have z2 := (hC W hB.out).cell 2; have z3 := (hC W hB.out).cell 3; have z4 := (hC W hB.out).cell 4
      go_simp
      exact k_of (HK.out (.agg #[.int .i64 c.wax, .int .i64 c.dia, .int .i64 c.dra, .int .i64 c.clo, .int .i64 c.chi]) _ rfl hB (Below.refl _ _)) (by kernel_rfl)
    · intro u W hB _ hd _ K hK
      have HK := Lib.hid hK; clear hK
      refine wpOp_of rfl (by rfl) ?_
      have z0 := (h1 W hB.out).cell 0; have z1 := (h1 W hB.out).cell 1; have z2 := (h1 W hB.out).cell 2; have z3 := (h1 W hB.out).cell 3; have z4 := (h1 W hB.out).cell 4; have z5 := (h1 W hB.out).cell 5
      go_simp
      exact k_of (HK.out (.agg #[.int .i64 tl.pull, .int .i64 tl.flow, .int .i64 tl.rise, .int .i64 tl.spr, .int .i64 tl.dra, .int .i64 tl.cold]) _ rfl hB (Below.refl _ _)) (by kernel_rfl)
    · intro u W hB _ hd _ K hK
      have HK := Lib.hid hK; clear hK
      have e0 : u 0 = .agg #[.slice p.ka p.s.ks.length p.kc, .slice p.xa p.s.xs.length p.xc, .int .i64 p.s.flo, .int .i64 p.s.fhi, .int .i64 p.s.plo, .int .i64 p.s.phi] := hd 0 (by decide +kernel)
      have e1 : u 1 = .agg #[.int .i64 c.wax, .int .i64 c.dia, .int .i64 c.dra, .int .i64 c.clo, .int .i64 c.chi] := hd 1 (by decide +kernel)
      have e2 : u 2 = .agg #[.int .i64 tl.pull, .int .i64 tl.flow, .int .i64 tl.rise, .int .i64 tl.spr, .int .i64 tl.dra, .int .i64 tl.cold] := hd 2 (by decide +kernel)
      refine wpOp_of rfl (by rfl) ?_
      go_simp
      refine (H1.out W hB.out).mono ?_
      rintro e w' ⟨rfl, hb⟩
      exact k_of (HK.out (.agg #[.int .i64 b1.rate, .int .i64 b1.flame, .int .i64 b1.pool]) _ rfl (hon _ _ hB.out hb) hb) (by rw [← u1_eq e0, ← u1_eq e1, ← u1_eq e2]; kernel_rfl)
    · intro u W hB _ hd _ K hK
      have HK := Lib.hid hK; clear hK
      have e3 : u 3 = .agg #[.int .i64 b1.rate, .int .i64 b1.flame, .int .i64 b1.pool] := hd 3 (by decide +kernel)
      refine wpOp_of rfl (by rfl) ?_
      go_simp
      exact k_of (HK.out (.int .i64 b1.rate) _ rfl hB (Below.refl _ _)) (by rw [← u1_eq e3]; kernel_rfl)
    · intro u W hB _ hd _ K hK
      have HK := Lib.hid hK; clear hK
      refine wpOp_of rfl (by rfl) ?_
      have z0 := (hP W hB.out).cell 0; have z1 := (hP W hB.out).cell 1; have z2 := (hP W hB.out).cell 2; have z3 := (hP W hB.out).cell 3; have z4 := (hP W hB.out).cell 4; have z5 := (hP W hB.out).cell 5
      go_simp
      exact k_of (HK.out (.agg #[.slice p.ka p.s.ks.length p.kc, .slice p.xa p.s.xs.length p.xc, .int .i64 p.s.flo, .int .i64 p.s.fhi, .int .i64 p.s.plo, .int .i64 p.s.phi]) _ rfl hB (Below.refl _ _)) (by kernel_rfl)
    · intro u W hB _ hd _ K hK
      have HK := Lib.hid hK; clear hK
      refine wpOp_of rfl (by rfl) ?_
      have z0 := (hC W hB.out).cell 0; have z1 := (hC W hB.out).cell 1; have z2 := (hC W hB.out).cell 2; have z3 := (hC W hB.out).cell 3; have z4 := (hC W hB.out).cell 4
      go_simp
      exact k_of (HK.out (.agg #[.int .i64 c.wax, .int .i64 c.dia, .int .i64 c.dra, .int .i64 c.clo, .int .i64 c.chi]) _ rfl hB (Below.refl _ _)) (by kernel_rfl)
    · intro u W hB _ hd _ K hK
      have HK := Lib.hid hK; clear hK
      refine wpOp_of rfl (by rfl) ?_
      have z0 := (h2 W hB.out).cell 0; have z1 := (h2 W hB.out).cell 1; have z2 := (h2 W hB.out).cell 2; have z3 := (h2 W hB.out).cell 3; have z4 := (h2 W hB.out).cell 4; have z5 := (h2 W hB.out).cell 5
      go_simp
      exact k_of (HK.out (.agg #[.int .i64 th.pull, .int .i64 th.flow, .int .i64 th.rise, .int .i64 th.spr, .int .i64 th.dra, .int .i64 th.cold]) _ rfl hB (Below.refl _ _)) (by kernel_rfl)
    · intro u W hB _ hd _ K hK
      have HK := Lib.hid hK; clear hK
      have e5 : u 5 = .agg #[.slice p.ka p.s.ks.length p.kc, .slice p.xa p.s.xs.length p.xc, .int .i64 p.s.flo, .int .i64 p.s.fhi, .int .i64 p.s.plo, .int .i64 p.s.phi] := hd 5 (by decide +kernel)
      have e6 : u 6 = .agg #[.int .i64 c.wax, .int .i64 c.dia, .int .i64 c.dra, .int .i64 c.clo, .int .i64 c.chi] := hd 6 (by decide +kernel)
      have e7 : u 7 = .agg #[.int .i64 th.pull, .int .i64 th.flow, .int .i64 th.rise, .int .i64 th.spr, .int .i64 th.dra, .int .i64 th.cold] := hd 7 (by decide +kernel)
      refine wpOp_of rfl (by rfl) ?_
      go_simp
      refine (H2.out W hB.out).mono ?_
      rintro e w' ⟨rfl, hb⟩
      exact k_of (HK.out (.agg #[.int .i64 b2.rate, .int .i64 b2.flame, .int .i64 b2.pool]) _ rfl (hon _ _ hB.out hb) hb) (by rw [← u1_eq e5, ← u1_eq e6, ← u1_eq e7]; kernel_rfl)
    · intro u W hB _ hd _ K hK
      have HK := Lib.hid hK; clear hK
      have e8 : u 8 = .agg #[.int .i64 b2.rate, .int .i64 b2.flame, .int .i64 b2.pool] := hd 8 (by decide +kernel)
      refine wpOp_of rfl (by rfl) ?_
      go_simp
      exact k_of (HK.out (.int .i64 b2.rate) _ rfl hB (Below.refl _ _)) (by rw [← u1_eq e8]; kernel_rfl)
    · intro u W hB _ hd _ K hK
      have HK := Lib.hid hK; clear hK
      have e4 : u 4 = .int .i64 b1.rate := hd 4 (by decide +kernel)
      refine wpOp_of rfl (by rfl) ?_
      go_simp
      exact k_of (HK.out (.int .i64 b1.rate) _ rfl hB (Below.refl _ _)) (by rw [← u1_eq e4]; kernel_rfl)
    · intro u W hB _ hd _ K hK
      have HK := Lib.hid hK; clear hK
      have e9 : u 9 = .int .i64 b2.rate := hd 9 (by decide +kernel)
      refine wpOp_of rfl (by rfl) ?_
      go_simp
      exact k_of (HK.out (.int .i64 b2.rate) _ rfl hB (Below.refl _ _)) (by rw [← u1_eq e9]; kernel_rfl)
  · intro u W hB hd
    have e10 : u 10 = .int .i64 b1.rate := hd 10 (by decide)
    have e11 : u 11 = .int .i64 b2.rate := hd 11 (by decide)
    exact k_of (HQ.out u W hB.out) (by simp only [e10, e11])

/-- What each operation leaves. -/
def rm9F (al lo hi ra rb : Int) : Nat → Value → Prop
  | 0, v => v = .int .i64 al
  | 1, v => v = .int .i64 rb
  | 2, v => v = .int .i64 lo
  | 3, v => v = .int .i64 al
  | 4, v => v = .int .i64 ra
  | 5, v => v = .int .i64 (al + ra)
  | 6, v => v = .int .i64 (al + ra - 1)
  | 7, v => v = .int .i64 ra
  | 8, v => v = .int .i64 hi
  | 9, v => v = .agg #[.int .i64 lo, .int .i64 hi]
  | 10, _ => True
  | 11, v => v = .int .i64 0
  | _, _ => True
set_option maxRecDepth 100000 in
set_option maxHeartbeats 8000000 in
theorem rm9_region {R0 N : Nat} {al lo hi ra rb : Int} {S : World → Prop} (hw1 : IntKind.i64.wrap (al.tdiv rb) = lo) (hw2 : IntKind.i64.wrap (al + ra) = al + ra) (hw3 : IntKind.i64.wrap (al + ra - 1) = al + ra - 1) (hw4 : IntKind.i64.wrap ((al + ra - 1).tdiv ra) = hi) (hz1 : ¬ ra = 0) (hz2 : ¬ rb = 0) (hon : ∀ W W', S W → Below W.heap.size W W' → S W') (hput : ∀ W W' G, S W → W.grownBy W' (some G) → (N ≤ G ∨ G = R0) → S W') (hN : ∀ W, S W → N ≤ W.heap.size) {Q : Exit → Act → World → Prop} {s0 s1 s2 s3 s4 s5 s6 s7 s10 s11 s12 s16 s17 s18 s19 s20 s21 s22 s23 s24 s25 s26 s27 s28 s29 s30 s31 s32 s33 s34 s35 s36 s37 s38 s39 s40 s41 s42 s43 s44 s45 s46 s47 s48 s49 s50 : Value} {W0 : World} (HL : Hid (S W0)) (hk0 : Blk W0 (R0) 25 #[.int .i64 0, .int .i64 0]) (hg0 : R0 < N)
    (HQ : Hid (∀ (u : Nat → Value) (W : World), S W → Blk W (R0) 25 #[.int .i64 lo, .int .i64 hi] → Q .normal ⟨#[s0, s1, s2, s3, s4, s5, s6, s7, .pointer (some ⟨R0, 0, none⟩), .int .i64 0, s10, s11, s12, .int .i64 ra, .int .i64 rb, .int .i64 al, s16, s17, s18, s19, s20, s21, s22, s23, s24, s25, s26, s27, s28, s29, s30, s31, s32, s33, s34, s35, s36, s37, s38, s39, s40, s41, s42, s43, s44, s45, s46, s47, s48, s49, s50, u 0, u 1, u 2, u 3, u 4, u 5, u 6, u 7, u 8, u 9], []⟩ W)) :
    Code.wp Try.prog ((Try.f22.body.bind (regionAt 9)).getD .skip) Q ⟨#[s0, s1, s2, s3, s4, s5, s6, s7, .pointer (some ⟨R0, 0, none⟩), .int .i64 0, s10, s11, s12, .int .i64 ra, .int .i64 rb, .int .i64 al, s16, s17, s18, s19, s20, s21, s22, s23, s24, s25, s26, s27, s28, s29, s30, s31, s32, s33, s34, s35, s36, s37, s38, s39, s40, s41, s42, s43, s44, s45, s46, s47, s48, s49, s50, undef, undef, undef, undef, undef, undef, undef, undef, undef, undef], []⟩ W0 := by
  conv => arg 2; whnf
  refine wp_region_vars (by kernel_rfl) 12 (by kernel_rfl) (fun u => ⟨#[s0, s1, s2, s3, s4, s5, s6, s7, .pointer (some ⟨R0, 0, none⟩), u 11, s10, s11, s12, .int .i64 ra, .int .i64 rb, .int .i64 al, s16, s17, s18, s19, s20, s21, s22, s23, s24, s25, s26, s27, s28, s29, s30, s31, s32, s33, s34, s35, s36, s37, s38, s39, s40, s41, s42, s43, s44, s45, s46, s47, s48, s49, s50, u 0, u 1, u 2, u 3, u 4, u 5, u 6, u 7, u 8, u 9], []⟩) (fun i => if i = 11 then .int .i64 0 else undef) (fun W => Hid (S W)) (rm9F al lo hi ra rb) (N) [⟨none, R0, 10, 25, #[.int .i64 0, .int .i64 0], #[.int .i64 lo, .int .i64 hi]⟩] [] [10] rfl rfl (by kernel_rfl) (hon _ _ HL.out (Below.refl _ _).drew) ?hV (fun W h => hN W h.out) ?hg (by decide +kernel) (fun W W' h hb => hon W W' h.out hb) ?hp ?hA ?hP (by decide) (by decide) (by decide) (by decide) (by decide) ?step ?done
  case hV =>
    refine ⟨fun q hq => ⟨fun a e hl => (by cases hl), fun G hG => ?_⟩, fun q hq r hr hne G h1 h2 => ?_⟩
    · simp only [List.mem_cons, List.not_mem_nil, or_false] at hq
      rcases hq with rfl
      · obtain ⟨rfl, -⟩ := hG; exact hk0.drew
    · simp only [List.mem_cons, List.not_mem_nil, or_false] at hq
      rcases hq with rfl
      · simp only [List.mem_cons, List.not_mem_nil, or_false] at hr
        rcases hr with rfl
        · exact absurd rfl hne
  case hg =>
    intro q hq ha
    simp only [List.mem_cons, List.not_mem_nil, or_false] at hq
    rcases hq with rfl
    · exact hg0
  case hp =>
    intro W W' G h hg hG
    refine hput W W' G h.out hg ?_
    rcases hG with h1 | ⟨q, hq, ha, h2⟩
    · exact .inl h1
    · simp only [List.mem_cons, List.not_mem_nil, or_false] at hq
      rcases hq with rfl
      · exact .inr h2
  case hA =>
    intro q hq i ha
    simp only [List.mem_cons, List.not_mem_nil, or_false] at hq
    rcases hq with rfl
    · cases ha
  case hP =>
    intro q hq u W hB hd G hG hb K hK
    have HK := Lib.hid hK; clear hK
    simp only [List.mem_cons, List.not_mem_nil, or_false] at hq
    rcases hq with rfl
    · have hGe : G = R0 := hG.1
      rw [hGe] at hb HK
      clear hG hGe
      replace hd : ∀ j ∈ waits .any _ 10, j ∉ [] → j ∉ [10] → rm9F al lo hi ra rb j (u j) := hd
      have e9 : u 9 = .agg #[.int .i64 lo, .int .i64 hi] := hd 9 (by decide +kernel) (by decide) (by decide)
      replace hb : Blk W R0 25 #[.int .i64 0, .int .i64 0] := hb
      have hb2 := ((hb).set_ 0 (.int .i64 lo)).set_ 1 (.int .i64 hi)
      simp only [List.setIfInBounds_toArray, List.set_cons_zero, List.set_cons_succ] at hb2
      have hg2 : W.grownBy _ (some (R0)) := grown_more (grown_more (World.grownBy.refl W (some R0)) 0 (.int .i64 lo)) 1 (.int .i64 hi)
      have fz0 := hb.frozen 0
      have cl0 := hb.cell 0
      have fz1 := hb.frozen 1
      have cl1 := hb.cell 1
      have gl := hb.lt
      have HB2 := Lib.hid hb2
      have HG2 := Lib.hid hg2
      clear hb2 hg2
      refine wpOp_of rfl (by rfl) ?_
      go_simp
      exact k_of (HK.out _ HB2.out HG2.out) (by rw [← u1_eq e9] <;> kernel_rfl)
  case step =>
    iterate 12 (refine all_succ ?_ ?_)
    · exact all_zero
    · intro _ _ u W hB hv hd K hK
      have HK := Lib.hid hK; clear hK
      refine wpOp_of rfl (by rfl) ?_
      go_simp
      exact k_of (HK.out (.int .i64 al) _ rfl hB (Below.refl _ _)) (by kernel_rfl)
    · intro _ _ u W hB hv hd K hK
      have HK := Lib.hid hK; clear hK
      refine wpOp_of rfl (by rfl) ?_
      go_simp
      exact k_of (HK.out (.int .i64 rb) _ rfl hB (Below.refl _ _)) (by kernel_rfl)
    · intro _ _ u W hB hv hd K hK
      have HK := Lib.hid hK; clear hK
      have e0 : u 0 = .int .i64 al := hd 0 (by decide +kernel) (by decide) (by decide)
      have e1 : u 1 = .int .i64 rb := hd 1 (by decide +kernel) (by decide) (by decide)
      refine wpOp_of rfl (by rfl) ?_
      go_simp
      exact k_of (HK.out (.int .i64 lo) _ rfl hB (Below.refl _ _)) (by rw [← u1_eq e0, ← u1_eq e1]; kernel_rfl)
    · intro _ _ u W hB hv hd K hK
      have HK := Lib.hid hK; clear hK
      refine wpOp_of rfl (by rfl) ?_
      go_simp
      exact k_of (HK.out (.int .i64 al) _ rfl hB (Below.refl _ _)) (by kernel_rfl)
    · intro _ _ u W hB hv hd K hK
      have HK := Lib.hid hK; clear hK
      refine wpOp_of rfl (by rfl) ?_
      go_simp
      exact k_of (HK.out (.int .i64 ra) _ rfl hB (Below.refl _ _)) (by kernel_rfl)
    · intro _ _ u W hB hv hd K hK
      have HK := Lib.hid hK; clear hK
      have e3 : u 3 = .int .i64 al := hd 3 (by decide +kernel) (by decide) (by decide)
      have e4 : u 4 = .int .i64 ra := hd 4 (by decide +kernel) (by decide) (by decide)
      refine wpOp_of rfl (by rfl) ?_
      go_simp
      exact k_of (HK.out (.int .i64 (al + ra)) _ rfl hB (Below.refl _ _)) (by rw [← u1_eq e3, ← u1_eq e4]; kernel_rfl)
    · intro _ _ u W hB hv hd K hK
      have HK := Lib.hid hK; clear hK
      have e5 : u 5 = .int .i64 (al + ra) := hd 5 (by decide +kernel) (by decide) (by decide)
      refine wpOp_of rfl (by rfl) ?_
      go_simp
      exact k_of (HK.out (.int .i64 (al + ra - 1)) _ rfl hB (Below.refl _ _)) (by rw [← u1_eq e5]; kernel_rfl)
    · intro _ _ u W hB hv hd K hK
      have HK := Lib.hid hK; clear hK
      refine wpOp_of rfl (by rfl) ?_
      go_simp
      exact k_of (HK.out (.int .i64 ra) _ rfl hB (Below.refl _ _)) (by kernel_rfl)
    · intro _ _ u W hB hv hd K hK
      have HK := Lib.hid hK; clear hK
      have e6 : u 6 = .int .i64 (al + ra - 1) := hd 6 (by decide +kernel) (by decide) (by decide)
      have e7 : u 7 = .int .i64 ra := hd 7 (by decide +kernel) (by decide) (by decide)
      refine wpOp_of rfl (by rfl) ?_
      go_simp
      exact k_of (HK.out (.int .i64 hi) _ rfl hB (Below.refl _ _)) (by rw [← u1_eq e6, ← u1_eq e7]; kernel_rfl)
    · intro _ _ u W hB hv hd K hK
      have HK := Lib.hid hK; clear hK
      have e2 : u 2 = .int .i64 lo := hd 2 (by decide +kernel) (by decide) (by decide)
      have e8 : u 8 = .int .i64 hi := hd 8 (by decide +kernel) (by decide) (by decide)
      refine wpOp_of rfl (by rfl) ?_
      go_simp
      exact k_of (HK.out (.agg #[.int .i64 lo, .int .i64 hi]) _ rfl hB (Below.refl _ _)) (by rw [← u1_eq e2, ← u1_eq e8]; kernel_rfl)
    · intro _ ha; exact absurd (by decide) ha
    · intro _ _ u W hB hv hd K hK
      have HK := Lib.hid hK; clear hK
      refine wpOp_of rfl (by rfl) ?_
      go_simp
      exact k_of (HK.out (.int .i64 0) _ rfl hB (Below.refl _ _)) (by kernel_rfl)
  case done =>
    intro L u W hL hB hd hV
    have hv0 := hV.ok ⟨none, R0, 10, 25, #[.int .i64 0, .int .i64 0], #[.int .i64 lo, .int .i64 hi]⟩ (by simp)
    have hB0 := hv0.2 (R0) ⟨rfl, hg0⟩
    rw [if_pos (hL 10 (by decide))] at hB0
    have e11 : u 11 = .int .i64 0 := hd 11 (by decide) (by decide) (by decide)
    exact k_of (HQ.out u W hB.out hB0) (by simp only [e11])


set_option maxRecDepth 100000 in
set_option maxHeartbeats 2000000 in
theorem rMin_err {w : World} {p : Sp} {c : Cd} {q : Int} (g : Int) (h : ShIn w p) (he : askE p.s q c ≠ 0) :
    Calls Try.prog 22 #[.agg #[.slice p.ka p.s.ks.length p.kc, .slice p.xa p.s.xs.length p.xc, .int .i64 p.s.flo, .int .i64 p.s.fhi, .int .i64 p.s.plo, .int .i64 p.s.phi], .int .i64 q, .agg #[.int .i64 c.wax, .int .i64 c.dia, .int .i64 c.dra, .int .i64 c.clo, .int .i64 c.chi], .int .i64 g] w fun e w' => e = .returned (.tuple #[.agg #[.int .i64 0, .int .i64 0], .int .i64 (askE p.s q c)]) ∧ Below w.heap.size w w' := by
  have hb0 := (((Bx.nil w).alloc #[.slice p.ka p.s.ks.length p.kc, .slice p.xa p.s.xs.length p.xc, .int .i64 p.s.flo, .int .i64 p.s.fhi, .int .i64 p.s.plo, .int .i64 p.s.phi] 27).alloc #[.int .i64 c.wax, .int .i64 c.dia, .int .i64 c.dra, .int .i64 c.clo, .int .i64 c.chi] 34).alloc #[.int .i64 0, .int .i64 0] 25
  simp only [World.size_alloc] at hb0
  have HB : Hid (Bx w _ _) := Lib.hid hb0
  have HA := Lib.hid (fun (W : World) (hb : Below w.heap.size w W) => rasked_any q c (h.on hb))
  have hz : (askE p.s q c != 0) = true := by simpa using he
  have hz2 : (askE p.s q c == 0) = false := by simpa using he
  clear h hb0 he
  generalize askE p.s q c = z at *
  go_enter Try.func22, Try.ntmps22
  go_wp2_with (first | (go_at_call 52; (with_reducible refine (HA.out _ HB.out.b).mono ?_); rintro e w1 ⟨rfl, hb⟩; have HC := Lib.hid (HB.out.on hb); clear hb; have rb : Blk _ (w.heap.size + 1 + 1) 25 #[.int .i64 0, .int .i64 0] := HC.out.get (by simp); have r0 := rb.cell 0; have r1 := rb.cell 1; have rl := rb.lt; have rf0 := rb.frozen 0; have rf1 := rb.frozen 1; clear rb) | fail)
  refine bodyPost_ret (v := .tuple #[.agg #[.int .i64 0, .int .i64 0], .int .i64 z]) ?_ rfl ⟨rfl, ?_⟩
  · simp [results, Try.results22, go_sem, *]
  · repeat (first | (with_reducible exact HC.out.b) | with_reducible refine Below.setCell ?_ (by simp; try omega) _)
set_option maxRecDepth 100000 in
set_option maxHeartbeats 2000000 in
theorem rMin_no {w : World} {p : Sp} {c : Cd} {q : Int} {g : Int} (h : ShIn w p) (hs : askE p.s q c = 0) (hg : inB g 1 100000 = false) :
    Calls Try.prog 22 #[.agg #[.slice p.ka p.s.ks.length p.kc, .slice p.xa p.s.xs.length p.xc, .int .i64 p.s.flo, .int .i64 p.s.fhi, .int .i64 p.s.plo, .int .i64 p.s.phi], .int .i64 q, .agg #[.int .i64 c.wax, .int .i64 c.dia, .int .i64 c.dra, .int .i64 c.clo, .int .i64 c.chi], .int .i64 g] w fun e w' => e = .returned (.tuple #[.agg #[.int .i64 0, .int .i64 0], .int .i64 7]) ∧ Below w.heap.size w w' := by
  have hb0 := (((Bx.nil w).alloc #[.slice p.ka p.s.ks.length p.kc, .slice p.xa p.s.xs.length p.xc, .int .i64 p.s.flo, .int .i64 p.s.fhi, .int .i64 p.s.plo, .int .i64 p.s.phi] 27).alloc #[.int .i64 c.wax, .int .i64 c.dia, .int .i64 c.dra, .int .i64 c.clo, .int .i64 c.chi] 34).alloc #[.int .i64 0, .int .i64 0] 25
  simp only [World.size_alloc] at hb0
  have HB : Hid (Bx w _ _) := Lib.hid hb0
  have HA := Lib.hid (fun (W : World) (hb : Below w.heap.size w W) => rasked_any q c (h.on hb))
  rw [hs] at HA
  clear h hb0 hs
  go_enter Try.func22, Try.ntmps22
  go_wp2_with (first | (go_at_call 52; (with_reducible refine (HA.out _ HB.out.b).mono ?_); rintro e w1 ⟨rfl, hb⟩; have HC := Lib.hid (HB.out.on hb); clear hb; have rb : Blk _ (w.heap.size + 1 + 1) 25 #[.int .i64 0, .int .i64 0] := HC.out.get (by simp); have r0 := rb.cell 0; have r1 := rb.cell 1; have rl := rb.lt; have rf0 := rb.frozen 0; have rf1 := rb.frozen 1; clear rb) | (go_at_call 45; (with_reducible refine (rin3_any _ _ _ _).mono ?_); rintro e w' ⟨rfl, rfl⟩) | fail)
  refine bodyPost_ret (v := .tuple #[.agg #[.int .i64 0, .int .i64 0], .int .i64 7]) ?_ rfl ⟨rfl, ?_⟩
  · simp [results, Try.results22, go_sem, *]
  · repeat (first | (with_reducible exact HC.out.b) | with_reducible refine Below.setCell ?_ (by simp; try omega) _)
set_option maxRecDepth 100000 in
set_option maxHeartbeats 4000000 in
theorem rMin_yes {w : World} {p : Sp} {c : Cd} {q : Int} {k : Wk} {x : Wx} {g : Int} (h : ShIn w p) (ha : Ask p.s q c k x) (hs : askE p.s q c = 0) (hg : inB g 1 100000 = true) :
    Calls Try.prog 22 #[.agg #[.slice p.ka p.s.ks.length p.kc, .slice p.xa p.s.xs.length p.xc, .int .i64 p.s.flo, .int .i64 p.s.fhi, .int .i64 p.s.plo, .int .i64 p.s.phi], .int .i64 q, .agg #[.int .i64 c.wax, .int .i64 c.dia, .int .i64 c.dra, .int .i64 c.clo, .int .i64 c.chi], .int .i64 g] w fun e w' => e = .returned (.tuple #[.agg #[.int .i64 (minV g (burn x (weakT k x c)) (burn x (strongT k x c))).1, .int .i64 (minV g (burn x (weakT k x c)) (burn x (strongT k x c))).2], .int .i64 0]) ∧ Below w.heap.size w w' := by
  have hb0 := (((Bx.nil w).alloc #[.slice p.ka p.s.ks.length p.kc, .slice p.xa p.s.xs.length p.xc, .int .i64 p.s.flo, .int .i64 p.s.fhi, .int .i64 p.s.plo, .int .i64 p.s.phi] 27).alloc #[.int .i64 c.wax, .int .i64 c.dia, .int .i64 c.dra, .int .i64 c.clo, .int .i64 c.chi] 34).alloc #[.int .i64 0, .int .i64 0] 25
  simp only [World.size_alloc] at hb0
  have HB : Hid (Bx w _ _) := Lib.hid hb0
  have HA := Lib.hid (fun (W : World) (hb : Below w.heap.size w W) => rasked_any q c (h.on hb))
  rw [hs] at HA
  have HT := Lib.hid (fun (W : World) (hb : Below w.heap.size w W) => rends_any (h.on hb) ha.h0 ha.hk ha.cd.wax.1 ha.hx ha.cd.dra)
  have HU1 := Lib.hid (fun (W : World) (hb : Below w.heap.size w W) => rburns_any (h.on hb) ha.sh.nk.1 ha.cd.wax.1 ha.hx ha.xo ((weak_ok ha.ko ha.xo ha.cd).in_ ha.ko ha.xo ha.cd))
  have HU2 := Lib.hid (fun (W : World) (hb : Below w.heap.size w W) => rburns_any (h.on hb) ha.sh.nk.1 ha.cd.wax.1 ha.hx ha.xo ((strong_ok ha.ko ha.xo ha.cd).in_ ha.ko ha.xo ha.cd))
  have i1 := (burn_in ((weak_ok ha.ko ha.xo ha.cd).in_ ha.ko ha.xo ha.cd) ha.xo).rate
  have i2 := (burn_in ((strong_ok ha.ko ha.xo ha.cd).in_ ha.ko ha.xo ha.cd) ha.xo).rate
  have HIN := hg
  rw [inB_iff] at hg
  clear h hb0 ha hs
  generalize burn x (weakT k x c) = b1 at *
  generalize burn x (strongT k x c) = b2 at *
  generalize weakT k x c = lo' at *
  generalize strongT k x c = hi' at *
  have m0 : IntKind.i64.wrap (600 * g) = 600 * g := IntWalk.i64_in _ (by omega)
  have m3 : 0 ≤ 600000000 * g / b2.rate ∧ 600000000 * g / b2.rate ≤ 60000000000000 := ⟨Int.ediv_nonneg (by omega) (by omega), Int.le_trans (Int.ediv_le_self _ (by omega)) (by omega)⟩
  have m4 : 0 ≤ (600000000 * g + b1.rate - 1) / b1.rate ∧ (600000000 * g + b1.rate - 1) / b1.rate ≤ 70000000000000 := ⟨Int.ediv_nonneg (by omega) (by omega), Int.le_trans (Int.ediv_le_self _ (by omega)) (by omega)⟩
  have w1' : IntKind.i64.wrap ((600000000 * g).tdiv b2.rate) = (minV g b1 b2).1 := by rw [Int.tdiv_eq_ediv_of_nonneg (by omega)]; exact IntWalk.i64_in _ (by omega)
  have w2' : IntKind.i64.wrap (600000000 * g + b1.rate) = 600000000 * g + b1.rate := IntWalk.i64_in _ (by omega)
  have w3' : IntKind.i64.wrap (600000000 * g + b1.rate - 1) = 600000000 * g + b1.rate - 1 := IntWalk.i64_in _ (by omega)
  have w4' : IntKind.i64.wrap ((600000000 * g + b1.rate - 1).tdiv b1.rate) = (minV g b1 b2).2 := by rw [Int.tdiv_eq_ediv_of_nonneg (by omega)]; exact IntWalk.i64_in _ (by omega)
  have m5 : IntKind.i64.wrap (600 * g * 1000000) = 600000000 * g := by rw [show 600 * g * 1000000 = 600000000 * g by omega]; exact IntWalk.i64_in _ (by omega)
  have HW := Lib.hid (And.intro w1' (And.intro w2' (And.intro w3' w4')))
  have HNZ : Hid (¬ b1.rate = 0 ∧ ¬ b2.rate = 0) := ⟨by omega, by omega⟩
  clear m3 m4 w1' w2' w3' w4' i1 i2 hg
  generalize (minV g b1 b2).1 = lo at *
  generalize (minV g b1 b2).2 = hi at *
  generalize 600000000 * g = al at *
  go_enter Try.func22, Try.ntmps22
  go_wp2_with (first
    | (go_at_call 52; (with_reducible refine (HA.out _ HB.out.b).mono ?_); rintro e w1 ⟨rfl, hb⟩; have HC := Lib.hid (HB.out.on hb); clear hb; have sb : Blk _ (w.heap.size) 27 #[.slice p.ka p.s.ks.length p.kc, .slice p.xa p.s.xs.length p.xc, .int .i64 p.s.flo, .int .i64 p.s.fhi, .int .i64 p.s.plo, .int .i64 p.s.phi] := HC.out.get (by simp); have s0 := sb.cell 0; have s1 := sb.cell 1; have s2 := sb.cell 2; have s3 := sb.cell 3; have s4 := sb.cell 4; have s5 := sb.cell 5; have sl := sb.lt; clear sb; have cb : Blk _ (w.heap.size + 1) 34 #[.int .i64 c.wax, .int .i64 c.dia, .int .i64 c.dra, .int .i64 c.clo, .int .i64 c.chi] := HC.out.get (by simp); have c0 := cb.cell 0; have c1 := cb.cell 1; have c2 := cb.cell 2; have c3 := cb.cell 3; have c4 := cb.cell 4; have cl := cb.lt; clear cb)
    | (go_at_call 45; (with_reducible refine (rin3_any _ _ _ _).mono ?_); rintro e w' ⟨rfl, rfl⟩)
    | (go_at_call 38; (with_reducible refine (HT.out _ HC.out.b).mono ?_); rintro e w2 ⟨rfl, hb⟩; have HD := Lib.hid (HC.out.on hb); clear hb s0 s1 s2 s3 s4 s5 sl c0 c1 c2 c3 c4 cl)
    | fail)
  have hd0 := (HD.out.alloc #[.int .i64 lo'.pull, .int .i64 lo'.flow, .int .i64 lo'.rise, .int .i64 lo'.spr, .int .i64 lo'.dra, .int .i64 lo'.cold] 36).alloc #[.int .i64 hi'.pull, .int .i64 hi'.flow, .int .i64 hi'.rise, .int .i64 hi'.spr, .int .i64 hi'.dra, .int .i64 hi'.cold] 36
  simp only [World.size_alloc] at hd0
  have HE := Lib.hid hd0
  have HN : Hid (w.heap.size + 3 ≤ w2.heap.size) := by have hz : Blk w2 (w.heap.size + 1 + 1) 25 #[.int .i64 0, .int .i64 0] := HD.out.get (by simp); have := hz.lt; exact Lib.hid (by omega)
  clear hd0
  refine wp_of_eq (rm7_region (S := Bx w [(w2.heap.size + 1, 36, #[.int .i64 hi'.pull, .int .i64 hi'.flow, .int .i64 hi'.rise, .int .i64 hi'.spr, .int .i64 hi'.dra, .int .i64 hi'.cold]), (w2.heap.size, 36, #[.int .i64 lo'.pull, .int .i64 lo'.flow, .int .i64 lo'.rise, .int .i64 lo'.spr, .int .i64 lo'.dra, .int .i64 lo'.cold]), (w.heap.size + 1 + 1, 25, #[.int .i64 0, .int .i64 0]), (w.heap.size + 1, 34, #[.int .i64 c.wax, .int .i64 c.dia, .int .i64 c.dra, .int .i64 c.clo, .int .i64 c.chi]), (w.heap.size, 27, #[.slice p.ka p.s.ks.length p.kc, .slice p.xa p.s.xs.length p.xc, .int .i64 p.s.flo, .int .i64 p.s.fhi, .int .i64 p.s.plo, .int .i64 p.s.phi])]) (fun W W' h hb => h.on hb) (P := w.heap.size) (C := w.heap.size + 1) (T1 := w2.heap.size) (T2 := w2.heap.size + 1) (p := p) (c := c) (tl := lo') (th := hi') (b1 := b1) (b2 := b2) (fun W h => h.get (by simp)) (fun W h => h.get (by simp)) (fun W h => h.get (by simp)) (fun W h => h.get (by simp)) (Lib.hid fun W h => HU1.out W h.b) (Lib.hid fun W h => HU2.out W h.b) HE (Lib.hid fun u W h => ?_)) (by kernel_rfl)
  have HG := Lib.hid h
  clear h
  go_wp2_with fail
  refine wp_of_eq (rm9_region (S := SB w (w.heap.size + 3)) (N := w.heap.size + 3) (R0 := w.heap.size + 1 + 1) (al := al) (lo := lo) (hi := hi) (ra := b1.rate) (rb := b2.rate) HW.out.1 HW.out.2.1 HW.out.2.2.1 HW.out.2.2.2 HNZ.out.1 HNZ.out.2 (fun _ _ h hb => h.on hb) (fun W W' G h hg hG => h.put hg (by omega)) (fun W h => h.n) (Lib.hid ⟨HG.out.b, by have hz : Blk W (w.heap.size + 1 + 1) 25 #[.int .i64 0, .int .i64 0] := HG.out.get (by simp); have := hz.lt; omega⟩) (HG.out.get (by simp)) (by omega) (Lib.hid fun u W2 hS hR => ?_)) (by kernel_rfl)
  have hF := Lib.hid hS.b
  have a0 := hR.cell 0; have a1 := hR.cell 1
  clear hS hR
  go_wp2_with fail
  refine bodyPost_ret (v := .tuple #[.agg #[.int .i64 lo, .int .i64 hi], .int .i64 0]) ?_ rfl ⟨rfl, hF.out⟩
  simp [results, Try.results22, go_sem, a0, a1]
end Go.Proofs.Ytkjfommdeljefaa
