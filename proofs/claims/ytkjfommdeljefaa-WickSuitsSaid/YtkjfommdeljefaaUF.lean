/- ref03.Listed: its region that draws, its contract. -/
import Derived.Test.YtkjfommdeljefaaTA
import Derived.Test.YtkjfommdeljefaaTK
import Derived.Test.YtkjfommdeljefaaT1
import Derived.Test.YtkjfommdeljefaaT4
namespace Go.Proofs.Ytkjfommdeljefaa
open Go.RowKit Go.Shelf Go.Maps
attribute [local go_sem] Oper.semAt_some

/-- What each operation leaves. -/
def rl2R (_P _C _T1 _T2 : Nat) (p : Sp) (c : Cd) (tl th : Tu) (b1 b2 : Bn) (wp wm : List Int) : Nat → Value → World → Prop
  | 0, v, _ => v = .agg #[.slice p.ka p.s.ks.length p.kc, .slice p.xa p.s.xs.length p.xc, .int .i64 p.s.flo, .int .i64 p.s.fhi, .int .i64 p.s.plo, .int .i64 p.s.phi]
  | 1, v, _ => v = .agg #[.int .i64 c.wax, .int .i64 c.dia, .int .i64 c.dra, .int .i64 c.clo, .int .i64 c.chi]
  | 2, v, _ => v = .agg #[.slice p.ka p.s.ks.length p.kc, .slice p.xa p.s.xs.length p.xc, .int .i64 p.s.flo, .int .i64 p.s.fhi, .int .i64 p.s.plo, .int .i64 p.s.phi]
  | 3, v, _ => v = .agg #[.int .i64 c.wax, .int .i64 c.dia, .int .i64 c.dra, .int .i64 c.clo, .int .i64 c.chi]
  | 4, v, _ => v = .agg #[.int .i64 tl.pull, .int .i64 tl.flow, .int .i64 tl.rise, .int .i64 tl.spr, .int .i64 tl.dra, .int .i64 tl.cold]
  | 5, v, _ => v = .agg #[.int .i64 b1.rate, .int .i64 b1.flame, .int .i64 b1.pool]
  | 6, v, W => ∃ A1_6 c1_6, v = .slice A1_6 wp.length c1_6 ∧ IntsIn W A1_6 wp
  | 7, v, _ => v = .agg #[.slice p.ka p.s.ks.length p.kc, .slice p.xa p.s.xs.length p.xc, .int .i64 p.s.flo, .int .i64 p.s.fhi, .int .i64 p.s.plo, .int .i64 p.s.phi]
  | 8, v, _ => v = .agg #[.int .i64 c.wax, .int .i64 c.dia, .int .i64 c.dra, .int .i64 c.clo, .int .i64 c.chi]
  | 9, v, _ => v = .agg #[.slice p.ka p.s.ks.length p.kc, .slice p.xa p.s.xs.length p.xc, .int .i64 p.s.flo, .int .i64 p.s.fhi, .int .i64 p.s.plo, .int .i64 p.s.phi]
  | 10, v, _ => v = .agg #[.int .i64 c.wax, .int .i64 c.dia, .int .i64 c.dra, .int .i64 c.clo, .int .i64 c.chi]
  | 11, v, _ => v = .agg #[.int .i64 th.pull, .int .i64 th.flow, .int .i64 th.rise, .int .i64 th.spr, .int .i64 th.dra, .int .i64 th.cold]
  | 12, v, _ => v = .agg #[.int .i64 b2.rate, .int .i64 b2.flame, .int .i64 b2.pool]
  | 13, v, W => ∃ A1_13 c1_13, v = .slice A1_13 wm.length c1_13 ∧ IntsIn W A1_13 wm
  | 14, v, W => ∃ A1_6 c1_6, v = .slice A1_6 wp.length c1_6 ∧ IntsIn W A1_6 wp
  | 15, v, W => ∃ A1_13 c1_13, v = .slice A1_13 wm.length c1_13 ∧ IntsIn W A1_13 wm
  | _, _, _ => True
theorem rl2R_on (P C T1 T2 : Nat) (p : Sp) (c : Cd) (tl th : Tu) (b1 b2 : Bn) (wp wm : List Int) : ∀ i, i < 16 → ∀ v W W', rl2R P C T1 T2 p c tl th b1 b2 wp wm i v W → Below W.heap.size W W' → rl2R P C T1 T2 p c tl th b1 b2 wp wm i v W' := by
  iterate 16 (refine all_succ ?_ ?_)
  · exact all_zero
  · exact fun _ _ _ h _ => h
  · exact fun _ _ _ h _ => h
  · exact fun _ _ _ h _ => h
  · exact fun _ _ _ h _ => h
  · exact fun _ _ _ h _ => h
  · exact fun _ _ _ h _ => h
  · rintro v W W' ⟨A1_6, c1_6, e, h0⟩ hb; exact ⟨A1_6, c1_6, e, h0.on hb⟩
  · exact fun _ _ _ h _ => h
  · exact fun _ _ _ h _ => h
  · exact fun _ _ _ h _ => h
  · exact fun _ _ _ h _ => h
  · exact fun _ _ _ h _ => h
  · exact fun _ _ _ h _ => h
  · rintro v W W' ⟨A1_13, c1_13, e, h0⟩ hb; exact ⟨A1_13, c1_13, e, h0.on hb⟩
  · rintro v W W' ⟨A1_6, c1_6, e, h0⟩ hb; exact ⟨A1_6, c1_6, e, h0.on hb⟩
  · rintro v W W' ⟨A1_13, c1_13, e, h0⟩ hb; exact ⟨A1_13, c1_13, e, h0.on hb⟩
set_option maxRecDepth 100000 in
set_option maxHeartbeats 8000000 in
theorem rl2_region {S : World → Prop} (hon : ∀ W W', S W → Below W.heap.size W W' → S W') {P C T1 T2 : Nat} {p : Sp} {c : Cd} {tl th : Tu} {b1 b2 : Bn} {wp wm : List Int} (hP : ∀ W, S W → Blk W P 27 #[.slice p.ka p.s.ks.length p.kc, .slice p.xa p.s.xs.length p.xc, .int .i64 p.s.flo, .int .i64 p.s.fhi, .int .i64 p.s.plo, .int .i64 p.s.phi]) (hC : ∀ W, S W → Blk W C 34 #[.int .i64 c.wax, .int .i64 c.dia, .int .i64 c.dra, .int .i64 c.clo, .int .i64 c.chi]) (h1 : ∀ W, S W → Blk W T1 36 #[.int .i64 tl.pull, .int .i64 tl.flow, .int .i64 tl.rise, .int .i64 tl.spr, .int .i64 tl.dra, .int .i64 tl.cold]) (h2 : ∀ W, S W → Blk W T2 36 #[.int .i64 th.pull, .int .i64 th.flow, .int .i64 th.rise, .int .i64 th.spr, .int .i64 th.dra, .int .i64 th.cold]) (H1 : Hid (∀ W, S W → Calls Try.prog 54 #[.agg #[.slice p.ka p.s.ks.length p.kc, .slice p.xa p.s.xs.length p.xc, .int .i64 p.s.flo, .int .i64 p.s.fhi, .int .i64 p.s.plo, .int .i64 p.s.phi], .agg #[.int .i64 c.wax, .int .i64 c.dia, .int .i64 c.dra, .int .i64 c.clo, .int .i64 c.chi], .agg #[.int .i64 tl.pull, .int .i64 tl.flow, .int .i64 tl.rise, .int .i64 tl.spr, .int .i64 tl.dra, .int .i64 tl.cold]] W fun e w' => e = .returned (.agg #[.int .i64 b1.rate, .int .i64 b1.flame, .int .i64 b1.pool]) ∧ Below W.heap.size W w')) (H2 : Hid (∀ W, S W → Calls Try.prog 54 #[.agg #[.slice p.ka p.s.ks.length p.kc, .slice p.xa p.s.xs.length p.xc, .int .i64 p.s.flo, .int .i64 p.s.fhi, .int .i64 p.s.plo, .int .i64 p.s.phi], .agg #[.int .i64 c.wax, .int .i64 c.dia, .int .i64 c.dra, .int .i64 c.clo, .int .i64 c.chi], .agg #[.int .i64 th.pull, .int .i64 th.flow, .int .i64 th.rise, .int .i64 th.spr, .int .i64 th.dra, .int .i64 th.cold]] W fun e w' => e = .returned (.agg #[.int .i64 b2.rate, .int .i64 b2.flame, .int .i64 b2.pool]) ∧ Below W.heap.size W w')) (HW1 : Hid (∀ W, S W → Calls Try.prog 40 #[.agg #[.slice p.ka p.s.ks.length p.kc, .slice p.xa p.s.xs.length p.xc, .int .i64 p.s.flo, .int .i64 p.s.fhi, .int .i64 p.s.plo, .int .i64 p.s.phi], .agg #[.int .i64 c.wax, .int .i64 c.dia, .int .i64 c.dra, .int .i64 c.clo, .int .i64 c.chi], .agg #[.int .i64 b1.rate, .int .i64 b1.flame, .int .i64 b1.pool]] W fun e w' => ∃ A1 c1, e = .returned (.slice A1 wp.length c1) ∧ IntsIn w' A1 wp ∧ Below W.heap.size W w')) (HW2 : Hid (∀ W, S W → Calls Try.prog 40 #[.agg #[.slice p.ka p.s.ks.length p.kc, .slice p.xa p.s.xs.length p.xc, .int .i64 p.s.flo, .int .i64 p.s.fhi, .int .i64 p.s.plo, .int .i64 p.s.phi], .agg #[.int .i64 c.wax, .int .i64 c.dia, .int .i64 c.dra, .int .i64 c.clo, .int .i64 c.chi], .agg #[.int .i64 b2.rate, .int .i64 b2.flame, .int .i64 b2.pool]] W fun e w' => ∃ A1 c1, e = .returned (.slice A1 wm.length c1) ∧ IntsIn w' A1 wm ∧ Below W.heap.size W w'))  {Q : Exit → Act → World → Prop} {s0 s1 s2 s4 s6 s11 s12 s13 s14 s15 s16 s17 s18 s19 s34 s35 s36 s37 s38 s39 s40 s41 s42 s43 s44 s45 s46 s47 s48 s49 s50 : Value} {W0 : World} (HL : Hid (S W0))
    (HQ : Hid (∀ (u : Nat → Value) (A1_14 : Option Addr) (c1_14 : Nat) (A1_15 : Option Addr) (c1_15 : Nat) (W : World), IntsIn W A1_14 wp → IntsIn W A1_15 wm → S W → Q .normal ⟨#[s0, s1, s2, .pointer (some ⟨P, 0, none⟩), s4, .pointer (some ⟨C, 0, none⟩), s6, .pointer (some ⟨T1, 0, none⟩), .pointer (some ⟨T2, 0, none⟩), .slice A1_14 wp.length c1_14, .slice A1_15 wm.length c1_15, s11, s12, s13, s14, s15, s16, s17, s18, s19, u 0, u 1, u 2, u 3, u 4, u 5, u 6, u 7, u 8, u 9, u 10, u 11, u 12, u 13, s34, s35, s36, s37, s38, s39, s40, s41, s42, s43, s44, s45, s46, s47, s48, s49, s50], []⟩ W)) :
    Code.wp Try.prog ((Try.f58.body.bind (regionAt 2)).getD .skip) Q ⟨#[s0, s1, s2, .pointer (some ⟨P, 0, none⟩), s4, .pointer (some ⟨C, 0, none⟩), s6, .pointer (some ⟨T1, 0, none⟩), .pointer (some ⟨T2, 0, none⟩), undef, undef, s11, s12, s13, s14, s15, s16, s17, s18, s19, undef, undef, undef, undef, undef, undef, undef, undef, undef, undef, undef, undef, undef, undef, s34, s35, s36, s37, s38, s39, s40, s41, s42, s43, s44, s45, s46, s47, s48, s49, s50], []⟩ W0 := by
  conv => arg 2; whnf
  refine wp_region_spec (by kernel_rfl) 16 (by kernel_rfl) (fun u => ⟨#[s0, s1, s2, .pointer (some ⟨P, 0, none⟩), s4, .pointer (some ⟨C, 0, none⟩), s6, .pointer (some ⟨T1, 0, none⟩), .pointer (some ⟨T2, 0, none⟩), u 14, u 15, s11, s12, s13, s14, s15, s16, s17, s18, s19, u 0, u 1, u 2, u 3, u 4, u 5, u 6, u 7, u 8, u 9, u 10, u 11, u 12, u 13, s34, s35, s36, s37, s38, s39, s40, s41, s42, s43, s44, s45, s46, s47, s48, s49, s50], []⟩) (fun i => undef) (fun W => Hid (S W)) (rl2R P C T1 T2 p c tl th b1 b2 wp wm) (by kernel_rfl) (hon _ _ HL.out (Below.refl _ _).drew) (fun i v W W2 hi h hb => rl2R_on P C T1 T2 p c tl th b1 b2 wp wm i hi v W W2 h hb) (by decide +kernel) ?_ ?_
  · iterate 16 (refine all_succ ?_ ?_)
    · exact all_zero
    · intro u W hB _ hd _ K hK
      have HK := Lib.hid hK; clear hK
      refine wpOp_of rfl (by rfl) ?_
      have z0 := (hP W hB.out).cell 0; have z1 := (hP W hB.out).cell 1; have z2 := (hP W hB.out).cell 2; have z3 := (hP W hB.out).cell 3; have z4 := (hP W hB.out).cell 4; have z5 := (hP W hB.out).cell 5
      go_simp
      exact k_of (HK.out (.agg #[.slice p.ka p.s.ks.length p.kc, .slice p.xa p.s.xs.length p.xc, .int .i64 p.s.flo, .int .i64 p.s.fhi, .int .i64 p.s.plo, .int .i64 p.s.phi]) _ rfl hB (Below.refl _ _)) (by kernel_rfl)
    · intro u W hB _ hd _ K hK
      have HK := Lib.hid hK; clear hK
      refine wpOp_of rfl (by rfl) ?_
      have z0 := (hC W hB.out).cell 0; have z1 := (hC W hB.out).cell 1; have z2 := (hC W hB.out).cell 2; have z3 := (hC W hB.out).cell 3; have z4 := (hC W hB.out).cell 4
      go_simp
      exact k_of (HK.out (.agg #[.int .i64 c.wax, .int .i64 c.dia, .int .i64 c.dra, .int .i64 c.clo, .int .i64 c.chi]) _ rfl hB (Below.refl _ _)) (by kernel_rfl)
    · intro u W hB _ hd _ K hK
      have HK := Lib.hid hK; clear hK
      refine wpOp_of rfl (by rfl) ?_
      have z0 := (hP W hB.out).cell 0; have z1 := (hP W hB.out).cell 1; have z2 := (hP W hB.out).cell 2; have z3 := (hP W hB.out).cell 3; have z4 := (hP W hB.out).cell 4; have z5 := (hP W hB.out).cell 5
      go_simp
      exact k_of (HK.out (.agg #[.slice p.ka p.s.ks.length p.kc, .slice p.xa p.s.xs.length p.xc, .int .i64 p.s.flo, .int .i64 p.s.fhi, .int .i64 p.s.plo, .int .i64 p.s.phi]) _ rfl hB (Below.refl _ _)) (by kernel_rfl)
    · intro u W hB _ hd _ K hK
      have HK := Lib.hid hK; clear hK
      refine wpOp_of rfl (by rfl) ?_
      have z0 := (hC W hB.out).cell 0; have z1 := (hC W hB.out).cell 1; have z2 := (hC W hB.out).cell 2; have z3 := (hC W hB.out).cell 3; have z4 := (hC W hB.out).cell 4
      go_simp
      exact k_of (HK.out (.agg #[.int .i64 c.wax, .int .i64 c.dia, .int .i64 c.dra, .int .i64 c.clo, .int .i64 c.chi]) _ rfl hB (Below.refl _ _)) (by kernel_rfl)
    · intro u W hB _ hd _ K hK
      have HK := Lib.hid hK; clear hK
      refine wpOp_of rfl (by rfl) ?_
      have z0 := (h1 W hB.out).cell 0; have z1 := (h1 W hB.out).cell 1; have z2 := (h1 W hB.out).cell 2; have z3 := (h1 W hB.out).cell 3; have z4 := (h1 W hB.out).cell 4; have z5 := (h1 W hB.out).cell 5
      go_simp
      exact k_of (HK.out (.agg #[.int .i64 tl.pull, .int .i64 tl.flow, .int .i64 tl.rise, .int .i64 tl.spr, .int .i64 tl.dra, .int .i64 tl.cold]) _ rfl hB (Below.refl _ _)) (by kernel_rfl)
    · intro u W hB _ hd _ K hK
      have HK := Lib.hid hK; clear hK
      have e2 : u 2 = .agg #[.slice p.ka p.s.ks.length p.kc, .slice p.xa p.s.xs.length p.xc, .int .i64 p.s.flo, .int .i64 p.s.fhi, .int .i64 p.s.plo, .int .i64 p.s.phi] := hd 2 (by decide +kernel)
      have e3 : u 3 = .agg #[.int .i64 c.wax, .int .i64 c.dia, .int .i64 c.dra, .int .i64 c.clo, .int .i64 c.chi] := hd 3 (by decide +kernel)
      have e4 : u 4 = .agg #[.int .i64 tl.pull, .int .i64 tl.flow, .int .i64 tl.rise, .int .i64 tl.spr, .int .i64 tl.dra, .int .i64 tl.cold] := hd 4 (by decide +kernel)
      refine wpOp_of rfl (by rfl) ?_
      go_simp
      refine (H1.out W hB.out).mono ?_
      rintro e w' ⟨rfl, hb⟩
      exact k_of (HK.out (.agg #[.int .i64 b1.rate, .int .i64 b1.flame, .int .i64 b1.pool]) _ rfl (hon _ _ hB.out hb) hb) (by rw [← u1_eq e2, ← u1_eq e3, ← u1_eq e4]; kernel_rfl)
    · intro u W hB _ hd _ K hK
      have HK := Lib.hid hK; clear hK
      have e0 : u 0 = .agg #[.slice p.ka p.s.ks.length p.kc, .slice p.xa p.s.xs.length p.xc, .int .i64 p.s.flo, .int .i64 p.s.fhi, .int .i64 p.s.plo, .int .i64 p.s.phi] := hd 0 (by decide +kernel)
      have e1 : u 1 = .agg #[.int .i64 c.wax, .int .i64 c.dia, .int .i64 c.dra, .int .i64 c.clo, .int .i64 c.chi] := hd 1 (by decide +kernel)
      have e5 : u 5 = .agg #[.int .i64 b1.rate, .int .i64 b1.flame, .int .i64 b1.pool] := hd 5 (by decide +kernel)
      refine wpOp_of rfl (by rfl) ?_
      go_simp
      refine (HW1.out W hB.out).mono ?_
      rintro e w' ⟨A1, c1, rfl, hi, hb⟩
      exact k_of (HK.out (.slice A1 wp.length c1) _ ⟨A1, c1, rfl, hi⟩ (hon _ _ hB.out hb) hb) (by rw [← u1_eq e0, ← u1_eq e1, ← u1_eq e5]; kernel_rfl)
    · intro u W hB _ hd _ K hK
      have HK := Lib.hid hK; clear hK
      refine wpOp_of rfl (by rfl) ?_
      have z0 := (hP W hB.out).cell 0; have z1 := (hP W hB.out).cell 1; have z2 := (hP W hB.out).cell 2; have z3 := (hP W hB.out).cell 3; have z4 := (hP W hB.out).cell 4; have z5 := (hP W hB.out).cell 5
      go_simp
      exact k_of (HK.out (.agg #[.slice p.ka p.s.ks.length p.kc, .slice p.xa p.s.xs.length p.xc, .int .i64 p.s.flo, .int .i64 p.s.fhi, .int .i64 p.s.plo, .int .i64 p.s.phi]) _ rfl hB (Below.refl _ _)) (by kernel_rfl)
    · intro u W hB _ hd _ K hK
      have HK := Lib.hid hK; clear hK
      refine wpOp_of rfl (by rfl) ?_
      have z0 := (hC W hB.out).cell 0; have z1 := (hC W hB.out).cell 1; have z2 := (hC W hB.out).cell 2; have z3 := (hC W hB.out).cell 3; have z4 := (hC W hB.out).cell 4
      go_simp
      exact k_of (HK.out (.agg #[.int .i64 c.wax, .int .i64 c.dia, .int .i64 c.dra, .int .i64 c.clo, .int .i64 c.chi]) _ rfl hB (Below.refl _ _)) (by kernel_rfl)
    · intro u W hB _ hd _ K hK
      have HK := Lib.hid hK; clear hK
      refine wpOp_of rfl (by rfl) ?_
      have z0 := (hP W hB.out).cell 0; have z1 := (hP W hB.out).cell 1; have z2 := (hP W hB.out).cell 2; have z3 := (hP W hB.out).cell 3; have z4 := (hP W hB.out).cell 4; have z5 := (hP W hB.out).cell 5
      go_simp
      exact k_of (HK.out (.agg #[.slice p.ka p.s.ks.length p.kc, .slice p.xa p.s.xs.length p.xc, .int .i64 p.s.flo, .int .i64 p.s.fhi, .int .i64 p.s.plo, .int .i64 p.s.phi]) _ rfl hB (Below.refl _ _)) (by kernel_rfl)
    · intro u W hB _ hd _ K hK
      have HK := Lib.hid hK; clear hK
      refine wpOp_of rfl (by rfl) ?_
      have z0 := (hC W hB.out).cell 0; have z1 := (hC W hB.out).cell 1; have z2 := (hC W hB.out).cell 2; have z3 := (hC W hB.out).cell 3; have z4 := (hC W hB.out).cell 4
      go_simp
      exact k_of (HK.out (.agg #[.int .i64 c.wax, .int .i64 c.dia, .int .i64 c.dra, .int .i64 c.clo, .int .i64 c.chi]) _ rfl hB (Below.refl _ _)) (by kernel_rfl)
    · intro u W hB _ hd _ K hK
      have HK := Lib.hid hK; clear hK
      refine wpOp_of rfl (by rfl) ?_
      have z0 := (h2 W hB.out).cell 0; have z1 := (h2 W hB.out).cell 1; have z2 := (h2 W hB.out).cell 2; have z3 := (h2 W hB.out).cell 3; have z4 := (h2 W hB.out).cell 4; have z5 := (h2 W hB.out).cell 5
      go_simp
      exact k_of (HK.out (.agg #[.int .i64 th.pull, .int .i64 th.flow, .int .i64 th.rise, .int .i64 th.spr, .int .i64 th.dra, .int .i64 th.cold]) _ rfl hB (Below.refl _ _)) (by kernel_rfl)
    · intro u W hB _ hd _ K hK
      have HK := Lib.hid hK; clear hK
      have e9 : u 9 = .agg #[.slice p.ka p.s.ks.length p.kc, .slice p.xa p.s.xs.length p.xc, .int .i64 p.s.flo, .int .i64 p.s.fhi, .int .i64 p.s.plo, .int .i64 p.s.phi] := hd 9 (by decide +kernel)
      have e10 : u 10 = .agg #[.int .i64 c.wax, .int .i64 c.dia, .int .i64 c.dra, .int .i64 c.clo, .int .i64 c.chi] := hd 10 (by decide +kernel)
      have e11 : u 11 = .agg #[.int .i64 th.pull, .int .i64 th.flow, .int .i64 th.rise, .int .i64 th.spr, .int .i64 th.dra, .int .i64 th.cold] := hd 11 (by decide +kernel)
      refine wpOp_of rfl (by rfl) ?_
      go_simp
      refine (H2.out W hB.out).mono ?_
      rintro e w' ⟨rfl, hb⟩
      exact k_of (HK.out (.agg #[.int .i64 b2.rate, .int .i64 b2.flame, .int .i64 b2.pool]) _ rfl (hon _ _ hB.out hb) hb) (by rw [← u1_eq e9, ← u1_eq e10, ← u1_eq e11]; kernel_rfl)
    · intro u W hB _ hd _ K hK
      have HK := Lib.hid hK; clear hK
      have e7 : u 7 = .agg #[.slice p.ka p.s.ks.length p.kc, .slice p.xa p.s.xs.length p.xc, .int .i64 p.s.flo, .int .i64 p.s.fhi, .int .i64 p.s.plo, .int .i64 p.s.phi] := hd 7 (by decide +kernel)
      have e8 : u 8 = .agg #[.int .i64 c.wax, .int .i64 c.dia, .int .i64 c.dra, .int .i64 c.clo, .int .i64 c.chi] := hd 8 (by decide +kernel)
      have e12 : u 12 = .agg #[.int .i64 b2.rate, .int .i64 b2.flame, .int .i64 b2.pool] := hd 12 (by decide +kernel)
      refine wpOp_of rfl (by rfl) ?_
      go_simp
      refine (HW2.out W hB.out).mono ?_
      rintro e w' ⟨A1, c1, rfl, hi, hb⟩
      exact k_of (HK.out (.slice A1 wm.length c1) _ ⟨A1, c1, rfl, hi⟩ (hon _ _ hB.out hb) hb) (by rw [← u1_eq e7, ← u1_eq e8, ← u1_eq e12]; kernel_rfl)
    · intro u W hB _ hd _ K hK
      have HK := Lib.hid hK; clear hK
      obtain ⟨A1_6, c1_6, e6, f6_0⟩ : rl2R P C T1 T2 p c tl th b1 b2 wp wm 6 (u 6) W := hd 6 (by decide +kernel)
      refine wpOp_of rfl (by rfl) ?_
      go_simp
      exact k_of (HK.out (.slice A1_6 wp.length c1_6) _ ⟨A1_6, c1_6, rfl, f6_0⟩ hB (Below.refl _ _)) (by rw [← u1_eq e6]; kernel_rfl)
    · intro u W hB _ hd _ K hK
      have HK := Lib.hid hK; clear hK
      obtain ⟨A1_13, c1_13, e13, f13_0⟩ : rl2R P C T1 T2 p c tl th b1 b2 wp wm 13 (u 13) W := hd 13 (by decide +kernel)
      refine wpOp_of rfl (by rfl) ?_
      go_simp
      exact k_of (HK.out (.slice A1_13 wm.length c1_13) _ ⟨A1_13, c1_13, rfl, f13_0⟩ hB (Below.refl _ _)) (by rw [← u1_eq e13]; kernel_rfl)
  · intro u W hB hd
    obtain ⟨A1_14, c1_14, e14, f14_0⟩ : rl2R P C T1 T2 p c tl th b1 b2 wp wm 14 (u 14) W := hd 14 (by decide)
    obtain ⟨A1_15, c1_15, e15, f15_0⟩ : rl2R P C T1 T2 p c tl th b1 b2 wp wm 15 (u 15) W := hd 15 (by decide)
    exact k_of (HQ.out u A1_14 c1_14 A1_15 c1_15 W f14_0 f15_0 hB.out) (by simp only [e14, e15])


/-- The numbers from 1 to below n for which something is so. -/
def lisN (f : Nat → Bool) : Nat → List Int
  | 0 => []
  | n + 1 => lisN f n ++ (if 1 ≤ n ∧ f n = true then [(n : Int)] else [])
theorem lisN_len (f : Nat → Bool) : ∀ n, (lisN f n).length ≤ n
  | 0 => Nat.le_refl _
  | n + 1 => by
    have := lisN_len f n
    rw [lisN, List.length_append]
    split <;> simp <;> omega
theorem lisN_yes {f : Nat → Bool} {n : Nat} (h1 : 1 ≤ n) (h : f n = true) : lisN f n ++ [(n : Int)] = lisN f (n + 1) := by rw [lisN, if_pos ⟨h1, h⟩]
theorem lisN_no {f : Nat → Bool} {n : Nat} (h : f n = false) : lisN f (n + 1) = lisN f n := by rw [lisN, if_neg (by rw [h]; simp), List.append_nil]
theorem lisN_five (f : Nat → Bool) (g : Int → Bool) (h : ∀ n : Nat, f n = g n) : lisN f 5 = ([1, 2, 3, 4] : List Int).filter g := by
  have e : f = fun n : Nat => g n := funext h
  subst e
  simp only [lisN, List.filter_cons, List.filter_nil]
  simp
  cases g 1 <;> cases g 2 <;> cases g 3 <;> cases g 4 <;> rfl
theorem rwrong_in {w : World} {p : Sp} {c : Cd} {q : Int} {k : Wk} {x : Wx} {t : Tu} (ha : Ask p.s q c k x) (ht : TuOk k x c t) : ∀ W, Below w.heap.size w W → Calls Try.prog 40 #[.agg #[.slice p.ka p.s.ks.length p.kc, .slice p.xa p.s.xs.length p.xc, .int .i64 p.s.flo, .int .i64 p.s.fhi, .int .i64 p.s.plo, .int .i64 p.s.phi], .agg #[.int .i64 c.wax, .int .i64 c.dia, .int .i64 c.dra, .int .i64 c.clo, .int .i64 c.chi], .agg #[.int .i64 (burn x t).rate, .int .i64 (burn x t).flame, .int .i64 (burn x t).pool]] W fun e w' => ∃ A1 c1, e = .returned (.slice A1 (wrongL p.s (burn x t) c.dia).length c1) ∧ IntsIn w' A1 (wrongL p.s (burn x t) c.dia) ∧ Below W.heap.size W w' := fun W _ => by
  refine (rwrong_any ha.sh.fl ha.sh.po ha.cd.dia (burn_in (ht.in_ ha.ko ha.xo ha.cd) ha.xo)).mono ?_
  rintro e w' ⟨v, rfl, hv, hb⟩
  obtain ⟨A, g, rfl, hi⟩ := hv.in_
  exact ⟨A, g, rfl, hi, hb⟩
set_option maxRecDepth 100000 in
set_option maxHeartbeats 4000000 in
theorem rlisted_any {w : World} {p : Sp} {c : Cd} {q : Int} {k : Wk} {x : Wx} (h : ShIn w p) (ha : Ask p.s q c k x) :
    Calls Try.prog 58 #[.agg #[.slice p.ka p.s.ks.length p.kc, .slice p.xa p.s.xs.length p.xc, .int .i64 p.s.flo, .int .i64 p.s.fhi, .int .i64 p.s.plo, .int .i64 p.s.phi], .int .i64 q, .agg #[.int .i64 c.wax, .int .i64 c.dia, .int .i64 c.dra, .int .i64 c.clo, .int .i64 c.chi]] w fun e w' => ∃ v, e = .returned v ∧ IntsOut w.heap.size w' v (faultsL p.s k x c) ∧ Below w.heap.size w w' := by
  have hb0 := ((Bx.nil w).alloc #[.slice p.ka p.s.ks.length p.kc, .slice p.xa p.s.xs.length p.xc, .int .i64 p.s.flo, .int .i64 p.s.fhi, .int .i64 p.s.plo, .int .i64 p.s.phi] 27).alloc #[.int .i64 c.wax, .int .i64 c.dia, .int .i64 c.dra, .int .i64 c.clo, .int .i64 c.chi] 34
  simp only [World.size_alloc] at hb0
  have HB := Lib.hid hb0
  have HT := Lib.hid (fun (W : World) (hb : Below w.heap.size w W) => rends_any (h.on hb) ha.h0 ha.hk ha.cd.wax.1 ha.hx ha.cd.dra)
  have HU1 := Lib.hid (fun (W : World) (hb : Below w.heap.size w W) => rburns_any (h.on hb) ha.sh.nk.1 ha.cd.wax.1 ha.hx ha.xo ((weak_ok ha.ko ha.xo ha.cd).in_ ha.ko ha.xo ha.cd))
  have HU2 := Lib.hid (fun (W : World) (hb : Below w.heap.size w W) => rburns_any (h.on hb) ha.sh.nk.1 ha.cd.wax.1 ha.hx ha.xo ((strong_ok ha.ko ha.xo ha.cd).in_ ha.ko ha.xo ha.cd))
  have HV1 := Lib.hid (rwrong_in (w := w) ha (weak_ok ha.ko ha.xo ha.cd))
  have HV2 := Lib.hid (rwrong_in (w := w) ha (strong_ok ha.ko ha.xo ha.cd))
  have HF : Hid (lisN (fun n : Nat => decide ((n : Int) ∈ wrongL p.s (burn x (weakT k x c)) c.dia) || decide ((n : Int) ∈ wrongL p.s (burn x (strongT k x c)) c.dia)) 5 = faultsL p.s k x c) := Lib.hid (by
    have e : faultsL p.s k x c = ([1, 2, 3, 4] : List Int).filter (fun n => decide (n ∈ wrongL p.s (burn x (weakT k x c)) c.dia) || decide (n ∈ wrongL p.s (burn x (strongT k x c)) c.dia)) := by
      unfold faultsL
      refine List.filter_congr fun n hn => ?_
      rw [Bool.eq_iff_iff, Bool.or_eq_true, decide_eq_true_eq, decide_eq_true_eq, ← faults_mem]
      unfold faultsL
      rw [List.mem_filter]
      exact ⟨fun h => ⟨hn, h⟩, fun h => h.2⟩
    rw [e]
    exact lisN_five _ _ (fun n => rfl))
  clear h hb0 ha
  generalize faultsL p.s k x c = R at *
  generalize wrongL p.s (burn x (weakT k x c)) c.dia = wp at *
  generalize wrongL p.s (burn x (strongT k x c)) c.dia = wm at *
  generalize burn x (weakT k x c) = b1 at *
  generalize burn x (strongT k x c) = b2 at *
  generalize weakT k x c = tl at *
  generalize strongT k x c = th at *
  go_enter Try.func58, Try.ntmps58
  go_wp2_with (first
    | (go_at_call 38; (with_reducible refine (HT.out _ HB.out.b).mono ?_); rintro e w2 ⟨rfl, hb⟩; have HD := Lib.hid (HB.out.on hb); clear hb)
    | fail)
  have hd0 := (HD.out.alloc #[.int .i64 tl.pull, .int .i64 tl.flow, .int .i64 tl.rise, .int .i64 tl.spr, .int .i64 tl.dra, .int .i64 tl.cold] 36).alloc #[.int .i64 th.pull, .int .i64 th.flow, .int .i64 th.rise, .int .i64 th.spr, .int .i64 th.dra, .int .i64 th.cold] 36
  simp only [World.size_alloc] at hd0
  have HE := Lib.hid hd0
  clear hd0
  refine wp_of_eq (rl2_region (S := Bx w [(w2.heap.size + 1, 36, #[.int .i64 th.pull, .int .i64 th.flow, .int .i64 th.rise, .int .i64 th.spr, .int .i64 th.dra, .int .i64 th.cold]), (w2.heap.size, 36, #[.int .i64 tl.pull, .int .i64 tl.flow, .int .i64 tl.rise, .int .i64 tl.spr, .int .i64 tl.dra, .int .i64 tl.cold]), (w.heap.size + 1, 34, #[.int .i64 c.wax, .int .i64 c.dia, .int .i64 c.dra, .int .i64 c.clo, .int .i64 c.chi]), (w.heap.size, 27, #[.slice p.ka p.s.ks.length p.kc, .slice p.xa p.s.xs.length p.xc, .int .i64 p.s.flo, .int .i64 p.s.fhi, .int .i64 p.s.plo, .int .i64 p.s.phi])]) (fun W W' h hb => h.on hb) (P := w.heap.size) (C := w.heap.size + 1) (T1 := w2.heap.size) (T2 := w2.heap.size + 1) (p := p) (c := c) (tl := tl) (th := th) (b1 := b1) (b2 := b2) (wp := wp) (wm := wm) (fun W h => h.get (by simp)) (fun W h => h.get (by simp)) (fun W h => h.get (by simp)) (fun W h => h.get (by simp)) (Lib.hid fun W h => HU1.out W h.b) (Lib.hid fun W h => HU2.out W h.b) (Lib.hid fun W h => HV1.out W h.b) (Lib.hid fun W h => HV2.out W h.b) HE (Lib.hid fun u A1 g1 A2 g2 W3 hi1 hi2 hS => ?_)) (by kernel_rfl)
  have HI1 := Lib.hid hi1; have HI2 := Lib.hid hi2; have HS := Lib.hid hS
  clear hi1 hi2 hS HE HD
  obtain ⟨f, hf⟩ : ∃ f : Nat → Bool, f = fun n : Nat => decide ((n : Int) ∈ wp) || decide ((n : Int) ∈ wm) := ⟨_, rfl⟩
  rw [← hf] at HF
  have HFF := Lib.hid hf
  clear hf
  go_wp2_with fail
  go_loopw [11, 12] (fun v i W => ∃ n : Nat, 1 ≤ n ∧ n ≤ 5 ∧ i = .int .i64 (n : Int) ∧ Hid (IntsOut W3.heap.size W v (lisN f n)) ∧ Hid (Below W3.heap.size W3 W)) (fun _ i _ => 5 - (intOf i).toNat)
  case atStart => exact ⟨1, by omega, by omega, rfl, Lib.hid (by have := IntsOut.nil W3.heap.size W3; simpa [lisN] using this), Below.refl _ _⟩
  case round =>
    obtain ⟨n, hn1, hn5, rfl, HO, HWW⟩ := hrel
    by_cases hlt : n ≤ 4
    · have hl4 : decide ((n : Int) ≤ 4) = true := decide_eq_true (by omega)
      have hll := Nat.le_trans (lisN_len f n) hn5
      have HA1 := Lib.hid (HI1.out.on HWW.out)
      have HA2 := Lib.hid (HI2.out.on HWW.out)
      cases d1 : decide ((n : Int) ∈ wp) with
      | true =>
        have HN := Lib.hid (lisN_yes hn1 (show f n = true by rw [HFF.out]; simp [d1]))
        go_wp2_with (first
          | (go_at_call 39; (with_reducible refine (rhas_any HA1.out _).mono ?_); rintro e wz ⟨rfl, rfl⟩)
          | (at_builtin; (refine app_list rfl _ _ rfl (l := lisN f n) rfl (own_below HO.out ((Below.refl _ _).alloc (Nat.le_refl _) _)) (n : Int) rfl (Blk.newat rfl) (by omega) (by have := HWW.out.size; simp; omega) ?_); intro g cp w7 r1 r2 r3 r4; have HO7 := Lib.hid r1; have HB7 := Lib.hid ((HWW.out.alloc HWW.out.size _).trans r2); clear r1 r2 r3 r4)
          | fail)
        go_roundw
        case rel => exact ⟨n + 1, by omega, by omega, by go_num, Lib.hid (by rw [← HN.out]; exact HO7.out), HB7⟩
        case measure => simp [intOf]; omega
      | false =>
        cases d2 : decide ((n : Int) ∈ wm) with
        | true =>
          have HN := Lib.hid (lisN_yes hn1 (show f n = true by rw [HFF.out]; simp [d1, d2]))
          go_wp2_with (first
            | (go_at_call 39; (with_reducible refine (rhas_any HA1.out _).mono ?_); rintro e wz ⟨rfl, rfl⟩)
            | (go_at_call 39; (with_reducible refine (rhas_any HA2.out _).mono ?_); rintro e wz ⟨rfl, rfl⟩)
            | (at_builtin; (refine app_list rfl _ _ rfl (l := lisN f n) rfl (own_below HO.out ((Below.refl _ _).alloc (Nat.le_refl _) _)) (n : Int) rfl (Blk.newat rfl) (by omega) (by have := HWW.out.size; simp; omega) ?_); intro g cp w7 r1 r2 r3 r4; have HO7 := Lib.hid r1; have HB7 := Lib.hid ((HWW.out.alloc HWW.out.size _).trans r2); clear r1 r2 r3 r4)
            | fail)
          go_roundw
          case rel => exact ⟨n + 1, by omega, by omega, by go_num, Lib.hid (by rw [← HN.out]; exact HO7.out), HB7⟩
          case measure => simp [intOf]; omega
        | false =>
          have HN := Lib.hid (lisN_no (show f n = false by rw [HFF.out]; simp [d1, d2]))
          go_wp2_with (first
            | (go_at_call 39; (with_reducible refine (rhas_any HA1.out _).mono ?_); rintro e wz ⟨rfl, rfl⟩)
            | (go_at_call 39; (with_reducible refine (rhas_any HA2.out _).mono ?_); rintro e wz ⟨rfl, rfl⟩)
            | fail)
          go_roundw
          case rel => exact ⟨n + 1, by omega, by omega, by go_num, Lib.hid (by rw [HN.out]; exact HO.out), HWW⟩
          case measure => simp [intOf]; omega
    · have hl4 : decide ((n : Int) ≤ 4) = false := decide_eq_false (by omega)
      have hO := HO.out
      rw [show n = 5 by omega, HF.out] at hO
      have HO5 := Lib.hid (own_base hO HS.out.b.size)
      have HWV := Lib.hid (HS.out.b.trans (HWW.out.mono HS.out.b.size))
      clear hO HO
      go_wp2_with fail
      go_ret
      exact ⟨_, rfl, HO5.out, HWV.out⟩
end Go.Proofs.Ytkjfommdeljefaa
