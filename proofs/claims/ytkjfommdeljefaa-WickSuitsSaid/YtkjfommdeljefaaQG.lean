/- wick.found: contract. -/
import Derived.Test.YtkjfommdeljefaaGc
namespace Go.Proofs.Ytkjfommdeljefaa
open Go.RowKit Go.Shelf Go.Maps
attribute [local go_sem] Oper.semAt_some

/-- What each operation leaves. -/
def fd1R (N _P : Nat) (p : Sp) (c : Cd) : Nat → Value → World → Prop
  | 0, v, _ => v = .agg #[.slice p.ka p.s.ks.length p.kc, .slice p.xa p.s.xs.length p.xc, .int .i64 p.s.flo, .int .i64 p.s.fhi, .int .i64 p.s.plo, .int .i64 p.s.phi, .int .i64 c.wax, .int .i64 c.dia, .int .i64 c.dra, .int .i64 c.clo, .int .i64 c.chi]
  | 1, v, W => ∃ Q_1, v = .agg #[.int .i64 1, .func (.func 100) #[] #[.pointer (some ⟨Q_1, 0, none⟩)]] ∧ Blk W Q_1 93 #[.slice p.ka p.s.ks.length p.kc, .slice p.xa p.s.xs.length p.xc, .int .i64 p.s.flo, .int .i64 p.s.fhi, .int .i64 p.s.plo, .int .i64 p.s.phi, .int .i64 c.wax, .int .i64 c.dia, .int .i64 c.dra, .int .i64 c.clo, .int .i64 c.chi]
  | 2, v, _ => v = .agg #[.slice p.ka p.s.ks.length p.kc, .slice p.xa p.s.xs.length p.xc, .int .i64 p.s.flo, .int .i64 p.s.fhi, .int .i64 p.s.plo, .int .i64 p.s.phi, .int .i64 c.wax, .int .i64 c.dia, .int .i64 c.dra, .int .i64 c.clo, .int .i64 c.chi]
  | 3, v, W => ∃ Q_3, v = .agg #[.int .i64 2, .func (.func 101) #[] #[.pointer (some ⟨Q_3, 0, none⟩)]] ∧ Blk W Q_3 93 #[.slice p.ka p.s.ks.length p.kc, .slice p.xa p.s.xs.length p.xc, .int .i64 p.s.flo, .int .i64 p.s.fhi, .int .i64 p.s.plo, .int .i64 p.s.phi, .int .i64 c.wax, .int .i64 c.dia, .int .i64 c.dra, .int .i64 c.clo, .int .i64 c.chi]
  | 4, v, _ => v = .agg #[.slice p.ka p.s.ks.length p.kc, .slice p.xa p.s.xs.length p.xc, .int .i64 p.s.flo, .int .i64 p.s.fhi, .int .i64 p.s.plo, .int .i64 p.s.phi, .int .i64 c.wax, .int .i64 c.dia, .int .i64 c.dra, .int .i64 c.clo, .int .i64 c.chi]
  | 5, v, W => ∃ Q_5, v = .agg #[.int .i64 3, .func (.func 102) #[] #[.pointer (some ⟨Q_5, 0, none⟩)]] ∧ Blk W Q_5 93 #[.slice p.ka p.s.ks.length p.kc, .slice p.xa p.s.xs.length p.xc, .int .i64 p.s.flo, .int .i64 p.s.fhi, .int .i64 p.s.plo, .int .i64 p.s.phi, .int .i64 c.wax, .int .i64 c.dia, .int .i64 c.dra, .int .i64 c.clo, .int .i64 c.chi]
  | 6, v, _ => v = .agg #[.slice p.ka p.s.ks.length p.kc, .slice p.xa p.s.xs.length p.xc, .int .i64 p.s.flo, .int .i64 p.s.fhi, .int .i64 p.s.plo, .int .i64 p.s.phi, .int .i64 c.wax, .int .i64 c.dia, .int .i64 c.dra, .int .i64 c.clo, .int .i64 c.chi]
  | 7, v, W => ∃ Q_7, v = .agg #[.int .i64 4, .func (.func 104) #[] #[.pointer (some ⟨Q_7, 0, none⟩)]] ∧ Blk W Q_7 93 #[.slice p.ka p.s.ks.length p.kc, .slice p.xa p.s.xs.length p.xc, .int .i64 p.s.flo, .int .i64 p.s.fhi, .int .i64 p.s.plo, .int .i64 p.s.phi, .int .i64 c.wax, .int .i64 c.dia, .int .i64 c.dra, .int .i64 c.clo, .int .i64 c.chi]
  | 8, v, W => ∃ b_8 Q1_8 Q2_8 Q3_8 Q4_8, v = .slice (some ⟨b_8, 0, none⟩) 4 4 ∧ Blk W b_8 105 #[.int .i64 1, .func (.func 100) #[] #[.pointer (some ⟨Q1_8, 0, none⟩)], .int .i64 2, .func (.func 101) #[] #[.pointer (some ⟨Q2_8, 0, none⟩)], .int .i64 3, .func (.func 102) #[] #[.pointer (some ⟨Q3_8, 0, none⟩)], .int .i64 4, .func (.func 104) #[] #[.pointer (some ⟨Q4_8, 0, none⟩)]] ∧ Blk W Q1_8 93 #[.slice p.ka p.s.ks.length p.kc, .slice p.xa p.s.xs.length p.xc, .int .i64 p.s.flo, .int .i64 p.s.fhi, .int .i64 p.s.plo, .int .i64 p.s.phi, .int .i64 c.wax, .int .i64 c.dia, .int .i64 c.dra, .int .i64 c.clo, .int .i64 c.chi] ∧ Blk W Q2_8 93 #[.slice p.ka p.s.ks.length p.kc, .slice p.xa p.s.xs.length p.xc, .int .i64 p.s.flo, .int .i64 p.s.fhi, .int .i64 p.s.plo, .int .i64 p.s.phi, .int .i64 c.wax, .int .i64 c.dia, .int .i64 c.dra, .int .i64 c.clo, .int .i64 c.chi] ∧ Blk W Q3_8 93 #[.slice p.ka p.s.ks.length p.kc, .slice p.xa p.s.xs.length p.xc, .int .i64 p.s.flo, .int .i64 p.s.fhi, .int .i64 p.s.plo, .int .i64 p.s.phi, .int .i64 c.wax, .int .i64 c.dia, .int .i64 c.dra, .int .i64 c.clo, .int .i64 c.chi] ∧ Blk W Q4_8 93 #[.slice p.ka p.s.ks.length p.kc, .slice p.xa p.s.xs.length p.xc, .int .i64 p.s.flo, .int .i64 p.s.fhi, .int .i64 p.s.plo, .int .i64 p.s.phi, .int .i64 c.wax, .int .i64 c.dia, .int .i64 c.dra, .int .i64 c.clo, .int .i64 c.chi] ∧ N ≤ b_8
  | 9, v, W => ∃ b_8 Q1_8 Q2_8 Q3_8 Q4_8, v = .slice (some ⟨b_8, 0, none⟩) 4 4 ∧ Blk W b_8 105 #[.int .i64 1, .func (.func 100) #[] #[.pointer (some ⟨Q1_8, 0, none⟩)], .int .i64 2, .func (.func 101) #[] #[.pointer (some ⟨Q2_8, 0, none⟩)], .int .i64 3, .func (.func 102) #[] #[.pointer (some ⟨Q3_8, 0, none⟩)], .int .i64 4, .func (.func 104) #[] #[.pointer (some ⟨Q4_8, 0, none⟩)]] ∧ Blk W Q1_8 93 #[.slice p.ka p.s.ks.length p.kc, .slice p.xa p.s.xs.length p.xc, .int .i64 p.s.flo, .int .i64 p.s.fhi, .int .i64 p.s.plo, .int .i64 p.s.phi, .int .i64 c.wax, .int .i64 c.dia, .int .i64 c.dra, .int .i64 c.clo, .int .i64 c.chi] ∧ Blk W Q2_8 93 #[.slice p.ka p.s.ks.length p.kc, .slice p.xa p.s.xs.length p.xc, .int .i64 p.s.flo, .int .i64 p.s.fhi, .int .i64 p.s.plo, .int .i64 p.s.phi, .int .i64 c.wax, .int .i64 c.dia, .int .i64 c.dra, .int .i64 c.clo, .int .i64 c.chi] ∧ Blk W Q3_8 93 #[.slice p.ka p.s.ks.length p.kc, .slice p.xa p.s.xs.length p.xc, .int .i64 p.s.flo, .int .i64 p.s.fhi, .int .i64 p.s.plo, .int .i64 p.s.phi, .int .i64 c.wax, .int .i64 c.dia, .int .i64 c.dra, .int .i64 c.clo, .int .i64 c.chi] ∧ Blk W Q4_8 93 #[.slice p.ka p.s.ks.length p.kc, .slice p.xa p.s.xs.length p.xc, .int .i64 p.s.flo, .int .i64 p.s.fhi, .int .i64 p.s.plo, .int .i64 p.s.phi, .int .i64 c.wax, .int .i64 c.dia, .int .i64 c.dra, .int .i64 c.clo, .int .i64 c.chi] ∧ N ≤ b_8
  | _, _, _ => True
theorem fd1R_on (N P : Nat) (p : Sp) (c : Cd) : ∀ i, i < 10 → ∀ v W W', fd1R N P p c i v W → Below W.heap.size W W' → fd1R N P p c i v W' := by
  iterate 10 (refine all_succ ?_ ?_)
  · exact all_zero
  · exact fun _ _ _ h _ => h
  · rintro v W W' ⟨Q_1, e, h0⟩ hb; exact ⟨Q_1, e, h0.on hb⟩
  · exact fun _ _ _ h _ => h
  · rintro v W W' ⟨Q_3, e, h0⟩ hb; exact ⟨Q_3, e, h0.on hb⟩
  · exact fun _ _ _ h _ => h
  · rintro v W W' ⟨Q_5, e, h0⟩ hb; exact ⟨Q_5, e, h0.on hb⟩
  · exact fun _ _ _ h _ => h
  · rintro v W W' ⟨Q_7, e, h0⟩ hb; exact ⟨Q_7, e, h0.on hb⟩
  · rintro v W W' ⟨b_8, Q1_8, Q2_8, Q3_8, Q4_8, e, h0, h1, h2, h3, h4, h5⟩ hb; exact ⟨b_8, Q1_8, Q2_8, Q3_8, Q4_8, e, h0.on hb, h1.on hb, h2.on hb, h3.on hb, h4.on hb, h5⟩
  · rintro v W W' ⟨b_8, Q1_8, Q2_8, Q3_8, Q4_8, e, h0, h1, h2, h3, h4, h5⟩ hb; exact ⟨b_8, Q1_8, Q2_8, Q3_8, Q4_8, e, h0.on hb, h1.on hb, h2.on hb, h3.on hb, h4.on hb, h5⟩
set_option maxRecDepth 100000 in
set_option maxHeartbeats 8000000 in
theorem fd1_region {S : World → Prop} (hon : ∀ W W', S W → Below W.heap.size W W' → S W') {N P : Nat} {p : Sp} {c : Cd} (hN : ∀ W, S W → N ≤ W.heap.size) (hP : ∀ W, S W → Blk W P 93 #[.slice p.ka p.s.ks.length p.kc, .slice p.xa p.s.xs.length p.xc, .int .i64 p.s.flo, .int .i64 p.s.fhi, .int .i64 p.s.plo, .int .i64 p.s.phi, .int .i64 c.wax, .int .i64 c.dia, .int .i64 c.dra, .int .i64 c.clo, .int .i64 c.chi]) {Q : Exit → Act → World → Prop} {s0 s1 s3 s15 s16 s17 : Value} {W0 : World} (HL : Hid (S W0))
    (HQ : Hid (∀ (u : Nat → Value) (b_9 : Nat) (Q1_9 : Nat) (Q2_9 : Nat) (Q3_9 : Nat) (Q4_9 : Nat) (W : World), Blk W b_9 105 #[.int .i64 1, .func (.func 100) #[] #[.pointer (some ⟨Q1_9, 0, none⟩)], .int .i64 2, .func (.func 101) #[] #[.pointer (some ⟨Q2_9, 0, none⟩)], .int .i64 3, .func (.func 102) #[] #[.pointer (some ⟨Q3_9, 0, none⟩)], .int .i64 4, .func (.func 104) #[] #[.pointer (some ⟨Q4_9, 0, none⟩)]] → Blk W Q1_9 93 #[.slice p.ka p.s.ks.length p.kc, .slice p.xa p.s.xs.length p.xc, .int .i64 p.s.flo, .int .i64 p.s.fhi, .int .i64 p.s.plo, .int .i64 p.s.phi, .int .i64 c.wax, .int .i64 c.dia, .int .i64 c.dra, .int .i64 c.clo, .int .i64 c.chi] → Blk W Q2_9 93 #[.slice p.ka p.s.ks.length p.kc, .slice p.xa p.s.xs.length p.xc, .int .i64 p.s.flo, .int .i64 p.s.fhi, .int .i64 p.s.plo, .int .i64 p.s.phi, .int .i64 c.wax, .int .i64 c.dia, .int .i64 c.dra, .int .i64 c.clo, .int .i64 c.chi] → Blk W Q3_9 93 #[.slice p.ka p.s.ks.length p.kc, .slice p.xa p.s.xs.length p.xc, .int .i64 p.s.flo, .int .i64 p.s.fhi, .int .i64 p.s.plo, .int .i64 p.s.phi, .int .i64 c.wax, .int .i64 c.dia, .int .i64 c.dra, .int .i64 c.clo, .int .i64 c.chi] → Blk W Q4_9 93 #[.slice p.ka p.s.ks.length p.kc, .slice p.xa p.s.xs.length p.xc, .int .i64 p.s.flo, .int .i64 p.s.fhi, .int .i64 p.s.plo, .int .i64 p.s.phi, .int .i64 c.wax, .int .i64 c.dia, .int .i64 c.dra, .int .i64 c.clo, .int .i64 c.chi] → N ≤ b_9 → S W → Q .normal ⟨#[s0, s1, .pointer (some ⟨P, 0, none⟩), s3, .slice none 0 0, .slice (some ⟨b_9, 0, none⟩) 4 4, u 0, u 1, u 2, u 3, u 4, u 5, u 6, u 7, u 8, s15, s16, s17], []⟩ W)) :
    Code.wp Try.prog ((Try.f57.body.bind (regionAt 1)).getD .skip) Q ⟨#[s0, s1, .pointer (some ⟨P, 0, none⟩), s3, .slice none 0 0, undef, undef, undef, undef, undef, undef, undef, undef, undef, undef, s15, s16, s17], []⟩ W0 := by
  conv => arg 2; whnf
  refine wp_region_spec (by kernel_rfl) 10 (by kernel_rfl) (fun u => ⟨#[s0, s1, .pointer (some ⟨P, 0, none⟩), s3, .slice none 0 0, u 9, u 0, u 1, u 2, u 3, u 4, u 5, u 6, u 7, u 8, s15, s16, s17], []⟩) (fun i => undef) (fun W => Hid (S W)) (fd1R N P p c) (by kernel_rfl) (hon _ _ HL.out (Below.refl _ _).drew) (fun i v W W2 hi h hb => fd1R_on N P p c i hi v W W2 h hb) (by decide +kernel) ?_ ?_
  · iterate 10 (refine all_succ ?_ ?_)
    · exact all_zero
    · intro u W hB _ hd _ K hK
      have HK := Lib.hid hK; clear hK
      refine wpOp_of rfl (by rfl) ?_
      have z0 := (hP W hB.out).cell 0; have z1 := (hP W hB.out).cell 1; have z2 := (hP W hB.out).cell 2; have z3 := (hP W hB.out).cell 3; have z4 := (hP W hB.out).cell 4; have z5 := (hP W hB.out).cell 5; have z6 := (hP W hB.out).cell 6; have z7 := (hP W hB.out).cell 7; have z8 := (hP W hB.out).cell 8; have z9 := (hP W hB.out).cell 9; have z10 := (hP W hB.out).cell 10
      go_simp
      exact k_of (HK.out (.agg #[.slice p.ka p.s.ks.length p.kc, .slice p.xa p.s.xs.length p.xc, .int .i64 p.s.flo, .int .i64 p.s.fhi, .int .i64 p.s.plo, .int .i64 p.s.phi, .int .i64 c.wax, .int .i64 c.dia, .int .i64 c.dra, .int .i64 c.clo, .int .i64 c.chi]) _ rfl hB (Below.refl _ _)) (by kernel_rfl)
    · intro u W hB _ hd _ K hK
      have HK := Lib.hid hK; clear hK
      have e0 : u 0 = .agg #[.slice p.ka p.s.ks.length p.kc, .slice p.xa p.s.xs.length p.xc, .int .i64 p.s.flo, .int .i64 p.s.fhi, .int .i64 p.s.plo, .int .i64 p.s.phi, .int .i64 c.wax, .int .i64 c.dia, .int .i64 c.dra, .int .i64 c.clo, .int .i64 c.chi] := hd 0 (by decide +kernel)
      refine wpOp_of rfl (by rfl) ?_
      go_simp
      refine (mk1_any W p c).mono ?_
      rintro e w' ⟨Q, rfl, hq, hb⟩
      exact k_of (HK.out (.agg #[.int .i64 1, .func (.func 100) #[] #[.pointer (some ⟨Q, 0, none⟩)]]) _ ⟨Q, rfl, hq⟩ (hon _ _ hB.out hb) hb) (by rw [← u1_eq e0]; kernel_rfl)
    · intro u W hB _ hd _ K hK
      have HK := Lib.hid hK; clear hK
      refine wpOp_of rfl (by rfl) ?_
      have z0 := (hP W hB.out).cell 0; have z1 := (hP W hB.out).cell 1; have z2 := (hP W hB.out).cell 2; have z3 := (hP W hB.out).cell 3; have z4 := (hP W hB.out).cell 4; have z5 := (hP W hB.out).cell 5; have z6 := (hP W hB.out).cell 6; have z7 := (hP W hB.out).cell 7; have z8 := (hP W hB.out).cell 8; have z9 := (hP W hB.out).cell 9; have z10 := (hP W hB.out).cell 10
      go_simp
      exact k_of (HK.out (.agg #[.slice p.ka p.s.ks.length p.kc, .slice p.xa p.s.xs.length p.xc, .int .i64 p.s.flo, .int .i64 p.s.fhi, .int .i64 p.s.plo, .int .i64 p.s.phi, .int .i64 c.wax, .int .i64 c.dia, .int .i64 c.dra, .int .i64 c.clo, .int .i64 c.chi]) _ rfl hB (Below.refl _ _)) (by kernel_rfl)
    · intro u W hB _ hd _ K hK
      have HK := Lib.hid hK; clear hK
      have e2 : u 2 = .agg #[.slice p.ka p.s.ks.length p.kc, .slice p.xa p.s.xs.length p.xc, .int .i64 p.s.flo, .int .i64 p.s.fhi, .int .i64 p.s.plo, .int .i64 p.s.phi, .int .i64 c.wax, .int .i64 c.dia, .int .i64 c.dra, .int .i64 c.clo, .int .i64 c.chi] := hd 2 (by decide +kernel)
      refine wpOp_of rfl (by rfl) ?_
      go_simp
      refine (mk2_any W p c).mono ?_
      rintro e w' ⟨Q, rfl, hq, hb⟩
      exact k_of (HK.out (.agg #[.int .i64 2, .func (.func 101) #[] #[.pointer (some ⟨Q, 0, none⟩)]]) _ ⟨Q, rfl, hq⟩ (hon _ _ hB.out hb) hb) (by rw [← u1_eq e2]; kernel_rfl)
    · intro u W hB _ hd _ K hK
      have HK := Lib.hid hK; clear hK
      refine wpOp_of rfl (by rfl) ?_
      have z0 := (hP W hB.out).cell 0; have z1 := (hP W hB.out).cell 1; have z2 := (hP W hB.out).cell 2; have z3 := (hP W hB.out).cell 3; have z4 := (hP W hB.out).cell 4; have z5 := (hP W hB.out).cell 5; have z6 := (hP W hB.out).cell 6; have z7 := (hP W hB.out).cell 7; have z8 := (hP W hB.out).cell 8; have z9 := (hP W hB.out).cell 9; have z10 := (hP W hB.out).cell 10
      go_simp
      exact k_of (HK.out (.agg #[.slice p.ka p.s.ks.length p.kc, .slice p.xa p.s.xs.length p.xc, .int .i64 p.s.flo, .int .i64 p.s.fhi, .int .i64 p.s.plo, .int .i64 p.s.phi, .int .i64 c.wax, .int .i64 c.dia, .int .i64 c.dra, .int .i64 c.clo, .int .i64 c.chi]) _ rfl hB (Below.refl _ _)) (by kernel_rfl)
    · intro u W hB _ hd _ K hK
      have HK := Lib.hid hK; clear hK
      have e4 : u 4 = .agg #[.slice p.ka p.s.ks.length p.kc, .slice p.xa p.s.xs.length p.xc, .int .i64 p.s.flo, .int .i64 p.s.fhi, .int .i64 p.s.plo, .int .i64 p.s.phi, .int .i64 c.wax, .int .i64 c.dia, .int .i64 c.dra, .int .i64 c.clo, .int .i64 c.chi] := hd 4 (by decide +kernel)
      refine wpOp_of rfl (by rfl) ?_
      go_simp
      refine (mk3_any W p c).mono ?_
      rintro e w' ⟨Q, rfl, hq, hb⟩
      exact k_of (HK.out (.agg #[.int .i64 3, .func (.func 102) #[] #[.pointer (some ⟨Q, 0, none⟩)]]) _ ⟨Q, rfl, hq⟩ (hon _ _ hB.out hb) hb) (by rw [← u1_eq e4]; kernel_rfl)
    · intro u W hB _ hd _ K hK
      have HK := Lib.hid hK; clear hK
      refine wpOp_of rfl (by rfl) ?_
      have z0 := (hP W hB.out).cell 0; have z1 := (hP W hB.out).cell 1; have z2 := (hP W hB.out).cell 2; have z3 := (hP W hB.out).cell 3; have z4 := (hP W hB.out).cell 4; have z5 := (hP W hB.out).cell 5; have z6 := (hP W hB.out).cell 6; have z7 := (hP W hB.out).cell 7; have z8 := (hP W hB.out).cell 8; have z9 := (hP W hB.out).cell 9; have z10 := (hP W hB.out).cell 10
      go_simp
      exact k_of (HK.out (.agg #[.slice p.ka p.s.ks.length p.kc, .slice p.xa p.s.xs.length p.xc, .int .i64 p.s.flo, .int .i64 p.s.fhi, .int .i64 p.s.plo, .int .i64 p.s.phi, .int .i64 c.wax, .int .i64 c.dia, .int .i64 c.dra, .int .i64 c.clo, .int .i64 c.chi]) _ rfl hB (Below.refl _ _)) (by kernel_rfl)
    · intro u W hB _ hd _ K hK
      have HK := Lib.hid hK; clear hK
      have e6 : u 6 = .agg #[.slice p.ka p.s.ks.length p.kc, .slice p.xa p.s.xs.length p.xc, .int .i64 p.s.flo, .int .i64 p.s.fhi, .int .i64 p.s.plo, .int .i64 p.s.phi, .int .i64 c.wax, .int .i64 c.dia, .int .i64 c.dra, .int .i64 c.clo, .int .i64 c.chi] := hd 6 (by decide +kernel)
      refine wpOp_of rfl (by rfl) ?_
      go_simp
      refine (mk4_any W p c).mono ?_
      rintro e w' ⟨Q, rfl, hq, hb⟩
      exact k_of (HK.out (.agg #[.int .i64 4, .func (.func 104) #[] #[.pointer (some ⟨Q, 0, none⟩)]]) _ ⟨Q, rfl, hq⟩ (hon _ _ hB.out hb) hb) (by rw [← u1_eq e6]; kernel_rfl)
    · intro u W hB _ hd _ K hK
      have HK := Lib.hid hK; clear hK
      obtain ⟨Q_1, e1, f1_0⟩ : fd1R N P p c 1 (u 1) W := hd 1 (by decide +kernel)
      obtain ⟨Q_3, e3, f3_0⟩ : fd1R N P p c 3 (u 3) W := hd 3 (by decide +kernel)
      obtain ⟨Q_5, e5, f5_0⟩ : fd1R N P p c 5 (u 5) W := hd 5 (by decide +kernel)
      obtain ⟨Q_7, e7, f7_0⟩ : fd1R N P p c 7 (u 7) W := hd 7 (by decide +kernel)
      refine wpOp_of rfl (by rfl) ?_
      have hnn := hN _ hB.out
      go_simp
      exact k_of (HK.out (.slice (some ⟨W.heap.size, 0, none⟩) 4 4) _ ⟨_, Q_1, Q_3, Q_5, Q_7, rfl, Blk.new _ _ _, f1_0.alloc _, f3_0.alloc _, f5_0.alloc _, f7_0.alloc _, hnn⟩ (hon _ _ hB.out ((Below.refl _ W).alloc (Nat.le_refl _) _)) ((Below.refl _ W).alloc (Nat.le_refl _) _)) (by rw [← u1_eq e1, ← u1_eq e3, ← u1_eq e5, ← u1_eq e7]; kernel_rfl)
    · intro u W hB _ hd _ K hK
      have HK := Lib.hid hK; clear hK
      obtain ⟨b_8, Q1_8, Q2_8, Q3_8, Q4_8, e8, f8_0, f8_1, f8_2, f8_3, f8_4, f8_5⟩ : fd1R N P p c 8 (u 8) W := hd 8 (by decide +kernel)
      refine wpOp_of rfl (by rfl) ?_
      go_simp
      exact k_of (HK.out (.slice (some ⟨b_8, 0, none⟩) 4 4) _ ⟨b_8, Q1_8, Q2_8, Q3_8, Q4_8, rfl, f8_0, f8_1, f8_2, f8_3, f8_4, f8_5⟩ hB (Below.refl _ _)) (by rw [← u1_eq e8]; kernel_rfl)
  · intro u W hB hd
    obtain ⟨b_9, Q1_9, Q2_9, Q3_9, Q4_9, e9, f9_0, f9_1, f9_2, f9_3, f9_4, f9_5⟩ : fd1R N P p c 9 (u 9) W := hd 9 (by decide)
    exact k_of (HQ.out u b_9 Q1_9 Q2_9 Q3_9 Q4_9 W f9_0 f9_1 f9_2 f9_3 f9_4 f9_5 hB.out) (by simp only [e9])


theorem blk_ne {W : World} {g g' : Nat} {T T' : TypeId} {cs cs' : Array Value} (h : Blk W g T cs) (h' : Blk W g' T' cs') (hT : T ≠ T') : g ≠ g' := fun e => by
  subst e
  unfold Blk at h h'
  rw [h] at h'
  cases h'
  exact hT rfl
/-- What can be wrong with a candle with a wick. -/
def faultsL (s : Sh) (k : Wk) (x : Wx) (c : Cd) : List Int := ([1, 2, 3, 4] : List Int).filter fun n => canF s n k x c c.dia
/-- The faults that a call hands back. -/
def FndOut (w : World) (L : List Int) (e : Ending) (w' : World) : Prop :=
  ∃ (b : Nat) (l : List (Int × Nat)), e = .returned (.slice (some ⟨b, 0, none⟩) l.length 4) ∧ l.map Prod.fst = L ∧ l.length ≤ 4 ∧ b < w'.heap.size ∧ (∀ i (x : Int × Nat), l[i]? = some x → w'.cell? ⟨b, i * 2, none⟩ = some (.int .i64 x.1) ∧ w'.cell? ⟨b, i * 2 + 1, none⟩ = some (fvx x)) ∧ Below w.heap.size w w'
theorem kept_map (g : Int → Bool) (a b c d : Nat) : (keptF (fun n => !g n) [(1, a), (2, b), (3, c), (4, d)]).map Prod.fst = ([1, 2, 3, 4] : List Int).filter fun n => g n := by
  unfold keptF
  cases h1 : g 1 <;> cases h2 : g 2 <;> cases h3 : g 3 <;> cases h4 : g 4 <;> simp [List.filter, h1, h2, h3, h4]
set_option maxRecDepth 100000 in
set_option maxHeartbeats 2000000 in
theorem found_any {w : World} {p : Sp} {c : Cd} {q : Int} {k : Wk} {x : Wx} (h : ShIn w p) (ha : Ask p.s q c k x) :
    Calls Try.prog 57 #[.agg #[.slice p.ka p.s.ks.length p.kc, .slice p.xa p.s.xs.length p.xc, .int .i64 p.s.flo, .int .i64 p.s.fhi, .int .i64 p.s.plo, .int .i64 p.s.phi, .int .i64 c.wax, .int .i64 c.dia, .int .i64 c.dra, .int .i64 c.clo, .int .i64 c.chi], .int .i64 q] w (FndOut w (faultsL p.s k x c)) := by
  have hb0 := ((Bx.nil w).alloc #[.slice p.ka p.s.ks.length p.kc, .slice p.xa p.s.xs.length p.xc, .int .i64 p.s.flo, .int .i64 p.s.fhi, .int .i64 p.s.plo, .int .i64 p.s.phi, .int .i64 c.wax, .int .i64 c.dia, .int .i64 c.dra, .int .i64 c.clo, .int .i64 c.chi] 93).alloc #[.int .i64 q] 3
  simp only [World.size_alloc] at hb0
  have HB : Hid (Bx w _ _) := Lib.hid hb0
  have HH := Lib.hid h
  have HA := Lib.hid ha
  clear h hb0 ha
  go_enter Try.func57, Try.ntmps57
  go_wp2_with fail
  refine wp_of_eq (fd1_region (S := Bx w [(w.heap.size + 1, 3, #[.int .i64 q]), (w.heap.size, 93, #[.slice p.ka p.s.ks.length p.kc, .slice p.xa p.s.xs.length p.xc, .int .i64 p.s.flo, .int .i64 p.s.fhi, .int .i64 p.s.plo, .int .i64 p.s.phi, .int .i64 c.wax, .int .i64 c.dia, .int .i64 c.dra, .int .i64 c.clo, .int .i64 c.chi])]) (fun _ _ h hb => h.on hb) (N := w.heap.size + 2) (P := w.heap.size) (p := p) (c := c) (fun W h => (h.at_ _ List.mem_cons_self).2.lt) (fun W h => h.get (by simp)) HB (Lib.hid fun u b Q1 Q2 Q3 Q4 W hb h1 h2 h3 h4 hn hS => ?_)) (by kernel_rfl)
  have hb' : Blk W b 105 (flist [(1, Q1), (2, Q2), (3, Q3), (4, Q4)]).toArray := hb
  have hV : Blk W w.heap.size 93 #[.slice p.ka p.s.ks.length p.kc, .slice p.xa p.s.xs.length p.xc, .int .i64 p.s.flo, .int .i64 p.s.fhi, .int .i64 p.s.plo, .int .i64 p.s.phi, .int .i64 c.wax, .int .i64 c.dia, .int .i64 c.dra, .int .i64 c.clo, .int .i64 c.chi] := hS.get (by simp)
  have hI : Blk W (w.heap.size + 1) 3 #[.int .i64 q] := hS.get (by simp)
  have hK : Prd b (fun W => (Blk W w.heap.size 93 #[.slice p.ka p.s.ks.length p.kc, .slice p.xa p.s.xs.length p.xc, .int .i64 p.s.flo, .int .i64 p.s.fhi, .int .i64 p.s.plo, .int .i64 p.s.phi, .int .i64 c.wax, .int .i64 c.dia, .int .i64 c.dra, .int .i64 c.clo, .int .i64 c.chi] ∧ Blk W (w.heap.size + 1) 3 #[.int .i64 q] ∧ Blk W Q1 93 #[.slice p.ka p.s.ks.length p.kc, .slice p.xa p.s.xs.length p.xc, .int .i64 p.s.flo, .int .i64 p.s.fhi, .int .i64 p.s.plo, .int .i64 p.s.phi, .int .i64 c.wax, .int .i64 c.dia, .int .i64 c.dra, .int .i64 c.clo, .int .i64 c.chi] ∧ Blk W Q2 93 #[.slice p.ka p.s.ks.length p.kc, .slice p.xa p.s.xs.length p.xc, .int .i64 p.s.flo, .int .i64 p.s.fhi, .int .i64 p.s.plo, .int .i64 p.s.phi, .int .i64 c.wax, .int .i64 c.dia, .int .i64 c.dra, .int .i64 c.clo, .int .i64 c.chi] ∧ Blk W Q3 93 #[.slice p.ka p.s.ks.length p.kc, .slice p.xa p.s.xs.length p.xc, .int .i64 p.s.flo, .int .i64 p.s.fhi, .int .i64 p.s.plo, .int .i64 p.s.phi, .int .i64 c.wax, .int .i64 c.dia, .int .i64 c.dra, .int .i64 c.clo, .int .i64 c.chi] ∧ Blk W Q4 93 #[.slice p.ka p.s.ks.length p.kc, .slice p.xa p.s.xs.length p.xc, .int .i64 p.s.flo, .int .i64 p.s.fhi, .int .i64 p.s.plo, .int .i64 p.s.phi, .int .i64 c.wax, .int .i64 c.dia, .int .i64 c.dra, .int .i64 c.clo, .int .i64 c.chi]) ∧ Below w.heap.size w W) [(1, Q1), (2, Q2), (3, Q3), (4, Q4)] (fun n => !canF p.s n k x c c.dia) w.heap.size (w.heap.size + 1) := by
    refine ⟨fun W W' h hb => ⟨⟨h.1.1.on hb, h.1.2.1.on hb, h.1.2.2.1.on hb, h.1.2.2.2.1.on hb, h.1.2.2.2.2.1.on hb, h.1.2.2.2.2.2.on hb⟩, h.2.trans (hb.mono h.2.size)⟩, fun W1 W2 h hg => ?_, fun y hy W1 h => ?_⟩
    · exact ⟨⟨h.1.1.grown_ hg (by omega), h.1.2.1.grown_ hg (by omega), h.1.2.2.1.grown_ hg (blk_ne h1 hb' (by decide)), h.1.2.2.2.1.grown_ hg (blk_ne h2 hb' (by decide)), h.1.2.2.2.2.1.grown_ hg (blk_ne h3 hb' (by decide)), h.1.2.2.2.2.2.grown_ hg (blk_ne h4 hb' (by decide))⟩, h.2.grown hg h.2.size (fun k e => by cases e; omega)⟩
    · simp only [List.mem_cons, List.not_mem_nil, or_false] at hy
      rcases hy with rfl | rfl | rfl | rfl
      · exact found1_any (n := 1) (P := Q1) (by simp) (HH.out.on h.2) HA.out h.1.1 h.1.2.1 h.1.2.2.1
      · exact found1_any (n := 2) (P := Q2) (by simp) (HH.out.on h.2) HA.out h.1.1 h.1.2.1 h.1.2.2.2.1
      · exact found1_any (n := 3) (P := Q3) (by simp) (HH.out.on h.2) HA.out h.1.1 h.1.2.1 h.1.2.2.2.2.1
      · exact found1_any (n := 4) (P := Q4) (by simp) (HH.out.on h.2) HA.out h.1.1 h.1.2.1 h.1.2.2.2.2.2
  have HD := Lib.hid (del_any hK ⟨⟨hV, hI, h1, h2, h3, h4⟩, hS.b⟩ hb' (by simp))
  unfold DelOut at HD
  simp only [List.length_cons, List.length_nil, Nat.zero_add, Nat.reduceAdd] at HD
  have HM := Lib.hid (kept_map (fun n => canF p.s n k x c c.dia) Q1 Q2 Q3 Q4)
  have HL : Hid ((keptF (fun n => !canF p.s n k x c c.dia) [(1, Q1), (2, Q2), (3, Q3), (4, Q4)]).length ≤ 4) := List.length_filter_le _ _
  clear hb hb' hV hI hK h1 h2 h3 h4 hn hS HA HH HB
  generalize keptF (fun n => !canF p.s n k x c c.dia) [(1, Q1), (2, Q2), (3, Q3), (4, Q4)] = l at *
  go_wp2_with (refine HD.out.mono ?_; rintro e w1 ⟨rfl, hk, hl, hc⟩; have HF : Hid (FndOut w (faultsL p.s k x c) (.returned (.slice (some ⟨b, 0, none⟩) l.length 4)) w1) := ⟨b, l, rfl, HM.out, HL.out, hl, hc, hk.2⟩; clear hk hl hc)
  go_ret
  exact HF.out
end Go.Proofs.Ytkjfommdeljefaa
