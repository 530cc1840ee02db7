/- ref03.True: its regions. -/
import Derived.Test.YtkjfommdeljefaaT1
import Derived.Test.YtkjfommdeljefaaTK
namespace Go.Proofs.Ytkjfommdeljefaa
open Go.RowKit Go.Shelf Go.Maps
attribute [local go_sem] Oper.semAt_some

/-- What each operation leaves. -/
def rt0R (P _C T0 _Gw b o _xb _xo : Nat) (qk : Int) (p : Sp) (_c : Cd) (k : Wk) (_x : Wx) (t : Tu) : Nat → Value → World → Prop
  | 0, v, _ => v = .pointer (some ⟨T0, 0, none⟩)
  | 1, v, _ => v = .int .i64 t.pull
  | 2, v, _ => v = .pointer (some ⟨P, 0, none⟩)
  | 3, v, _ => v = .slice (some ⟨b, o, none⟩) p.s.ks.length p.kc
  | 4, v, _ => v = .int .i64 qk
  | 5, v, _ => v = .pointer (some ⟨b, o + qk.toNat * 4, none⟩)
  | 6, v, _ => v = .pointer (some ⟨b, o + qk.toNat * 4 + 2, none⟩)
  | 7, v, _ => v = .agg #[.int .i64 k.plo, .int .i64 k.phi]
  | 8, v, _ => v = .bool false
  | 9, v, _ => v = .bool false
  | 10, v, _ => v = undef
  | 11, v, _ => v = undef
  | 12, v, _ => v = undef
  | 13, v, _ => v = undef
  | 14, v, _ => v = undef
  | 15, v, _ => v = .bool false
  | 16, v, _ => v = .bool false
  | 17, v, _ => v = undef
  | 18, v, _ => v = undef
  | 19, v, _ => v = undef
  | 20, v, _ => v = undef
  | 21, v, _ => v = undef
  | 22, v, _ => v = .bool false
  | 23, v, _ => v = .bool false
  | 24, v, _ => v = undef
  | 25, v, _ => v = undef
  | 26, v, _ => v = undef
  | 27, v, _ => v = undef
  | 28, v, _ => v = undef
  | 29, v, _ => v = .bool false
  | 30, v, _ => v = .bool false
  | 31, v, _ => v = undef
  | 32, v, _ => v = undef
  | 33, v, _ => v = undef
  | 34, v, _ => v = undef
  | 35, v, _ => v = undef
  | 36, v, _ => v = undef
  | 37, v, _ => v = undef
  | 38, v, _ => v = undef
  | 39, v, _ => v = .bool false
  | 40, v, _ => v = .bool false
  | 41, v, _ => v = undef
  | 42, v, _ => v = undef
  | 43, v, _ => v = undef
  | 44, v, _ => v = undef
  | 45, v, _ => v = undef
  | 46, v, _ => v = .bool false
  | 47, v, _ => v = .bool false
  | _, _, _ => True
theorem rt0R_on (P C T0 Gw b o xb xo : Nat) (qk : Int) (p : Sp) (c : Cd) (k : Wk) (x : Wx) (t : Tu) : ∀ i, i < 48 → ∀ v W W', rt0R P C T0 Gw b o xb xo qk p c k x t i v W → Below W.heap.size W W' → rt0R P C T0 Gw b o xb xo qk p c k x t i v W' := by
  iterate 48 (refine all_succ ?_ ?_)
  · exact all_zero
  · exact fun _ _ _ h _ => h
  · exact fun _ _ _ h _ => h
  · exact fun _ _ _ h _ => h
  · exact fun _ _ _ h _ => h
  · exact fun _ _ _ h _ => h
  · exact fun _ _ _ h _ => h
  · exact fun _ _ _ h _ => h
  · exact fun _ _ _ h _ => h
  · exact fun _ _ _ h _ => h
  · exact fun _ _ _ h _ => h
  · exact fun _ _ _ h _ => h
  · exact fun _ _ _ h _ => h
  · exact fun _ _ _ h _ => h
  · exact fun _ _ _ h _ => h
  · exact fun _ _ _ h _ => h
  · exact fun _ _ _ h _ => h
  · exact fun _ _ _ h _ => h
  · exact fun _ _ _ h _ => h
  · exact fun _ _ _ h _ => h
  · exact fun _ _ _ h _ => h
  · exact fun _ _ _ h _ => h
  · exact fun _ _ _ h _ => h
  · exact fun _ _ _ h _ => h
  · exact fun _ _ _ h _ => h
  · exact fun _ _ _ h _ => h
  · exact fun _ _ _ h _ => h
  · exact fun _ _ _ h _ => h
  · exact fun _ _ _ h _ => h
  · exact fun _ _ _ h _ => h
  · exact fun _ _ _ h _ => h
  · exact fun _ _ _ h _ => h
  · exact fun _ _ _ h _ => h
  · exact fun _ _ _ h _ => h
  · exact fun _ _ _ h _ => h
  · exact fun _ _ _ h _ => h
  · exact fun _ _ _ h _ => h
  · exact fun _ _ _ h _ => h
  · exact fun _ _ _ h _ => h
  · exact fun _ _ _ h _ => h
  · exact fun _ _ _ h _ => h
  · exact fun _ _ _ h _ => h
  · exact fun _ _ _ h _ => h
  · exact fun _ _ _ h _ => h
  · exact fun _ _ _ h _ => h
  · exact fun _ _ _ h _ => h
  · exact fun _ _ _ h _ => h
  · exact fun _ _ _ h _ => h
  · exact fun _ _ _ h _ => h
set_option maxRecDepth 100000 in
set_option maxHeartbeats 8000000 in
theorem rt0_region {S : World → Prop} (hon : ∀ W W', S W → Below W.heap.size W W' → S W') {P C T0 Gw b o xb xo : Nat} {qk : Int} {p : Sp} {c : Cd} {k : Wk} {x : Wx} {t : Tu} (h0 : 0 ≤ qk) (hq : qk < p.s.ks.length) (_hwr : IntKind.i64.wrap (-c.dra) = -c.dra) (hP : ∀ W, S W → Blk W P 27 #[.slice (some ⟨b, o, none⟩) p.s.ks.length p.kc, .slice (some ⟨xb, xo, none⟩) p.s.xs.length p.xc, .int .i64 p.s.flo, .int .i64 p.s.fhi, .int .i64 p.s.plo, .int .i64 p.s.phi]) (_hC : ∀ W, S W → Blk W C 34 #[.int .i64 c.wax, .int .i64 c.dia, .int .i64 c.dra, .int .i64 c.clo, .int .i64 c.chi]) (hT : ∀ W, S W → Blk W T0 36 #[.int .i64 t.pull, .int .i64 t.flow, .int .i64 t.rise, .int .i64 t.spr, .int .i64 t.dra, .int .i64 t.cold]) (_hG : ∀ W, S W → Blk W Gw 80 #[.string x.nm, .int .i64 x.flo, .int .i64 x.fhi, .int .i64 x.rlo, .int .i64 x.rhi, .int .i64 x.slo, .int .i64 x.shi, .int .i64 x.ch]) (hk : ∀ W, S W → W.cell? ⟨b, o + qk.toNat * 4 + 2, none⟩ = some (.int .i64 k.plo) ∧ W.cell? ⟨b, o + qk.toNat * 4 + 3, none⟩ = some (.int .i64 k.phi)) (hb0 : inB t.pull k.plo k.phi = false) {Q : Exit → Act → World → Prop} {s0 s2 s3 s5 s10 s11 s12 s13 s14 s15 : Value} {W0 : World} (HL : Hid (S W0))
    (HQ : Hid (∀ (u : Nat → Value) (W : World), S W → Q .normal ⟨#[s0, .int .i64 qk, s2, s3, .pointer (some ⟨P, 0, none⟩), s5, .pointer (some ⟨C, 0, none⟩), .pointer (some ⟨T0, 0, none⟩), .bool false, .pointer (some ⟨Gw, 0, none⟩), s10, s11, s12, s13, s14, s15, u 0, u 1, u 2, u 3, u 4, u 5, u 6, u 7, u 8, u 9, u 10, u 11, u 12, u 13, u 14, u 15, u 16, u 17, u 18, u 19, u 20, u 21, u 22, u 23, u 24, u 25, u 26, u 27, u 28, u 29, u 30, u 31, u 32, u 33, u 34, u 35, u 36, u 37, u 38, u 39, u 40, u 41, u 42, u 43, u 44, u 45, u 46], []⟩ W)) :
    Code.wp Try.prog ((Try.f53.body.bind (regionAt 2)).getD .skip) Q ⟨#[s0, .int .i64 qk, s2, s3, .pointer (some ⟨P, 0, none⟩), s5, .pointer (some ⟨C, 0, none⟩), .pointer (some ⟨T0, 0, none⟩), .bool false, .pointer (some ⟨Gw, 0, none⟩), s10, s11, s12, s13, s14, s15, undef, undef, undef, undef, undef, undef, undef, undef, undef, undef, undef, undef, undef, undef, undef, undef, undef, undef, undef, undef, undef, undef, undef, undef, undef, undef, undef, undef, undef, undef, undef, undef, undef, undef, undef, undef, undef, undef, undef, undef, undef, undef, undef, undef, undef, undef, undef], []⟩ W0 := by
  conv => arg 2; whnf
  refine wp_region_spec (by kernel_rfl) 48 (by kernel_rfl) (fun u => ⟨#[s0, .int .i64 qk, s2, s3, .pointer (some ⟨P, 0, none⟩), s5, .pointer (some ⟨C, 0, none⟩), .pointer (some ⟨T0, 0, none⟩), u 47, .pointer (some ⟨Gw, 0, none⟩), s10, s11, s12, s13, s14, s15, u 0, u 1, u 2, u 3, u 4, u 5, u 6, u 7, u 8, u 9, u 10, u 11, u 12, u 13, u 14, u 15, u 16, u 17, u 18, u 19, u 20, u 21, u 22, u 23, u 24, u 25, u 26, u 27, u 28, u 29, u 30, u 31, u 32, u 33, u 34, u 35, u 36, u 37, u 38, u 39, u 40, u 41, u 42, u 43, u 44, u 45, u 46], []⟩) (fun i => if i = 47 then .bool false else undef) (fun W => Hid (S W)) (rt0R P C T0 Gw b o xb xo qk p c k x t) (by kernel_rfl) (hon _ _ HL.out (Below.refl _ _).drew) (fun i v W W2 hi h hb => rt0R_on P C T0 Gw b o xb xo qk p c k x t i hi v W W2 h hb) (by decide +kernel) ?_ ?_
  · iterate 48 (refine all_succ ?_ ?_)
    · exact all_zero
    · intro u W hB _ hd _ K hK
      have HK := Lib.hid hK; clear hK
      refine wpOp_of rfl (by rfl) ?_
      go_simp
      exact k_of (HK.out (.pointer (some ⟨T0, 0, none⟩)) _ rfl hB (Below.refl _ _)) (by kernel_rfl)
    · intro u W hB _ hd _ K hK
      have HK := Lib.hid hK; clear hK
      have e0 : u 0 = .pointer (some ⟨T0, 0, none⟩) := hd 0 (by decide +kernel)
      refine wpOp_of rfl (by rfl) ?_
      have z0 := (hT W hB.out).cell 0
      go_simp
      exact k_of (HK.out (.int .i64 t.pull) _ rfl hB (Below.refl _ _)) (by rw [← u1_eq e0]; kernel_rfl)
    · intro u W hB _ hd _ K hK
      have HK := Lib.hid hK; clear hK
      refine wpOp_of rfl (by rfl) ?_
      go_simp
      exact k_of (HK.out (.pointer (some ⟨P, 0, none⟩)) _ rfl hB (Below.refl _ _)) (by kernel_rfl)
    · intro u W hB _ hd _ K hK
      have HK := Lib.hid hK; clear hK
      have e2 : u 2 = .pointer (some ⟨P, 0, none⟩) := hd 2 (by decide +kernel)
      refine wpOp_of rfl (by rfl) ?_
      have z0 := (hP W hB.out).cell 0
      go_simp
      exact k_of (HK.out (.slice (some ⟨b, o, none⟩) p.s.ks.length p.kc) _ rfl hB (Below.refl _ _)) (by rw [← u1_eq e2]; kernel_rfl)
    · intro u W hB _ hd _ K hK
      have HK := Lib.hid hK; clear hK
      refine wpOp_of rfl (by rfl) ?_
      go_simp
      exact k_of (HK.out (.int .i64 qk) _ rfl hB (Below.refl _ _)) (by kernel_rfl)
    · intro u W hB _ hd _ K hK
      have HK := Lib.hid hK; clear hK
      have e3 : u 3 = .slice (some ⟨b, o, none⟩) p.s.ks.length p.kc := hd 3 (by decide +kernel)
      have e4 : u 4 = .int .i64 qk := hd 4 (by decide +kernel)
      refine wpOp_of rfl (by rfl) ?_
      go_simp
      exact k_of (HK.out (.pointer (some ⟨b, o + qk.toNat * 4, none⟩)) _ rfl hB (Below.refl _ _)) (by rw [← u1_eq e3, ← u1_eq e4]; kernel_rfl)
    · intro u W hB _ hd _ K hK
      have HK := Lib.hid hK; clear hK
      have e5 : u 5 = .pointer (some ⟨b, o + qk.toNat * 4, none⟩) := hd 5 (by decide +kernel)
      refine wpOp_of rfl (by rfl) ?_
      go_simp
      exact k_of (HK.out (.pointer (some ⟨b, o + qk.toNat * 4 + 2, none⟩)) _ rfl hB (Below.refl _ _)) (by rw [← u1_eq e5]; kernel_rfl)
    · intro u W hB _ hd _ K hK
      have HK := Lib.hid hK; clear hK
      have e6 : u 6 = .pointer (some ⟨b, o + qk.toNat * 4 + 2, none⟩) := hd 6 (by decide +kernel)
      refine wpOp_of rfl (by rfl) ?_
      obtain ⟨z0, z1⟩ := hk W hB.out
      go_simp
      exact k_of (HK.out (.agg #[.int .i64 k.plo, .int .i64 k.phi]) _ rfl hB (Below.refl _ _)) (by rw [← u1_eq e6]; kernel_rfl)
    · intro u W hB _ hd _ K hK
      have HK := Lib.hid hK; clear hK
      have e1 : u 1 = .int .i64 t.pull := hd 1 (by decide +kernel)
      have e7 : u 7 = .agg #[.int .i64 k.plo, .int .i64 k.phi] := hd 7 (by decide +kernel)
      refine wpOp_of rfl (by rfl) ?_
      go_simp
      refine (rat_any _ _ _ _).mono ?_; simp only [hb0]
      rintro e w' ⟨rfl, hb⟩
      exact k_of (HK.out (.bool false) _ rfl (hon _ _ hB.out hb) hb) (by rw [← u1_eq e1, ← u1_eq e7]; kernel_rfl)
    · intro u W hB _ hd _ K hK
      have HK := Lib.hid hK; clear hK
      have e8 : u 8 = .bool false := hd 8 (by decide +kernel)
      refine wpOp_of rfl (by rfl) ?_
      go_simp
      exact k_of (HK.out (.bool false) _ rfl hB (Below.refl _ _)) (by rw [← u1_eq e8]; kernel_rfl)
    · intro u W hB _ hd _ K hK
      have HK := Lib.hid hK; clear hK
      have e9 : u 9 = .bool false := hd 9 (by decide +kernel)
      refine wpOp_skip rfl (by rw [← u1_eq e9]; kernel_rfl) ?_
      exact k_of (HK.out undef _ rfl hB (Below.refl _ _)) (by rw [← u1_eq e9]; kernel_rfl)
    · intro u W hB _ hd _ K hK
      have HK := Lib.hid hK; clear hK
      have e9 : u 9 = .bool false := hd 9 (by decide +kernel)
      refine wpOp_skip rfl (by rw [← u1_eq e9]; kernel_rfl) ?_
      exact k_of (HK.out undef _ rfl hB (Below.refl _ _)) (by rw [← u1_eq e9]; kernel_rfl)
    · intro u W hB _ hd _ K hK
      have HK := Lib.hid hK; clear hK
      have e9 : u 9 = .bool false := hd 9 (by decide +kernel)
      refine wpOp_skip rfl (by rw [← u1_eq e9]; kernel_rfl) ?_
      exact k_of (HK.out undef _ rfl hB (Below.refl _ _)) (by rw [← u1_eq e9]; kernel_rfl)
    · intro u W hB _ hd _ K hK
      have HK := Lib.hid hK; clear hK
      have e9 : u 9 = .bool false := hd 9 (by decide +kernel)
      refine wpOp_skip rfl (by rw [← u1_eq e9]; kernel_rfl) ?_
      exact k_of (HK.out undef _ rfl hB (Below.refl _ _)) (by rw [← u1_eq e9]; kernel_rfl)
    · intro u W hB _ hd _ K hK
      have HK := Lib.hid hK; clear hK
      have e9 : u 9 = .bool false := hd 9 (by decide +kernel)
      refine wpOp_skip rfl (by rw [← u1_eq e9]; kernel_rfl) ?_
      exact k_of (HK.out undef _ rfl hB (Below.refl _ _)) (by rw [← u1_eq e9]; kernel_rfl)
    · intro u W hB _ hd _ K hK
      have HK := Lib.hid hK; clear hK
      have e9 : u 9 = .bool false := hd 9 (by decide +kernel)
      have e14 : u 14 = undef := hd 14 (by decide +kernel)
      refine wpOp_of rfl (by rfl) ?_
      go_simp
      exact k_of (HK.out (.bool false) _ rfl hB (Below.refl _ _)) (by rw [← u1_eq e9, ← u1_eq e14]; kernel_rfl)
    · intro u W hB _ hd _ K hK
      have HK := Lib.hid hK; clear hK
      have e15 : u 15 = .bool false := hd 15 (by decide +kernel)
      refine wpOp_of rfl (by rfl) ?_
      go_simp
      exact k_of (HK.out (.bool false) _ rfl hB (Below.refl _ _)) (by rw [← u1_eq e15]; kernel_rfl)
    · intro u W hB _ hd _ K hK
      have HK := Lib.hid hK; clear hK
      have e16 : u 16 = .bool false := hd 16 (by decide +kernel)
      refine wpOp_skip rfl (by rw [← u1_eq e16]; kernel_rfl) ?_
      exact k_of (HK.out undef _ rfl hB (Below.refl _ _)) (by rw [← u1_eq e16]; kernel_rfl)
    · intro u W hB _ hd _ K hK
      have HK := Lib.hid hK; clear hK
      have e16 : u 16 = .bool false := hd 16 (by decide +kernel)
      refine wpOp_skip rfl (by rw [← u1_eq e16]; kernel_rfl) ?_
      exact k_of (HK.out undef _ rfl hB (Below.refl _ _)) (by rw [← u1_eq e16]; kernel_rfl)
    · intro u W hB _ hd _ K hK
      have HK := Lib.hid hK; clear hK
      have e16 : u 16 = .bool false := hd 16 (by decide +kernel)
      refine wpOp_skip rfl (by rw [← u1_eq e16]; kernel_rfl) ?_
      exact k_of (HK.out undef _ rfl hB (Below.refl _ _)) (by rw [← u1_eq e16]; kernel_rfl)
    · intro u W hB _ hd _ K hK
      have HK := Lib.hid hK; clear hK
      have e16 : u 16 = .bool false := hd 16 (by decide +kernel)
      refine wpOp_skip rfl (by rw [← u1_eq e16]; kernel_rfl) ?_
      exact k_of (HK.out undef _ rfl hB (Below.refl _ _)) (by rw [← u1_eq e16]; kernel_rfl)
    · intro u W hB _ hd _ K hK
      have HK := Lib.hid hK; clear hK
      have e16 : u 16 = .bool false := hd 16 (by decide +kernel)
      refine wpOp_skip rfl (by rw [← u1_eq e16]; kernel_rfl) ?_
      exact k_of (HK.out undef _ rfl hB (Below.refl _ _)) (by rw [← u1_eq e16]; kernel_rfl)
    · intro u W hB _ hd _ K hK
      have HK := Lib.hid hK; clear hK
      have e16 : u 16 = .bool false := hd 16 (by decide +kernel)
      have e21 : u 21 = undef := hd 21 (by decide +kernel)
      refine wpOp_of rfl (by rfl) ?_
      go_simp
      exact k_of (HK.out (.bool false) _ rfl hB (Below.refl _ _)) (by rw [← u1_eq e16, ← u1_eq e21]; kernel_rfl)
    · intro u W hB _ hd _ K hK
      have HK := Lib.hid hK; clear hK
      have e22 : u 22 = .bool false := hd 22 (by decide +kernel)
      refine wpOp_of rfl (by rfl) ?_
      go_simp
      exact k_of (HK.out (.bool false) _ rfl hB (Below.refl _ _)) (by rw [← u1_eq e22]; kernel_rfl)
    · intro u W hB _ hd _ K hK
      have HK := Lib.hid hK; clear hK
      have e23 : u 23 = .bool false := hd 23 (by decide +kernel)
      refine wpOp_skip rfl (by rw [← u1_eq e23]; kernel_rfl) ?_
      exact k_of (HK.out undef _ rfl hB (Below.refl _ _)) (by rw [← u1_eq e23]; kernel_rfl)
    · intro u W hB _ hd _ K hK
      have HK := Lib.hid hK; clear hK
      have e23 : u 23 = .bool false := hd 23 (by decide +kernel)
      refine wpOp_skip rfl (by rw [← u1_eq e23]; kernel_rfl) ?_
      exact k_of (HK.out undef _ rfl hB (Below.refl _ _)) (by rw [← u1_eq e23]; kernel_rfl)
    · intro u W hB _ hd _ K hK
      have HK := Lib.hid hK; clear hK
      have e23 : u 23 = .bool false := hd 23 (by decide +kernel)
      refine wpOp_skip rfl (by rw [← u1_eq e23]; kernel_rfl) ?_
      exact k_of (HK.out undef _ rfl hB (Below.refl _ _)) (by rw [← u1_eq e23]; kernel_rfl)
    · intro u W hB _ hd _ K hK
      have HK := Lib.hid hK; clear hK
      have e23 : u 23 = .bool false := hd 23 (by decide +kernel)
      refine wpOp_skip rfl (by rw [← u1_eq e23]; kernel_rfl) ?_
      exact k_of (HK.out undef _ rfl hB (Below.refl _ _)) (by rw [← u1_eq e23]; kernel_rfl)
    · intro u W hB _ hd _ K hK
      have HK := Lib.hid hK; clear hK
      have e23 : u 23 = .bool false := hd 23 (by decide +kernel)
      refine wpOp_skip rfl (by rw [← u1_eq e23]; kernel_rfl) ?_
      exact k_of (HK.out undef _ rfl hB (Below.refl _ _)) (by rw [← u1_eq e23]; kernel_rfl)
    · intro u W hB _ hd _ K hK
      have HK := Lib.hid hK; clear hK
      have e23 : u 23 = .bool false := hd 23 (by decide +kernel)
      have e28 : u 28 = undef := hd 28 (by decide +kernel)
      refine wpOp_of rfl (by rfl) ?_
      go_simp
      exact k_of (HK.out (.bool false) _ rfl hB (Below.refl _ _)) (by rw [← u1_eq e23, ← u1_eq e28]; kernel_rfl)
    · intro u W hB _ hd _ K hK
      have HK := Lib.hid hK; clear hK
      have e29 : u 29 = .bool false := hd 29 (by decide +kernel)
      refine wpOp_of rfl (by rfl) ?_
      go_simp
      exact k_of (HK.out (.bool false) _ rfl hB (Below.refl _ _)) (by rw [← u1_eq e29]; kernel_rfl)
    · intro u W hB _ hd _ K hK
      have HK := Lib.hid hK; clear hK
      have e30 : u 30 = .bool false := hd 30 (by decide +kernel)
      refine wpOp_skip rfl (by rw [← u1_eq e30]; kernel_rfl) ?_
      exact k_of (HK.out undef _ rfl hB (Below.refl _ _)) (by rw [← u1_eq e30]; kernel_rfl)
    · intro u W hB _ hd _ K hK
      have HK := Lib.hid hK; clear hK
      have e30 : u 30 = .bool false := hd 30 (by decide +kernel)
      refine wpOp_skip rfl (by rw [← u1_eq e30]; kernel_rfl) ?_
      exact k_of (HK.out undef _ rfl hB (Below.refl _ _)) (by rw [← u1_eq e30]; kernel_rfl)
    · intro u W hB _ hd _ K hK
      have HK := Lib.hid hK; clear hK
      have e30 : u 30 = .bool false := hd 30 (by decide +kernel)
      refine wpOp_skip rfl (by rw [← u1_eq e30]; kernel_rfl) ?_
      exact k_of (HK.out undef _ rfl hB (Below.refl _ _)) (by rw [← u1_eq e30]; kernel_rfl)
    · intro u W hB _ hd _ K hK
      have HK := Lib.hid hK; clear hK
      have e30 : u 30 = .bool false := hd 30 (by decide +kernel)
      refine wpOp_skip rfl (by rw [← u1_eq e30]; kernel_rfl) ?_
      exact k_of (HK.out undef _ rfl hB (Below.refl _ _)) (by rw [← u1_eq e30]; kernel_rfl)
    · intro u W hB _ hd _ K hK
      have HK := Lib.hid hK; clear hK
      have e30 : u 30 = .bool false := hd 30 (by decide +kernel)
      refine wpOp_skip rfl (by rw [← u1_eq e30]; kernel_rfl) ?_
      exact k_of (HK.out undef _ rfl hB (Below.refl _ _)) (by rw [← u1_eq e30]; kernel_rfl)
    · intro u W hB _ hd _ K hK
      have HK := Lib.hid hK; clear hK
      have e30 : u 30 = .bool false := hd 30 (by decide +kernel)
      refine wpOp_skip rfl (by rw [← u1_eq e30]; kernel_rfl) ?_
      exact k_of (HK.out undef _ rfl hB (Below.refl _ _)) (by rw [← u1_eq e30]; kernel_rfl)
    · intro u W hB _ hd _ K hK
      have HK := Lib.hid hK; clear hK
      have e30 : u 30 = .bool false := hd 30 (by decide +kernel)
      refine wpOp_skip rfl (by rw [← u1_eq e30]; kernel_rfl) ?_
      exact k_of (HK.out undef _ rfl hB (Below.refl _ _)) (by rw [← u1_eq e30]; kernel_rfl)
    · intro u W hB _ hd _ K hK
      have HK := Lib.hid hK; clear hK
      have e30 : u 30 = .bool false := hd 30 (by decide +kernel)
      refine wpOp_skip rfl (by rw [← u1_eq e30]; kernel_rfl) ?_
      exact k_of (HK.out undef _ rfl hB (Below.refl _ _)) (by rw [← u1_eq e30]; kernel_rfl)
    · intro u W hB _ hd _ K hK
      have HK := Lib.hid hK; clear hK
      have e30 : u 30 = .bool false := hd 30 (by decide +kernel)
      have e38 : u 38 = undef := hd 38 (by decide +kernel)
      refine wpOp_of rfl (by rfl) ?_
      go_simp
      exact k_of (HK.out (.bool false) _ rfl hB (Below.refl _ _)) (by rw [← u1_eq e30, ← u1_eq e38]; kernel_rfl)
    · intro u W hB _ hd _ K hK
      have HK := Lib.hid hK; clear hK
      have e39 : u 39 = .bool false := hd 39 (by decide +kernel)
      refine wpOp_of rfl (by rfl) ?_
      go_simp
      exact k_of (HK.out (.bool false) _ rfl hB (Below.refl _ _)) (by rw [← u1_eq e39]; kernel_rfl)
    · intro u W hB _ hd _ K hK
      have HK := Lib.hid hK; clear hK
      have e40 : u 40 = .bool false := hd 40 (by decide +kernel)
      refine wpOp_skip rfl (by rw [← u1_eq e40]; kernel_rfl) ?_
      exact k_of (HK.out undef _ rfl hB (Below.refl _ _)) (by rw [← u1_eq e40]; kernel_rfl)
    · intro u W hB _ hd _ K hK
      have HK := Lib.hid hK; clear hK
      have e40 : u 40 = .bool false := hd 40 (by decide +kernel)
      refine wpOp_skip rfl (by rw [← u1_eq e40]; kernel_rfl) ?_
      exact k_of (HK.out undef _ rfl hB (Below.refl _ _)) (by rw [← u1_eq e40]; kernel_rfl)
    · intro u W hB _ hd _ K hK
      have HK := Lib.hid hK; clear hK
      have e40 : u 40 = .bool false := hd 40 (by decide +kernel)
      refine wpOp_skip rfl (by rw [← u1_eq e40]; kernel_rfl) ?_
      exact k_of (HK.out undef _ rfl hB (Below.refl _ _)) (by rw [← u1_eq e40]; kernel_rfl)
    · intro u W hB _ hd _ K hK
      have HK := Lib.hid hK; clear hK
      have e40 : u 40 = .bool false := hd 40 (by decide +kernel)
      refine wpOp_skip rfl (by rw [← u1_eq e40]; kernel_rfl) ?_
      exact k_of (HK.out undef _ rfl hB (Below.refl _ _)) (by rw [← u1_eq e40]; kernel_rfl)
    · intro u W hB _ hd _ K hK
      have HK := Lib.hid hK; clear hK
      have e40 : u 40 = .bool false := hd 40 (by decide +kernel)
      refine wpOp_skip rfl (by rw [← u1_eq e40]; kernel_rfl) ?_
      exact k_of (HK.out undef _ rfl hB (Below.refl _ _)) (by rw [← u1_eq e40]; kernel_rfl)
    · intro u W hB _ hd _ K hK
      have HK := Lib.hid hK; clear hK
      have e40 : u 40 = .bool false := hd 40 (by decide +kernel)
      have e45 : u 45 = undef := hd 45 (by decide +kernel)
      refine wpOp_of rfl (by rfl) ?_
      go_simp
      exact k_of (HK.out (.bool false) _ rfl hB (Below.refl _ _)) (by rw [← u1_eq e40, ← u1_eq e45]; kernel_rfl)
    · intro u W hB _ hd _ K hK
      have HK := Lib.hid hK; clear hK
      have e46 : u 46 = .bool false := hd 46 (by decide +kernel)
      refine wpOp_of rfl (by rfl) ?_
      go_simp
      exact k_of (HK.out (.bool false) _ rfl hB (Below.refl _ _)) (by rw [← u1_eq e46]; kernel_rfl)
  · intro u W hB hd
    have e47 : u 47 = .bool false := hd 47 (by decide)
    exact k_of (HQ.out u W hB.out) (by simp only [e47])

/-- What each operation leaves. -/
def rt1R (P _C T0 Gw b o _xb _xo : Nat) (qk : Int) (p : Sp) (_c : Cd) (k : Wk) (x : Wx) (t : Tu) : Nat → Value → World → Prop
  | 0, v, _ => v = .pointer (some ⟨T0, 0, none⟩)
  | 1, v, _ => v = .int .i64 t.pull
  | 2, v, _ => v = .pointer (some ⟨P, 0, none⟩)
  | 3, v, _ => v = .slice (some ⟨b, o, none⟩) p.s.ks.length p.kc
  | 4, v, _ => v = .int .i64 qk
  | 5, v, _ => v = .pointer (some ⟨b, o + qk.toNat * 4, none⟩)
  | 6, v, _ => v = .pointer (some ⟨b, o + qk.toNat * 4 + 2, none⟩)
  | 7, v, _ => v = .agg #[.int .i64 k.plo, .int .i64 k.phi]
  | 8, v, _ => v = .bool true
  | 9, v, _ => v = .bool true
  | 10, v, _ => v = .pointer (some ⟨T0, 1, none⟩)
  | 11, v, _ => v = .int .i64 t.flow
  | 12, v, _ => v = .pointer (some ⟨Gw, 1, none⟩)
  | 13, v, _ => v = .agg #[.int .i64 x.flo, .int .i64 x.fhi]
  | 14, v, _ => v = .bool false
  | 15, v, _ => v = .bool false
  | 16, v, _ => v = .bool false
  | 17, v, _ => v = undef
  | 18, v, _ => v = undef
  | 19, v, _ => v = undef
  | 20, v, _ => v = undef
  | 21, v, _ => v = undef
  | 22, v, _ => v = .bool false
  | 23, v, _ => v = .bool false
  | 24, v, _ => v = undef
  | 25, v, _ => v = undef
  | 26, v, _ => v = undef
  | 27, v, _ => v = undef
  | 28, v, _ => v = undef
  | 29, v, _ => v = .bool false
  | 30, v, _ => v = .bool false
  | 31, v, _ => v = undef
  | 32, v, _ => v = undef
  | 33, v, _ => v = undef
  | 34, v, _ => v = undef
  | 35, v, _ => v = undef
  | 36, v, _ => v = undef
  | 37, v, _ => v = undef
  | 38, v, _ => v = undef
  | 39, v, _ => v = .bool false
  | 40, v, _ => v = .bool false
  | 41, v, _ => v = undef
  | 42, v, _ => v = undef
  | 43, v, _ => v = undef
  | 44, v, _ => v = undef
  | 45, v, _ => v = undef
  | 46, v, _ => v = .bool false
  | 47, v, _ => v = .bool false
  | _, _, _ => True
theorem rt1R_on (P C T0 Gw b o xb xo : Nat) (qk : Int) (p : Sp) (c : Cd) (k : Wk) (x : Wx) (t : Tu) : ∀ i, i < 48 → ∀ v W W', rt1R P C T0 Gw b o xb xo qk p c k x t i v W → Below W.heap.size W W' → rt1R P C T0 Gw b o xb xo qk p c k x t i v W' := by
  iterate 48 (refine all_succ ?_ ?_)
  · exact all_zero
  · exact fun _ _ _ h _ => h
  · exact fun _ _ _ h _ => h
  · exact fun _ _ _ h _ => h
  · exact fun _ _ _ h _ => h
  · exact fun _ _ _ h _ => h
  · exact fun _ _ _ h _ => h
  · exact fun _ _ _ h _ => h
  · exact fun _ _ _ h _ => h
  · exact fun _ _ _ h _ => h
  · exact fun _ _ _ h _ => h
  · exact fun _ _ _ h _ => h
  · exact fun _ _ _ h _ => h
  · exact fun _ _ _ h _ => h
  · exact fun _ _ _ h _ => h
  · exact fun _ _ _ h _ => h
  · exact fun _ _ _ h _ => h
  · exact fun _ _ _ h _ => h
  · exact fun _ _ _ h _ => h
  · exact fun _ _ _ h _ => h
  · exact fun _ _ _ h _ => h
  · exact fun _ _ _ h _ => h
  · exact fun _ _ _ h _ => h
  · exact fun _ _ _ h _ => h
  · exact fun _ _ _ h _ => h
  · exact fun _ _ _ h _ => h
  · exact fun _ _ _ h _ => h
  · exact fun _ _ _ h _ => h
  · exact fun _ _ _ h _ => h
  · exact fun _ _ _ h _ => h
  · exact fun _ _ _ h _ => h
  · exact fun _ _ _ h _ => h
  · exact fun _ _ _ h _ => h
  · exact fun _ _ _ h _ => h
  · exact fun _ _ _ h _ => h
  · exact fun _ _ _ h _ => h
  · exact fun _ _ _ h _ => h
  · exact fun _ _ _ h _ => h
  · exact fun _ _ _ h _ => h
  · exact fun _ _ _ h _ => h
  · exact fun _ _ _ h _ => h
  · exact fun _ _ _ h _ => h
  · exact fun _ _ _ h _ => h
  · exact fun _ _ _ h _ => h
  · exact fun _ _ _ h _ => h
  · exact fun _ _ _ h _ => h
  · exact fun _ _ _ h _ => h
  · exact fun _ _ _ h _ => h
  · exact fun _ _ _ h _ => h
set_option maxRecDepth 100000 in
set_option maxHeartbeats 8000000 in
theorem rt1_region {S : World → Prop} (hon : ∀ W W', S W → Below W.heap.size W W' → S W') {P C T0 Gw b o xb xo : Nat} {qk : Int} {p : Sp} {c : Cd} {k : Wk} {x : Wx} {t : Tu} (h0 : 0 ≤ qk) (hq : qk < p.s.ks.length) (_hwr : IntKind.i64.wrap (-c.dra) = -c.dra) (hP : ∀ W, S W → Blk W P 27 #[.slice (some ⟨b, o, none⟩) p.s.ks.length p.kc, .slice (some ⟨xb, xo, none⟩) p.s.xs.length p.xc, .int .i64 p.s.flo, .int .i64 p.s.fhi, .int .i64 p.s.plo, .int .i64 p.s.phi]) (_hC : ∀ W, S W → Blk W C 34 #[.int .i64 c.wax, .int .i64 c.dia, .int .i64 c.dra, .int .i64 c.clo, .int .i64 c.chi]) (hT : ∀ W, S W → Blk W T0 36 #[.int .i64 t.pull, .int .i64 t.flow, .int .i64 t.rise, .int .i64 t.spr, .int .i64 t.dra, .int .i64 t.cold]) (hG : ∀ W, S W → Blk W Gw 80 #[.string x.nm, .int .i64 x.flo, .int .i64 x.fhi, .int .i64 x.rlo, .int .i64 x.rhi, .int .i64 x.slo, .int .i64 x.shi, .int .i64 x.ch]) (hk : ∀ W, S W → W.cell? ⟨b, o + qk.toNat * 4 + 2, none⟩ = some (.int .i64 k.plo) ∧ W.cell? ⟨b, o + qk.toNat * 4 + 3, none⟩ = some (.int .i64 k.phi)) (hb0 : inB t.pull k.plo k.phi = true) (hb1 : inB t.flow x.flo x.fhi = false) {Q : Exit → Act → World → Prop} {s0 s2 s3 s5 s10 s11 s12 s13 s14 s15 : Value} {W0 : World} (HL : Hid (S W0))
    (HQ : Hid (∀ (u : Nat → Value) (W : World), S W → Q .normal ⟨#[s0, .int .i64 qk, s2, s3, .pointer (some ⟨P, 0, none⟩), s5, .pointer (some ⟨C, 0, none⟩), .pointer (some ⟨T0, 0, none⟩), .bool false, .pointer (some ⟨Gw, 0, none⟩), s10, s11, s12, s13, s14, s15, u 0, u 1, u 2, u 3, u 4, u 5, u 6, u 7, u 8, u 9, u 10, u 11, u 12, u 13, u 14, u 15, u 16, u 17, u 18, u 19, u 20, u 21, u 22, u 23, u 24, u 25, u 26, u 27, u 28, u 29, u 30, u 31, u 32, u 33, u 34, u 35, u 36, u 37, u 38, u 39, u 40, u 41, u 42, u 43, u 44, u 45, u 46], []⟩ W)) :
    Code.wp Try.prog ((Try.f53.body.bind (regionAt 2)).getD .skip) Q ⟨#[s0, .int .i64 qk, s2, s3, .pointer (some ⟨P, 0, none⟩), s5, .pointer (some ⟨C, 0, none⟩), .pointer (some ⟨T0, 0, none⟩), .bool false, .pointer (some ⟨Gw, 0, none⟩), s10, s11, s12, s13, s14, s15, undef, undef, undef, undef, undef, undef, undef, undef, undef, undef, undef, undef, undef, undef, undef, undef, undef, undef, undef, undef, undef, undef, undef, undef, undef, undef, undef, undef, undef, undef, undef, undef, undef, undef, undef, undef, undef, undef, undef, undef, undef, undef, undef, undef, undef, undef, undef], []⟩ W0 := by
  conv => arg 2; whnf
  refine wp_region_spec (by kernel_rfl) 48 (by kernel_rfl) (fun u => ⟨#[s0, .int .i64 qk, s2, s3, .pointer (some ⟨P, 0, none⟩), s5, .pointer (some ⟨C, 0, none⟩), .pointer (some ⟨T0, 0, none⟩), u 47, .pointer (some ⟨Gw, 0, none⟩), s10, s11, s12, s13, s14, s15, u 0, u 1, u 2, u 3, u 4, u 5, u 6, u 7, u 8, u 9, u 10, u 11, u 12, u 13, u 14, u 15, u 16, u 17, u 18, u 19, u 20, u 21, u 22, u 23, u 24, u 25, u 26, u 27, u 28, u 29, u 30, u 31, u 32, u 33, u 34, u 35, u 36, u 37, u 38, u 39, u 40, u 41, u 42, u 43, u 44, u 45, u 46], []⟩) (fun i => if i = 47 then .bool false else undef) (fun W => Hid (S W)) (rt1R P C T0 Gw b o xb xo qk p c k x t) (by kernel_rfl) (hon _ _ HL.out (Below.refl _ _).drew) (fun i v W W2 hi h hb => rt1R_on P C T0 Gw b o xb xo qk p c k x t i hi v W W2 h hb) (by decide +kernel) ?_ ?_
  · iterate 48 (refine all_succ ?_ ?_)
    · exact all_zero
    · intro u W hB _ hd _ K hK
      have HK := Lib.hid hK; clear hK
      refine wpOp_of rfl (by rfl) ?_
      go_simp
      exact k_of (HK.out (.pointer (some ⟨T0, 0, none⟩)) _ rfl hB (Below.refl _ _)) (by kernel_rfl)
    · intro u W hB _ hd _ K hK
      have HK := Lib.hid hK; clear hK
      have e0 : u 0 = .pointer (some ⟨T0, 0, none⟩) := hd 0 (by decide +kernel)
      refine wpOp_of rfl (by rfl) ?_
      have z0 := (hT W hB.out).cell 0
      go_simp
      exact k_of (HK.out (.int .i64 t.pull) _ rfl hB (Below.refl _ _)) (by rw [← u1_eq e0]; kernel_rfl)
    · intro u W hB _ hd _ K hK
      have HK := Lib.hid hK; clear hK
      refine wpOp_of rfl (by rfl) ?_
      go_simp
      exact k_of (HK.out (.pointer (some ⟨P, 0, none⟩)) _ rfl hB (Below.refl _ _)) (by kernel_rfl)
    · intro u W hB _ hd _ K hK
      have HK := Lib.hid hK; clear hK
      have e2 : u 2 = .pointer (some ⟨P, 0, none⟩) := hd 2 (by decide +kernel)
      refine wpOp_of rfl (by rfl) ?_
      have z0 := (hP W hB.out).cell 0
      go_simp
      exact k_of (HK.out (.slice (some ⟨b, o, none⟩) p.s.ks.length p.kc) _ rfl hB (Below.refl _ _)) (by rw [← u1_eq e2]; kernel_rfl)
    · intro u W hB _ hd _ K hK
      have HK := Lib.hid hK; clear hK
      refine wpOp_of rfl (by rfl) ?_
      go_simp
      exact k_of (HK.out (.int .i64 qk) _ rfl hB (Below.refl _ _)) (by kernel_rfl)
    · intro u W hB _ hd _ K hK
      have HK := Lib.hid hK; clear hK
      have e3 : u 3 = .slice (some ⟨b, o, none⟩) p.s.ks.length p.kc := hd 3 (by decide +kernel)
      have e4 : u 4 = .int .i64 qk := hd 4 (by decide +kernel)
      refine wpOp_of rfl (by rfl) ?_
      go_simp
      exact k_of (HK.out (.pointer (some ⟨b, o + qk.toNat * 4, none⟩)) _ rfl hB (Below.refl _ _)) (by rw [← u1_eq e3, ← u1_eq e4]; kernel_rfl)
    · intro u W hB _ hd _ K hK
      have HK := Lib.hid hK; clear hK
      have e5 : u 5 = .pointer (some ⟨b, o + qk.toNat * 4, none⟩) := hd 5 (by decide +kernel)
      refine wpOp_of rfl (by rfl) ?_
      go_simp
      exact k_of (HK.out (.pointer (some ⟨b, o + qk.toNat * 4 + 2, none⟩)) _ rfl hB (Below.refl _ _)) (by rw [← u1_eq e5]; kernel_rfl)
    · intro u W hB _ hd _ K hK
      have HK := Lib.hid hK; clear hK
      have e6 : u 6 = .pointer (some ⟨b, o + qk.toNat * 4 + 2, none⟩) := hd 6 (by decide +kernel)
      refine wpOp_of rfl (by rfl) ?_
      obtain ⟨z0, z1⟩ := hk W hB.out
      go_simp
      exact k_of (HK.out (.agg #[.int .i64 k.plo, .int .i64 k.phi]) _ rfl hB (Below.refl _ _)) (by rw [← u1_eq e6]; kernel_rfl)
    · intro u W hB _ hd _ K hK
      have HK := Lib.hid hK; clear hK
      have e1 : u 1 = .int .i64 t.pull := hd 1 (by decide +kernel)
      have e7 : u 7 = .agg #[.int .i64 k.plo, .int .i64 k.phi] := hd 7 (by decide +kernel)
      refine wpOp_of rfl (by rfl) ?_
      go_simp
      refine (rat_any _ _ _ _).mono ?_; simp only [hb0]
      rintro e w' ⟨rfl, hb⟩
      exact k_of (HK.out (.bool true) _ rfl (hon _ _ hB.out hb) hb) (by rw [← u1_eq e1, ← u1_eq e7]; kernel_rfl)
    · intro u W hB _ hd _ K hK
      have HK := Lib.hid hK; clear hK
      have e8 : u 8 = .bool true := hd 8 (by decide +kernel)
      refine wpOp_of rfl (by rfl) ?_
      go_simp
      exact k_of (HK.out (.bool true) _ rfl hB (Below.refl _ _)) (by rw [← u1_eq e8]; kernel_rfl)
    · intro u W hB _ hd _ K hK
      have HK := Lib.hid hK; clear hK
      have e9 : u 9 = .bool true := hd 9 (by decide +kernel)
      refine wpOp_of rfl (by rw [← u1_eq e9]; kernel_rfl) ?_
      go_simp
      exact k_of (HK.out (.pointer (some ⟨T0, 1, none⟩)) _ rfl hB (Below.refl _ _)) (by rw [← u1_eq e9]; kernel_rfl)
    · intro u W hB _ hd _ K hK
      have HK := Lib.hid hK; clear hK
      have e9 : u 9 = .bool true := hd 9 (by decide +kernel)
      have e10 : u 10 = .pointer (some ⟨T0, 1, none⟩) := hd 10 (by decide +kernel)
      refine wpOp_of rfl (by rw [← u1_eq e9]; kernel_rfl) ?_
      have z1 := (hT W hB.out).cell 1
      go_simp
      exact k_of (HK.out (.int .i64 t.flow) _ rfl hB (Below.refl _ _)) (by rw [← u1_eq e9, ← u1_eq e10]; kernel_rfl)
    · intro u W hB _ hd _ K hK
      have HK := Lib.hid hK; clear hK
      have e9 : u 9 = .bool true := hd 9 (by decide +kernel)
      refine wpOp_of rfl (by rw [← u1_eq e9]; kernel_rfl) ?_
      go_simp
      exact k_of (HK.out (.pointer (some ⟨Gw, 1, none⟩)) _ rfl hB (Below.refl _ _)) (by rw [← u1_eq e9]; kernel_rfl)
    · intro u W hB _ hd _ K hK
      have HK := Lib.hid hK; clear hK
      have e9 : u 9 = .bool true := hd 9 (by decide +kernel)
      have e12 : u 12 = .pointer (some ⟨Gw, 1, none⟩) := hd 12 (by decide +kernel)
      refine wpOp_of rfl (by rw [← u1_eq e9]; kernel_rfl) ?_
      have z1 := (hG W hB.out).cell 1; have z2 := (hG W hB.out).cell 2
      go_simp
      exact k_of (HK.out (.agg #[.int .i64 x.flo, .int .i64 x.fhi]) _ rfl hB (Below.refl _ _)) (by rw [← u1_eq e9, ← u1_eq e12]; kernel_rfl)
    · intro u W hB _ hd _ K hK
      have HK := Lib.hid hK; clear hK
      have e9 : u 9 = .bool true := hd 9 (by decide +kernel)
      have e11 : u 11 = .int .i64 t.flow := hd 11 (by decide +kernel)
      have e13 : u 13 = .agg #[.int .i64 x.flo, .int .i64 x.fhi] := hd 13 (by decide +kernel)
      refine wpOp_of rfl (by rw [← u1_eq e9]; kernel_rfl) ?_
      go_simp
      refine (rat_any _ _ _ _).mono ?_; simp only [hb1]
      rintro e w' ⟨rfl, hb⟩
      exact k_of (HK.out (.bool false) _ rfl (hon _ _ hB.out hb) hb) (by rw [← u1_eq e9, ← u1_eq e11, ← u1_eq e13]; kernel_rfl)
    · intro u W hB _ hd _ K hK
      have HK := Lib.hid hK; clear hK
      have e9 : u 9 = .bool true := hd 9 (by decide +kernel)
      have e14 : u 14 = .bool false := hd 14 (by decide +kernel)
      refine wpOp_of rfl (by rfl) ?_
      go_simp
      exact k_of (HK.out (.bool false) _ rfl hB (Below.refl _ _)) (by rw [← u1_eq e9, ← u1_eq e14]; kernel_rfl)
    · intro u W hB _ hd _ K hK
      have HK := Lib.hid hK; clear hK
      have e15 : u 15 = .bool false := hd 15 (by decide +kernel)
      refine wpOp_of rfl (by rfl) ?_
      go_simp
      exact k_of (HK.out (.bool false) _ rfl hB (Below.refl _ _)) (by rw [← u1_eq e15]; kernel_rfl)
    · intro u W hB _ hd _ K hK
      have HK := Lib.hid hK; clear hK
      have e16 : u 16 = .bool false := hd 16 (by decide +kernel)
      refine wpOp_skip rfl (by rw [← u1_eq e16]; kernel_rfl) ?_
      exact k_of (HK.out undef _ rfl hB (Below.refl _ _)) (by rw [← u1_eq e16]; kernel_rfl)
    · intro u W hB _ hd _ K hK
      have HK := Lib.hid hK; clear hK
      have e16 : u 16 = .bool false := hd 16 (by decide +kernel)
      refine wpOp_skip rfl (by rw [← u1_eq e16]; kernel_rfl) ?_
      exact k_of (HK.out undef _ rfl hB (Below.refl _ _)) (by rw [← u1_eq e16]; kernel_rfl)
    · intro u W hB _ hd _ K hK
      have HK := Lib.hid hK; clear hK
      have e16 : u 16 = .bool false := hd 16 (by decide +kernel)
      refine wpOp_skip rfl (by rw [← u1_eq e16]; kernel_rfl) ?_
      exact k_of (HK.out undef _ rfl hB (Below.refl _ _)) (by rw [← u1_eq e16]; kernel_rfl)
    · intro u W hB _ hd _ K hK
      have HK := Lib.hid hK; clear hK
      have e16 : u 16 = .bool false := hd 16 (by decide +kernel)
      refine wpOp_skip rfl (by rw [← u1_eq e16]; kernel_rfl) ?_
      exact k_of (HK.out undef _ rfl hB (Below.refl _ _)) (by rw [← u1_eq e16]; kernel_rfl)
    · intro u W hB _ hd _ K hK
      have HK := Lib.hid hK; clear hK
      have e16 : u 16 = .bool false := hd 16 (by decide +kernel)
      refine wpOp_skip rfl (by rw [← u1_eq e16]; kernel_rfl) ?_
      exact k_of (HK.out undef _ rfl hB (Below.refl _ _)) (by rw [← u1_eq e16]; kernel_rfl)
    · intro u W hB _ hd _ K hK
      have HK := Lib.hid hK; clear hK
      have e16 : u 16 = .bool false := hd 16 (by decide +kernel)
      have e21 : u 21 = undef := hd 21 (by decide +kernel)
      refine wpOp_of rfl (by rfl) ?_
      go_simp
      exact k_of (HK.out (.bool false) _ rfl hB (Below.refl _ _)) (by rw [← u1_eq e16, ← u1_eq e21]; kernel_rfl)
    · intro u W hB _ hd _ K hK
      have HK := Lib.hid hK; clear hK
      have e22 : u 22 = .bool false := hd 22 (by decide +kernel)
      refine wpOp_of rfl (by rfl) ?_
      go_simp
      exact k_of (HK.out (.bool false) _ rfl hB (Below.refl _ _)) (by rw [← u1_eq e22]; kernel_rfl)
    · intro u W hB _ hd _ K hK
      have HK := Lib.hid hK; clear hK
      have e23 : u 23 = .bool false := hd 23 (by decide +kernel)
      refine wpOp_skip rfl (by rw [← u1_eq e23]; kernel_rfl) ?_
      exact k_of (HK.out undef _ rfl hB (Below.refl _ _)) (by rw [← u1_eq e23]; kernel_rfl)
    · intro u W hB _ hd _ K hK
      have HK := Lib.hid hK; clear hK
      have e23 : u 23 = .bool false := hd 23 (by decide +kernel)
      refine wpOp_skip rfl (by rw [← u1_eq e23]; kernel_rfl) ?_
      exact k_of (HK.out undef _ rfl hB (Below.refl _ _)) (by rw [← u1_eq e23]; kernel_rfl)
    · intro u W hB _ hd _ K hK
      have HK := Lib.hid hK; clear hK
      have e23 : u 23 = .bool false := hd 23 (by decide +kernel)
      refine wpOp_skip rfl (by rw [← u1_eq e23]; kernel_rfl) ?_
      exact k_of (HK.out undef _ rfl hB (Below.refl _ _)) (by rw [← u1_eq e23]; kernel_rfl)
    · intro u W hB _ hd _ K hK
      have HK := Lib.hid hK; clear hK
      have e23 : u 23 = .bool false := hd 23 (by decide +kernel)
      refine wpOp_skip rfl (by rw [← u1_eq e23]; kernel_rfl) ?_
      exact k_of (HK.out undef _ rfl hB (Below.refl _ _)) (by rw [← u1_eq e23]; kernel_rfl)
    · intro u W hB _ hd _ K hK
      have HK := Lib.hid hK; clear hK
      have e23 : u 23 = .bool false := hd 23 (by decide +kernel)
      refine wpOp_skip rfl (by rw [← u1_eq e23]; kernel_rfl) ?_
      exact k_of (HK.out undef _ rfl hB (Below.refl _ _)) (by rw [← u1_eq e23]; kernel_rfl)
    · intro u W hB _ hd _ K hK
      have HK := Lib.hid hK; clear hK
      have e23 : u 23 = .bool false := hd 23 (by decide +kernel)
      have e28 : u 28 = undef := hd 28 (by decide +kernel)
      refine wpOp_of rfl (by rfl) ?_
      go_simp
      exact k_of (HK.out (.bool false) _ rfl hB (Below.refl _ _)) (by rw [← u1_eq e23, ← u1_eq e28]; kernel_rfl)
    · intro u W hB _ hd _ K hK
      have HK := Lib.hid hK; clear hK
      have e29 : u 29 = .bool false := hd 29 (by decide +kernel)
      refine wpOp_of rfl (by rfl) ?_
      go_simp
      exact k_of (HK.out (.bool false) _ rfl hB (Below.refl _ _)) (by rw [← u1_eq e29]; kernel_rfl)
    · intro u W hB _ hd _ K hK
      have HK := Lib.hid hK; clear hK
      have e30 : u 30 = .bool false := hd 30 (by decide +kernel)
      refine wpOp_skip rfl (by rw [← u1_eq e30]; kernel_rfl) ?_
      exact k_of (HK.out undef _ rfl hB (Below.refl _ _)) (by rw [← u1_eq e30]; kernel_rfl)
    · intro u W hB _ hd _ K hK
      have HK := Lib.hid hK; clear hK
      have e30 : u 30 = .bool false := hd 30 (by decide +kernel)
      refine wpOp_skip rfl (by rw [← u1_eq e30]; kernel_rfl) ?_
      exact k_of (HK.out undef _ rfl hB (Below.refl _ _)) (by rw [← u1_eq e30]; kernel_rfl)
    · intro u W hB _ hd _ K hK
      have HK := Lib.hid hK; clear hK
      have e30 : u 30 = .bool false := hd 30 (by decide +kernel)
      refine wpOp_skip rfl (by rw [← u1_eq e30]; kernel_rfl) ?_
      exact k_of (HK.out undef _ rfl hB (Below.refl _ _)) (by rw [← u1_eq e30]; kernel_rfl)
    · intro u W hB _ hd _ K hK
      have HK := Lib.hid hK; clear hK
      have e30 : u 30 = .bool false := hd 30 (by decide +kernel)
      refine wpOp_skip rfl (by rw [← u1_eq e30]; kernel_rfl) ?_
      exact k_of (HK.out undef _ rfl hB (Below.refl _ _)) (by rw [← u1_eq e30]; kernel_rfl)
    · intro u W hB _ hd _ K hK
      have HK := Lib.hid hK; clear hK
      have e30 : u 30 = .bool false := hd 30 (by decide +kernel)
      refine wpOp_skip rfl (by rw [← u1_eq e30]; kernel_rfl) ?_
      exact k_of (HK.out undef _ rfl hB (Below.refl _ _)) (by rw [← u1_eq e30]; kernel_rfl)
    · intro u W hB _ hd _ K hK
      have HK := Lib.hid hK; clear hK
      have e30 : u 30 = .bool false := hd 30 (by decide +kernel)
      refine wpOp_skip rfl (by rw [← u1_eq e30]; kernel_rfl) ?_
      exact k_of (HK.out undef _ rfl hB (Below.refl _ _)) (by rw [← u1_eq e30]; kernel_rfl)
    · intro u W hB _ hd _ K hK
      have HK := Lib.hid hK; clear hK
      have e30 : u 30 = .bool false := hd 30 (by decide +kernel)
      refine wpOp_skip rfl (by rw [← u1_eq e30]; kernel_rfl) ?_
      exact k_of (HK.out undef _ rfl hB (Below.refl _ _)) (by rw [← u1_eq e30]; kernel_rfl)
    · intro u W hB _ hd _ K hK
      have HK := Lib.hid hK; clear hK
      have e30 : u 30 = .bool false := hd 30 (by decide +kernel)
      refine wpOp_skip rfl (by rw [← u1_eq e30]; kernel_rfl) ?_
      exact k_of (HK.out undef _ rfl hB (Below.refl _ _)) (by rw [← u1_eq e30]; kernel_rfl)
    · intro u W hB _ hd _ K hK
      have HK := Lib.hid hK; clear hK
      have e30 : u 30 = .bool false := hd 30 (by decide +kernel)
      have e38 : u 38 = undef := hd 38 (by decide +kernel)
      refine wpOp_of rfl (by rfl) ?_
      go_simp
      exact k_of (HK.out (.bool false) _ rfl hB (Below.refl _ _)) (by rw [← u1_eq e30, ← u1_eq e38]; kernel_rfl)
    · intro u W hB _ hd _ K hK
      have HK := Lib.hid hK; clear hK
      have e39 : u 39 = .bool false := hd 39 (by decide +kernel)
      refine wpOp_of rfl (by rfl) ?_
      go_simp
      exact k_of (HK.out (.bool false) _ rfl hB (Below.refl _ _)) (by rw [← u1_eq e39]; kernel_rfl)
    · intro u W hB _ hd _ K hK
      have HK := Lib.hid hK; clear hK
      have e40 : u 40 = .bool false := hd 40 (by decide +kernel)
      refine wpOp_skip rfl (by rw [← u1_eq e40]; kernel_rfl) ?_
      exact k_of (HK.out undef _ rfl hB (Below.refl _ _)) (by rw [← u1_eq e40]; kernel_rfl)
    · intro u W hB _ hd _ K hK
      have HK := Lib.hid hK; clear hK
      have e40 : u 40 = .bool false := hd 40 (by decide +kernel)
      refine wpOp_skip rfl (by rw [← u1_eq e40]; kernel_rfl) ?_
      exact k_of (HK.out undef _ rfl hB (Below.refl _ _)) (by rw [← u1_eq e40]; kernel_rfl)
    · intro u W hB _ hd _ K hK
      have HK := Lib.hid hK; clear hK
      have e40 : u 40 = .bool false := hd 40 (by decide +kernel)
      refine wpOp_skip rfl (by rw [← u1_eq e40]; kernel_rfl) ?_
      exact k_of (HK.out undef _ rfl hB (Below.refl _ _)) (by rw [← u1_eq e40]; kernel_rfl)
    · intro u W hB _ hd _ K hK
      have HK := Lib.hid hK; clear hK
      have e40 : u 40 = .bool false := hd 40 (by decide +kernel)
      refine wpOp_skip rfl (by rw [← u1_eq e40]; kernel_rfl) ?_
      exact k_of (HK.out undef _ rfl hB (Below.refl _ _)) (by rw [← u1_eq e40]; kernel_rfl)
    · intro u W hB _ hd _ K hK
      have HK := Lib.hid hK; clear hK
      have e40 : u 40 = .bool false := hd 40 (by decide +kernel)
      refine wpOp_skip rfl (by rw [← u1_eq e40]; kernel_rfl) ?_
      exact k_of (HK.out undef _ rfl hB (Below.refl _ _)) (by rw [← u1_eq e40]; kernel_rfl)
    · intro u W hB _ hd _ K hK
      have HK := Lib.hid hK; clear hK
      have e40 : u 40 = .bool false := hd 40 (by decide +kernel)
      have e45 : u 45 = undef := hd 45 (by decide +kernel)
      refine wpOp_of rfl (by rfl) ?_
      go_simp
      exact k_of (HK.out (.bool false) _ rfl hB (Below.refl _ _)) (by rw [← u1_eq e40, ← u1_eq e45]; kernel_rfl)
    · intro u W hB _ hd _ K hK
      have HK := Lib.hid hK; clear hK
      have e46 : u 46 = .bool false := hd 46 (by decide +kernel)
      refine wpOp_of rfl (by rfl) ?_
      go_simp
      exact k_of (HK.out (.bool false) _ rfl hB (Below.refl _ _)) (by rw [← u1_eq e46]; kernel_rfl)
  · intro u W hB hd
    have e47 : u 47 = .bool false := hd 47 (by decide)
    exact k_of (HQ.out u W hB.out) (by simp only [e47])

/-- What each operation leaves. -/
def rt2R (P _C T0 Gw b o _xb _xo : Nat) (qk : Int) (p : Sp) (_c : Cd) (k : Wk) (x : Wx) (t : Tu) : Nat → Value → World → Prop
  | 0, v, _ => v = .pointer (some ⟨T0, 0, none⟩)
  | 1, v, _ => v = .int .i64 t.pull
  | 2, v, _ => v = .pointer (some ⟨P, 0, none⟩)
  | 3, v, _ => v = .slice (some ⟨b, o, none⟩) p.s.ks.length p.kc
  | 4, v, _ => v = .int .i64 qk
  | 5, v, _ => v = .pointer (some ⟨b, o + qk.toNat * 4, none⟩)
  | 6, v, _ => v = .pointer (some ⟨b, o + qk.toNat * 4 + 2, none⟩)
  | 7, v, _ => v = .agg #[.int .i64 k.plo, .int .i64 k.phi]
  | 8, v, _ => v = .bool true
  | 9, v, _ => v = .bool true
  | 10, v, _ => v = .pointer (some ⟨T0, 1, none⟩)
  | 11, v, _ => v = .int .i64 t.flow
  | 12, v, _ => v = .pointer (some ⟨Gw, 1, none⟩)
  | 13, v, _ => v = .agg #[.int .i64 x.flo, .int .i64 x.fhi]
  | 14, v, _ => v = .bool true
  | 15, v, _ => v = .bool true
  | 16, v, _ => v = .bool true
  | 17, v, _ => v = .pointer (some ⟨T0, 2, none⟩)
  | 18, v, _ => v = .int .i64 t.rise
  | 19, v, _ => v = .pointer (some ⟨Gw, 3, none⟩)
  | 20, v, _ => v = .agg #[.int .i64 x.rlo, .int .i64 x.rhi]
  | 21, v, _ => v = .bool false
  | 22, v, _ => v = .bool false
  | 23, v, _ => v = .bool false
  | 24, v, _ => v = undef
  | 25, v, _ => v = undef
  | 26, v, _ => v = undef
  | 27, v, _ => v = undef
  | 28, v, _ => v = undef
  | 29, v, _ => v = .bool false
  | 30, v, _ => v = .bool false
  | 31, v, _ => v = undef
  | 32, v, _ => v = undef
  | 33, v, _ => v = undef
  | 34, v, _ => v = undef
  | 35, v, _ => v = undef
  | 36, v, _ => v = undef
  | 37, v, _ => v = undef
  | 38, v, _ => v = undef
  | 39, v, _ => v = .bool false
  | 40, v, _ => v = .bool false
  | 41, v, _ => v = undef
  | 42, v, _ => v = undef
  | 43, v, _ => v = undef
  | 44, v, _ => v = undef
  | 45, v, _ => v = undef
  | 46, v, _ => v = .bool false
  | 47, v, _ => v = .bool false
  | _, _, _ => True
theorem rt2R_on (P C T0 Gw b o xb xo : Nat) (qk : Int) (p : Sp) (c : Cd) (k : Wk) (x : Wx) (t : Tu) : ∀ i, i < 48 → ∀ v W W', rt2R P C T0 Gw b o xb xo qk p c k x t i v W → Below W.heap.size W W' → rt2R P C T0 Gw b o xb xo qk p c k x t i v W' := by
  iterate 48 (refine all_succ ?_ ?_)
  · exact all_zero
  · exact fun _ _ _ h _ => h
  · exact fun _ _ _ h _ => h
  · exact fun _ _ _ h _ => h
  · exact fun _ _ _ h _ => h
  · exact fun _ _ _ h _ => h
  · exact fun _ _ _ h _ => h
  · exact fun _ _ _ h _ => h
  · exact fun _ _ _ h _ => h
  · exact fun _ _ _ h _ => h
  · exact fun _ _ _ h _ => h
  · exact fun _ _ _ h _ => h
  · exact fun _ _ _ h _ => h
  · exact fun _ _ _ h _ => h
  · exact fun _ _ _ h _ => h
  · exact fun _ _ _ h _ => h
  · exact fun _ _ _ h _ => h
  · exact fun _ _ _ h _ => h
  · exact fun _ _ _ h _ => h
  · exact fun _ _ _ h _ => h
  · exact fun _ _ _ h _ => h
  · exact fun _ _ _ h _ => h
  · exact fun _ _ _ h _ => h
  · exact fun _ _ _ h _ => h
  · exact fun _ _ _ h _ => h
  · exact fun _ _ _ h _ => h
  · exact fun _ _ _ h _ => h
  · exact fun _ _ _ h _ => h
  · exact fun _ _ _ h _ => h
  · exact fun _ _ _ h _ => h
  · exact fun _ _ _ h _ => h
  · exact fun _ _ _ h _ => h
  · exact fun _ _ _ h _ => h
  · exact fun _ _ _ h _ => h
  · exact fun _ _ _ h _ => h
  · exact fun _ _ _ h _ => h
  · exact fun _ _ _ h _ => h
  · exact fun _ _ _ h _ => h
  · exact fun _ _ _ h _ => h
  · exact fun _ _ _ h _ => h
  · exact fun _ _ _ h _ => h
  · exact fun _ _ _ h _ => h
  · exact fun _ _ _ h _ => h
  · exact fun _ _ _ h _ => h
  · exact fun _ _ _ h _ => h
  · exact fun _ _ _ h _ => h
  · exact fun _ _ _ h _ => h
  · exact fun _ _ _ h _ => h
  · exact fun _ _ _ h _ => h
set_option maxRecDepth 100000 in
set_option maxHeartbeats 8000000 in
theorem rt2_region {S : World → Prop} (hon : ∀ W W', S W → Below W.heap.size W W' → S W') {P C T0 Gw b o xb xo : Nat} {qk : Int} {p : Sp} {c : Cd} {k : Wk} {x : Wx} {t : Tu} (h0 : 0 ≤ qk) (hq : qk < p.s.ks.length) (_hwr : IntKind.i64.wrap (-c.dra) = -c.dra) (hP : ∀ W, S W → Blk W P 27 #[.slice (some ⟨b, o, none⟩) p.s.ks.length p.kc, .slice (some ⟨xb, xo, none⟩) p.s.xs.length p.xc, .int .i64 p.s.flo, .int .i64 p.s.fhi, .int .i64 p.s.plo, .int .i64 p.s.phi]) (_hC : ∀ W, S W → Blk W C 34 #[.int .i64 c.wax, .int .i64 c.dia, .int .i64 c.dra, .int .i64 c.clo, .int .i64 c.chi]) (hT : ∀ W, S W → Blk W T0 36 #[.int .i64 t.pull, .int .i64 t.flow, .int .i64 t.rise, .int .i64 t.spr, .int .i64 t.dra, .int .i64 t.cold]) (hG : ∀ W, S W → Blk W Gw 80 #[.string x.nm, .int .i64 x.flo, .int .i64 x.fhi, .int .i64 x.rlo, .int .i64 x.rhi, .int .i64 x.slo, .int .i64 x.shi, .int .i64 x.ch]) (hk : ∀ W, S W → W.cell? ⟨b, o + qk.toNat * 4 + 2, none⟩ = some (.int .i64 k.plo) ∧ W.cell? ⟨b, o + qk.toNat * 4 + 3, none⟩ = some (.int .i64 k.phi)) (hb0 : inB t.pull k.plo k.phi = true) (hb1 : inB t.flow x.flo x.fhi = true) (hb2 : inB t.rise x.rlo x.rhi = false) {Q : Exit → Act → World → Prop} {s0 s2 s3 s5 s10 s11 s12 s13 s14 s15 : Value} {W0 : World} (HL : Hid (S W0))
    (HQ : Hid (∀ (u : Nat → Value) (W : World), S W → Q .normal ⟨#[s0, .int .i64 qk, s2, s3, .pointer (some ⟨P, 0, none⟩), s5, .pointer (some ⟨C, 0, none⟩), .pointer (some ⟨T0, 0, none⟩), .bool false, .pointer (some ⟨Gw, 0, none⟩), s10, s11, s12, s13, s14, s15, u 0, u 1, u 2, u 3, u 4, u 5, u 6, u 7, u 8, u 9, u 10, u 11, u 12, u 13, u 14, u 15, u 16, u 17, u 18, u 19, u 20, u 21, u 22, u 23, u 24, u 25, u 26, u 27, u 28, u 29, u 30, u 31, u 32, u 33, u 34, u 35, u 36, u 37, u 38, u 39, u 40, u 41, u 42, u 43, u 44, u 45, u 46], []⟩ W)) :
    Code.wp Try.prog ((Try.f53.body.bind (regionAt 2)).getD .skip) Q ⟨#[s0, .int .i64 qk, s2, s3, .pointer (some ⟨P, 0, none⟩), s5, .pointer (some ⟨C, 0, none⟩), .pointer (some ⟨T0, 0, none⟩), .bool false, .pointer (some ⟨Gw, 0, none⟩), s10, s11, s12, s13, s14, s15, undef, undef, undef, undef, undef, undef, undef, undef, undef, undef, undef, undef, undef, undef, undef, undef, undef, undef, undef, undef, undef, undef, undef, undef, undef, undef, undef, undef, undef, undef, undef, undef, undef, undef, undef, undef, undef, undef, undef, undef, undef, undef, undef, undef, undef, undef, undef], []⟩ W0 := by
  conv => arg 2; whnf
  refine wp_region_spec (by kernel_rfl) 48 (by kernel_rfl) (fun u => ⟨#[s0, .int .i64 qk, s2, s3, .pointer (some ⟨P, 0, none⟩), s5, .pointer (some ⟨C, 0, none⟩), .pointer (some ⟨T0, 0, none⟩), u 47, .pointer (some ⟨Gw, 0, none⟩), s10, s11, s12, s13, s14, s15, u 0, u 1, u 2, u 3, u 4, u 5, u 6, u 7, u 8, u 9, u 10, u 11, u 12, u 13, u 14, u 15, u 16, u 17, u 18, u 19, u 20, u 21, u 22, u 23, u 24, u 25, u 26, u 27, u 28, u 29, u 30, u 31, u 32, u 33, u 34, u 35, u 36, u 37, u 38, u 39, u 40, u 41, u 42, u 43, u 44, u 45, u 46], []⟩) (fun i => if i = 47 then .bool false else undef) (fun W => Hid (S W)) (rt2R P C T0 Gw b o xb xo qk p c k x t) (by kernel_rfl) (hon _ _ HL.out (Below.refl _ _).drew) (fun i v W W2 hi h hb => rt2R_on P C T0 Gw b o xb xo qk p c k x t i hi v W W2 h hb) (by decide +kernel) ?_ ?_
  · iterate 48 (refine all_succ ?_ ?_)
    · exact all_zero
    · intro u W hB _ hd _ K hK
      have HK := Lib.hid hK; clear hK
      refine wpOp_of rfl (by rfl) ?_
      go_simp
      exact k_of (HK.out (.pointer (some ⟨T0, 0, none⟩)) _ rfl hB (Below.refl _ _)) (by kernel_rfl)
    · intro u W hB _ hd _ K hK
      have HK := Lib.hid hK; clear hK
      have e0 : u 0 = .pointer (some ⟨T0, 0, none⟩) := hd 0 (by decide +kernel)
      refine wpOp_of rfl (by rfl) ?_
      have z0 := (hT W hB.out).cell 0
      go_simp
      exact k_of (HK.out (.int .i64 t.pull) _ rfl hB (Below.refl _ _)) (by rw [← u1_eq e0]; kernel_rfl)
    · intro u W hB _ hd _ K hK
      have HK := Lib.hid hK; clear hK
      refine wpOp_of rfl (by rfl) ?_
      go_simp
      exact k_of (HK.out (.pointer (some ⟨P, 0, none⟩)) _ rfl hB (Below.refl _ _)) (by kernel_rfl)
    · intro u W hB _ hd _ K hK
      have HK := Lib.hid hK; clear hK
      have e2 : u 2 = .pointer (some ⟨P, 0, none⟩) := hd 2 (by decide +kernel)
      refine wpOp_of rfl (by rfl) ?_
      have z0 := (hP W hB.out).cell 0
      go_simp
      exact k_of (HK.out (.slice (some ⟨b, o, none⟩) p.s.ks.length p.kc) _ rfl hB (Below.refl _ _)) (by rw [← u1_eq e2]; kernel_rfl)
    · intro u W hB _ hd _ K hK
      have HK := Lib.hid hK; clear hK
      refine wpOp_of rfl (by rfl) ?_
      go_simp
      exact k_of (HK.out (.int .i64 qk) _ rfl hB (Below.refl _ _)) (by kernel_rfl)
    · intro u W hB _ hd _ K hK
      have HK := Lib.hid hK; clear hK
      have e3 : u 3 = .slice (some ⟨b, o, none⟩) p.s.ks.length p.kc := hd 3 (by decide +kernel)
      have e4 : u 4 = .int .i64 qk := hd 4 (by decide +kernel)
      refine wpOp_of rfl (by rfl) ?_
      go_simp
      exact k_of (HK.out (.pointer (some ⟨b, o + qk.toNat * 4, none⟩)) _ rfl hB (Below.refl _ _)) (by rw [← u1_eq e3, ← u1_eq e4]; kernel_rfl)
    · intro u W hB _ hd _ K hK
      have HK := Lib.hid hK; clear hK
      have e5 : u 5 = .pointer (some ⟨b, o + qk.toNat * 4, none⟩) := hd 5 (by decide +kernel)
      refine wpOp_of rfl (by rfl) ?_
      go_simp
      exact k_of (HK.out (.pointer (some ⟨b, o + qk.toNat * 4 + 2, none⟩)) _ rfl hB (Below.refl _ _)) (by rw [← u1_eq e5]; kernel_rfl)
    · intro u W hB _ hd _ K hK
      have HK := Lib.hid hK; clear hK
      have e6 : u 6 = .pointer (some ⟨b, o + qk.toNat * 4 + 2, none⟩) := hd 6 (by decide +kernel)
      refine wpOp_of rfl (by rfl) ?_
      obtain ⟨z0, z1⟩ := hk W hB.out
      go_simp
      exact k_of (HK.out (.agg #[.int .i64 k.plo, .int .i64 k.phi]) _ rfl hB (Below.refl _ _)) (by rw [← u1_eq e6]; kernel_rfl)
    · intro u W hB _ hd _ K hK
      have HK := Lib.hid hK; clear hK
      have e1 : u 1 = .int .i64 t.pull := hd 1 (by decide +kernel)
      have e7 : u 7 = .agg #[.int .i64 k.plo, .int .i64 k.phi] := hd 7 (by decide +kernel)
      refine wpOp_of rfl (by rfl) ?_
      go_simp
      refine (rat_any _ _ _ _).mono ?_; simp only [hb0]
      rintro e w' ⟨rfl, hb⟩
      exact k_of (HK.out (.bool true) _ rfl (hon _ _ hB.out hb) hb) (by rw [← u1_eq e1, ← u1_eq e7]; kernel_rfl)
    · intro u W hB _ hd _ K hK
      have HK := Lib.hid hK; clear hK
      have e8 : u 8 = .bool true := hd 8 (by decide +kernel)
      refine wpOp_of rfl (by rfl) ?_
      go_simp
      exact k_of (HK.out (.bool true) _ rfl hB (Below.refl _ _)) (by rw [← u1_eq e8]; kernel_rfl)
    · intro u W hB _ hd _ K hK
      have HK := Lib.hid hK; clear hK
      have e9 : u 9 = .bool true := hd 9 (by decide +kernel)
      refine wpOp_of rfl (by rw [← u1_eq e9]; kernel_rfl) ?_
      go_simp
      exact k_of (HK.out (.pointer (some ⟨T0, 1, none⟩)) _ rfl hB (Below.refl _ _)) (by rw [← u1_eq e9]; kernel_rfl)
    · intro u W hB _ hd _ K hK
      have HK := Lib.hid hK; clear hK
      have e9 : u 9 = .bool true := hd 9 (by decide +kernel)
      have e10 : u 10 = .pointer (some ⟨T0, 1, none⟩) := hd 10 (by decide +kernel)
      refine wpOp_of rfl (by rw [← u1_eq e9]; kernel_rfl) ?_
      have z1 := (hT W hB.out).cell 1
      go_simp
      exact k_of (HK.out (.int .i64 t.flow) _ rfl hB (Below.refl _ _)) (by rw [← u1_eq e9, ← u1_eq e10]; kernel_rfl)
    · intro u W hB _ hd _ K hK
      have HK := Lib.hid hK; clear hK
      have e9 : u 9 = .bool true := hd 9 (by decide +kernel)
      refine wpOp_of rfl (by rw [← u1_eq e9]; kernel_rfl) ?_
      go_simp
      exact k_of (HK.out (.pointer (some ⟨Gw, 1, none⟩)) _ rfl hB (Below.refl _ _)) (by rw [← u1_eq e9]; kernel_rfl)
    · intro u W hB _ hd _ K hK
      have HK := Lib.hid hK; clear hK
      have e9 : u 9 = .bool true := hd 9 (by decide +kernel)
      have e12 : u 12 = .pointer (some ⟨Gw, 1, none⟩) := hd 12 (by decide +kernel)
      refine wpOp_of rfl (by rw [← u1_eq e9]; kernel_rfl) ?_
      have z1 := (hG W hB.out).cell 1; have z2 := (hG W hB.out).cell 2
      go_simp
      exact k_of (HK.out (.agg #[.int .i64 x.flo, .int .i64 x.fhi]) _ rfl hB (Below.refl _ _)) (by rw [← u1_eq e9, ← u1_eq e12]; kernel_rfl)
    · intro u W hB _ hd _ K hK
      have HK := Lib.hid hK; clear hK
      have e9 : u 9 = .bool true := hd 9 (by decide +kernel)
      have e11 : u 11 = .int .i64 t.flow := hd 11 (by decide +kernel)
      have e13 : u 13 = .agg #[.int .i64 x.flo, .int .i64 x.fhi] := hd 13 (by decide +kernel)
      refine wpOp_of rfl (by rw [← u1_eq e9]; kernel_rfl) ?_
      go_simp
      refine (rat_any _ _ _ _).mono ?_; simp only [hb1]
      rintro e w' ⟨rfl, hb⟩
      exact k_of (HK.out (.bool true) _ rfl (hon _ _ hB.out hb) hb) (by rw [← u1_eq e9, ← u1_eq e11, ← u1_eq e13]; kernel_rfl)
    · intro u W hB _ hd _ K hK
      have HK := Lib.hid hK; clear hK
      have e9 : u 9 = .bool true := hd 9 (by decide +kernel)
      have e14 : u 14 = .bool true := hd 14 (by decide +kernel)
      refine wpOp_of rfl (by rfl) ?_
      go_simp
      exact k_of (HK.out (.bool true) _ rfl hB (Below.refl _ _)) (by rw [← u1_eq e9, ← u1_eq e14]; kernel_rfl)
    · intro u W hB _ hd _ K hK
      have HK := Lib.hid hK; clear hK
      have e15 : u 15 = .bool true := hd 15 (by decide +kernel)
      refine wpOp_of rfl (by rfl) ?_
      go_simp
      exact k_of (HK.out (.bool true) _ rfl hB (Below.refl _ _)) (by rw [← u1_eq e15]; kernel_rfl)
    · intro u W hB _ hd _ K hK
      have HK := Lib.hid hK; clear hK
      have e16 : u 16 = .bool true := hd 16 (by decide +kernel)
      refine wpOp_of rfl (by rw [← u1_eq e16]; kernel_rfl) ?_
      go_simp
      exact k_of (HK.out (.pointer (some ⟨T0, 2, none⟩)) _ rfl hB (Below.refl _ _)) (by rw [← u1_eq e16]; kernel_rfl)
    · intro u W hB _ hd _ K hK
      have HK := Lib.hid hK; clear hK
      have e16 : u 16 = .bool true := hd 16 (by decide +kernel)
      have e17 : u 17 = .pointer (some ⟨T0, 2, none⟩) := hd 17 (by decide +kernel)
      refine wpOp_of rfl (by rw [← u1_eq e16]; kernel_rfl) ?_
      have z2 := (hT W hB.out).cell 2
      go_simp
      exact k_of (HK.out (.int .i64 t.rise) _ rfl hB (Below.refl _ _)) (by rw [← u1_eq e16, ← u1_eq e17]; kernel_rfl)
    · intro u W hB _ hd _ K hK
      have HK := Lib.hid hK; clear hK
      have e16 : u 16 = .bool true := hd 16 (by decide +kernel)
      refine wpOp_of rfl (by rw [← u1_eq e16]; kernel_rfl) ?_
      go_simp
      exact k_of (HK.out (.pointer (some ⟨Gw, 3, none⟩)) _ rfl hB (Below.refl _ _)) (by rw [← u1_eq e16]; kernel_rfl)
    · intro u W hB _ hd _ K hK
      have HK := Lib.hid hK; clear hK
      have e16 : u 16 = .bool true := hd 16 (by decide +kernel)
      have e19 : u 19 = .pointer (some ⟨Gw, 3, none⟩) := hd 19 (by decide +kernel)
      refine wpOp_of rfl (by rw [← u1_eq e16]; kernel_rfl) ?_
      have z3 := (hG W hB.out).cell 3; have z4 := (hG W hB.out).cell 4
      go_simp
      exact k_of (HK.out (.agg #[.int .i64 x.rlo, .int .i64 x.rhi]) _ rfl hB (Below.refl _ _)) (by rw [← u1_eq e16, ← u1_eq e19]; kernel_rfl)
    · intro u W hB _ hd _ K hK
      have HK := Lib.hid hK; clear hK
      have e16 : u 16 = .bool true := hd 16 (by decide +kernel)
      have e18 : u 18 = .int .i64 t.rise := hd 18 (by decide +kernel)
      have e20 : u 20 = .agg #[.int .i64 x.rlo, .int .i64 x.rhi] := hd 20 (by decide +kernel)
      refine wpOp_of rfl (by rw [← u1_eq e16]; kernel_rfl) ?_
      go_simp
      refine (rat_any _ _ _ _).mono ?_; simp only [hb2]
      rintro e w' ⟨rfl, hb⟩
      exact k_of (HK.out (.bool false) _ rfl (hon _ _ hB.out hb) hb) (by rw [← u1_eq e16, ← u1_eq e18, ← u1_eq e20]; kernel_rfl)
    · intro u W hB _ hd _ K hK
      have HK := Lib.hid hK; clear hK
      have e16 : u 16 = .bool true := hd 16 (by decide +kernel)
      have e21 : u 21 = .bool false := hd 21 (by decide +kernel)
      refine wpOp_of rfl (by rfl) ?_
      go_simp
      exact k_of (HK.out (.bool false) _ rfl hB (Below.refl _ _)) (by rw [← u1_eq e16, ← u1_eq e21]; kernel_rfl)
    · intro u W hB _ hd _ K hK
      have HK := Lib.hid hK; clear hK
      have e22 : u 22 = .bool false := hd 22 (by decide +kernel)
      refine wpOp_of rfl (by rfl) ?_
      go_simp
      exact k_of (HK.out (.bool false) _ rfl hB (Below.refl _ _)) (by rw [← u1_eq e22]; kernel_rfl)
    · intro u W hB _ hd _ K hK
      have HK := Lib.hid hK; clear hK
      have e23 : u 23 = .bool false := hd 23 (by decide +kernel)
      refine wpOp_skip rfl (by rw [← u1_eq e23]; kernel_rfl) ?_
      exact k_of (HK.out undef _ rfl hB (Below.refl _ _)) (by rw [← u1_eq e23]; kernel_rfl)
    · intro u W hB _ hd _ K hK
      have HK := Lib.hid hK; clear hK
      have e23 : u 23 = .bool false := hd 23 (by decide +kernel)
      refine wpOp_skip rfl (by rw [← u1_eq e23]; kernel_rfl) ?_
      exact k_of (HK.out undef _ rfl hB (Below.refl _ _)) (by rw [← u1_eq e23]; kernel_rfl)
    · intro u W hB _ hd _ K hK
      have HK := Lib.hid hK; clear hK
      have e23 : u 23 = .bool false := hd 23 (by decide +kernel)
      refine wpOp_skip rfl (by rw [← u1_eq e23]; kernel_rfl) ?_
      exact k_of (HK.out undef _ rfl hB (Below.refl _ _)) (by rw [← u1_eq e23]; kernel_rfl)
    · intro u W hB _ hd _ K hK
      have HK := Lib.hid hK; clear hK
      have e23 : u 23 = .bool false := hd 23 (by decide +kernel)
      refine wpOp_skip rfl (by rw [← u1_eq e23]; kernel_rfl) ?_
      exact k_of (HK.out undef _ rfl hB (Below.refl _ _)) (by rw [← u1_eq e23]; kernel_rfl)
    · intro u W hB _ hd _ K hK
      have HK := Lib.hid hK; clear hK
      have e23 : u 23 = .bool false := hd 23 (by decide +kernel)
      refine wpOp_skip rfl (by rw [← u1_eq e23]; kernel_rfl) ?_
      exact k_of (HK.out undef _ rfl hB (Below.refl _ _)) (by rw [← u1_eq e23]; kernel_rfl)
    · intro u W hB _ hd _ K hK
      have HK := Lib.hid hK; clear hK
      have e23 : u 23 = .bool false := hd 23 (by decide +kernel)
      have e28 : u 28 = undef := hd 28 (by decide +kernel)
      refine wpOp_of rfl (by rfl) ?_
      go_simp
      exact k_of (HK.out (.bool false) _ rfl hB (Below.refl _ _)) (by rw [← u1_eq e23, ← u1_eq e28]; kernel_rfl)
    · intro u W hB _ hd _ K hK
      have HK := Lib.hid hK; clear hK
      have e29 : u 29 = .bool false := hd 29 (by decide +kernel)
      refine wpOp_of rfl (by rfl) ?_
      go_simp
      exact k_of (HK.out (.bool false) _ rfl hB (Below.refl _ _)) (by rw [← u1_eq e29]; kernel_rfl)
    · intro u W hB _ hd _ K hK
      have HK := Lib.hid hK; clear hK
      have e30 : u 30 = .bool false := hd 30 (by decide +kernel)
      refine wpOp_skip rfl (by rw [← u1_eq e30]; kernel_rfl) ?_
      exact k_of (HK.out undef _ rfl hB (Below.refl _ _)) (by rw [← u1_eq e30]; kernel_rfl)
    · intro u W hB _ hd _ K hK
      have HK := Lib.hid hK; clear hK
      have e30 : u 30 = .bool false := hd 30 (by decide +kernel)
      refine wpOp_skip rfl (by rw [← u1_eq e30]; kernel_rfl) ?_
      exact k_of (HK.out undef _ rfl hB (Below.refl _ _)) (by rw [← u1_eq e30]; kernel_rfl)
    · intro u W hB _ hd _ K hK
      have HK := Lib.hid hK; clear hK
      have e30 : u 30 = .bool false := hd 30 (by decide +kernel)
      refine wpOp_skip rfl (by rw [← u1_eq e30]; kernel_rfl) ?_
      exact k_of (HK.out undef _ rfl hB (Below.refl _ _)) (by rw [← u1_eq e30]; kernel_rfl)
    · intro u W hB _ hd _ K hK
      have HK := Lib.hid hK; clear hK
      have e30 : u 30 = .bool false := hd 30 (by decide +kernel)
      refine wpOp_skip rfl (by rw [← u1_eq e30]; kernel_rfl) ?_
      exact k_of (HK.out undef _ rfl hB (Below.refl _ _)) (by rw [← u1_eq e30]; kernel_rfl)
    · intro u W hB _ hd _ K hK
      have HK := Lib.hid hK; clear hK
      have e30 : u 30 = .bool false := hd 30 (by decide +kernel)
      refine wpOp_skip rfl (by rw [← u1_eq e30]; kernel_rfl) ?_
      exact k_of (HK.out undef _ rfl hB (Below.refl _ _)) (by rw [← u1_eq e30]; kernel_rfl)
    · intro u W hB _ hd _ K hK
      have HK := Lib.hid hK; clear hK
      have e30 : u 30 = .bool false := hd 30 (by decide +kernel)
      refine wpOp_skip rfl (by rw [← u1_eq e30]; kernel_rfl) ?_
      exact k_of (HK.out undef _ rfl hB (Below.refl _ _)) (by rw [← u1_eq e30]; kernel_rfl)
    · intro u W hB _ hd _ K hK
      have HK := Lib.hid hK; clear hK
      have e30 : u 30 = .bool false := hd 30 (by decide +kernel)
      refine wpOp_skip rfl (by rw [← u1_eq e30]; kernel_rfl) ?_
      exact k_of (HK.out undef _ rfl hB (Below.refl _ _)) (by rw [← u1_eq e30]; kernel_rfl)
    · intro u W hB _ hd _ K hK
      have HK := Lib.hid hK; clear hK
      have e30 : u 30 = .bool false := hd 30 (by decide +kernel)
      refine wpOp_skip rfl (by rw [← u1_eq e30]; kernel_rfl) ?_
      exact k_of (HK.out undef _ rfl hB (Below.refl _ _)) (by rw [← u1_eq e30]; kernel_rfl)
    · intro u W hB _ hd _ K hK
      have HK := Lib.hid hK; clear hK
      have e30 : u 30 = .bool false := hd 30 (by decide +kernel)
      have e38 : u 38 = undef := hd 38 (by decide +kernel)
      refine wpOp_of rfl (by rfl) ?_
      go_simp
      exact k_of (HK.out (.bool false) _ rfl hB (Below.refl _ _)) (by rw [← u1_eq e30, ← u1_eq e38]; kernel_rfl)
    · intro u W hB _ hd _ K hK
      have HK := Lib.hid hK; clear hK
      have e39 : u 39 = .bool false := hd 39 (by decide +kernel)
      refine wpOp_of rfl (by rfl) ?_
      go_simp
      exact k_of (HK.out (.bool false) _ rfl hB (Below.refl _ _)) (by rw [← u1_eq e39]; kernel_rfl)
    · intro u W hB _ hd _ K hK
      have HK := Lib.hid hK; clear hK
      have e40 : u 40 = .bool false := hd 40 (by decide +kernel)
      refine wpOp_skip rfl (by rw [← u1_eq e40]; kernel_rfl) ?_
      exact k_of (HK.out undef _ rfl hB (Below.refl _ _)) (by rw [← u1_eq e40]; kernel_rfl)
    · intro u W hB _ hd _ K hK
      have HK := Lib.hid hK; clear hK
      have e40 : u 40 = .bool false := hd 40 (by decide +kernel)
      refine wpOp_skip rfl (by rw [← u1_eq e40]; kernel_rfl) ?_
      exact k_of (HK.out undef _ rfl hB (Below.refl _ _)) (by rw [← u1_eq e40]; kernel_rfl)
    · intro u W hB _ hd _ K hK
      have HK := Lib.hid hK; clear hK
      have e40 : u 40 = .bool false := hd 40 (by decide +kernel)
      refine wpOp_skip rfl (by rw [← u1_eq e40]; kernel_rfl) ?_
      exact k_of (HK.out undef _ rfl hB (Below.refl _ _)) (by rw [← u1_eq e40]; kernel_rfl)
    · intro u W hB _ hd _ K hK
      have HK := Lib.hid hK; clear hK
      have e40 : u 40 = .bool false := hd 40 (by decide +kernel)
      refine wpOp_skip rfl (by rw [← u1_eq e40]; kernel_rfl) ?_
      exact k_of (HK.out undef _ rfl hB (Below.refl _ _)) (by rw [← u1_eq e40]; kernel_rfl)
    · intro u W hB _ hd _ K hK
      have HK := Lib.hid hK; clear hK
      have e40 : u 40 = .bool false := hd 40 (by decide +kernel)
      refine wpOp_skip rfl (by rw [← u1_eq e40]; kernel_rfl) ?_
      exact k_of (HK.out undef _ rfl hB (Below.refl _ _)) (by rw [← u1_eq e40]; kernel_rfl)
    · intro u W hB _ hd _ K hK
      have HK := Lib.hid hK; clear hK
      have e40 : u 40 = .bool false := hd 40 (by decide +kernel)
      have e45 : u 45 = undef := hd 45 (by decide +kernel)
      refine wpOp_of rfl (by rfl) ?_
      go_simp
      exact k_of (HK.out (.bool false) _ rfl hB (Below.refl _ _)) (by rw [← u1_eq e40, ← u1_eq e45]; kernel_rfl)
    · intro u W hB _ hd _ K hK
      have HK := Lib.hid hK; clear hK
      have e46 : u 46 = .bool false := hd 46 (by decide +kernel)
      refine wpOp_of rfl (by rfl) ?_
      go_simp
      exact k_of (HK.out (.bool false) _ rfl hB (Below.refl _ _)) (by rw [← u1_eq e46]; kernel_rfl)
  · intro u W hB hd
    have e47 : u 47 = .bool false := hd 47 (by decide)
    exact k_of (HQ.out u W hB.out) (by simp only [e47])

/-- What each operation leaves. -/
def rt3R (P _C T0 Gw b o _xb _xo : Nat) (qk : Int) (p : Sp) (_c : Cd) (k : Wk) (x : Wx) (t : Tu) : Nat → Value → World → Prop
  | 0, v, _ => v = .pointer (some ⟨T0, 0, none⟩)
  | 1, v, _ => v = .int .i64 t.pull
  | 2, v, _ => v = .pointer (some ⟨P, 0, none⟩)
  | 3, v, _ => v = .slice (some ⟨b, o, none⟩) p.s.ks.length p.kc
  | 4, v, _ => v = .int .i64 qk
  | 5, v, _ => v = .pointer (some ⟨b, o + qk.toNat * 4, none⟩)
  | 6, v, _ => v = .pointer (some ⟨b, o + qk.toNat * 4 + 2, none⟩)
  | 7, v, _ => v = .agg #[.int .i64 k.plo, .int .i64 k.phi]
  | 8, v, _ => v = .bool true
  | 9, v, _ => v = .bool true
  | 10, v, _ => v = .pointer (some ⟨T0, 1, none⟩)
  | 11, v, _ => v = .int .i64 t.flow
  | 12, v, _ => v = .pointer (some ⟨Gw, 1, none⟩)
  | 13, v, _ => v = .agg #[.int .i64 x.flo, .int .i64 x.fhi]
  | 14, v, _ => v = .bool true
  | 15, v, _ => v = .bool true
  | 16, v, _ => v = .bool true
  | 17, v, _ => v = .pointer (some ⟨T0, 2, none⟩)
  | 18, v, _ => v = .int .i64 t.rise
  | 19, v, _ => v = .pointer (some ⟨Gw, 3, none⟩)
  | 20, v, _ => v = .agg #[.int .i64 x.rlo, .int .i64 x.rhi]
  | 21, v, _ => v = .bool true
  | 22, v, _ => v = .bool true
  | 23, v, _ => v = .bool true
  | 24, v, _ => v = .pointer (some ⟨T0, 3, none⟩)
  | 25, v, _ => v = .int .i64 t.spr
  | 26, v, _ => v = .pointer (some ⟨Gw, 5, none⟩)
  | 27, v, _ => v = .agg #[.int .i64 x.slo, .int .i64 x.shi]
  | 28, v, _ => v = .bool false
  | 29, v, _ => v = .bool false
  | 30, v, _ => v = .bool false
  | 31, v, _ => v = undef
  | 32, v, _ => v = undef
  | 33, v, _ => v = undef
  | 34, v, _ => v = undef
  | 35, v, _ => v = undef
  | 36, v, _ => v = undef
  | 37, v, _ => v = undef
  | 38, v, _ => v = undef
  | 39, v, _ => v = .bool false
  | 40, v, _ => v = .bool false
  | 41, v, _ => v = undef
  | 42, v, _ => v = undef
  | 43, v, _ => v = undef
  | 44, v, _ => v = undef
  | 45, v, _ => v = undef
  | 46, v, _ => v = .bool false
  | 47, v, _ => v = .bool false
  | _, _, _ => True
theorem rt3R_on (P C T0 Gw b o xb xo : Nat) (qk : Int) (p : Sp) (c : Cd) (k : Wk) (x : Wx) (t : Tu) : ∀ i, i < 48 → ∀ v W W', rt3R P C T0 Gw b o xb xo qk p c k x t i v W → Below W.heap.size W W' → rt3R P C T0 Gw b o xb xo qk p c k x t i v W' := by
  iterate 48 (refine all_succ ?_ ?_)
  · exact all_zero
  · exact fun _ _ _ h _ => h
  · exact fun _ _ _ h _ => h
  · exact fun _ _ _ h _ => h
  · exact fun _ _ _ h _ => h
  · exact fun _ _ _ h _ => h
  · exact fun _ _ _ h _ => h
  · exact fun _ _ _ h _ => h
  · exact fun _ _ _ h _ => h
  · exact fun _ _ _ h _ => h
  · exact fun _ _ _ h _ => h
  · exact fun _ _ _ h _ => h
  · exact fun _ _ _ h _ => h
  · exact fun _ _ _ h _ => h
  · exact fun _ _ _ h _ => h
  · exact fun _ _ _ h _ => h
  · exact fun _ _ _ h _ => h
  · exact fun _ _ _ h _ => h
  · exact fun _ _ _ h _ => h
  · exact fun _ _ _ h _ => h
  · exact fun _ _ _ h _ => h
  · exact fun _ _ _ h _ => h
  · exact fun _ _ _ h _ => h
  · exact fun _ _ _ h _ => h
  · exact fun _ _ _ h _ => h
  · exact fun _ _ _ h _ => h
  · exact fun _ _ _ h _ => h
  · exact fun _ _ _ h _ => h
  · exact fun _ _ _ h _ => h
  · exact fun _ _ _ h _ => h
  · exact fun _ _ _ h _ => h
  · exact fun _ _ _ h _ => h
  · exact fun _ _ _ h _ => h
  · exact fun _ _ _ h _ => h
  · exact fun _ _ _ h _ => h
  · exact fun _ _ _ h _ => h
  · exact fun _ _ _ h _ => h
  · exact fun _ _ _ h _ => h
  · exact fun _ _ _ h _ => h
  · exact fun _ _ _ h _ => h
  · exact fun _ _ _ h _ => h
  · exact fun _ _ _ h _ => h
  · exact fun _ _ _ h _ => h
  · exact fun _ _ _ h _ => h
  · exact fun _ _ _ h _ => h
  · exact fun _ _ _ h _ => h
  · exact fun _ _ _ h _ => h
  · exact fun _ _ _ h _ => h
  · exact fun _ _ _ h _ => h
set_option maxRecDepth 100000 in
set_option maxHeartbeats 8000000 in
theorem rt3_region {S : World → Prop} (hon : ∀ W W', S W → Below W.heap.size W W' → S W') {P C T0 Gw b o xb xo : Nat} {qk : Int} {p : Sp} {c : Cd} {k : Wk} {x : Wx} {t : Tu} (h0 : 0 ≤ qk) (hq : qk < p.s.ks.length) (_hwr : IntKind.i64.wrap (-c.dra) = -c.dra) (hP : ∀ W, S W → Blk W P 27 #[.slice (some ⟨b, o, none⟩) p.s.ks.length p.kc, .slice (some ⟨xb, xo, none⟩) p.s.xs.length p.xc, .int .i64 p.s.flo, .int .i64 p.s.fhi, .int .i64 p.s.plo, .int .i64 p.s.phi]) (_hC : ∀ W, S W → Blk W C 34 #[.int .i64 c.wax, .int .i64 c.dia, .int .i64 c.dra, .int .i64 c.clo, .int .i64 c.chi]) (hT : ∀ W, S W → Blk W T0 36 #[.int .i64 t.pull, .int .i64 t.flow, .int .i64 t.rise, .int .i64 t.spr, .int .i64 t.dra, .int .i64 t.cold]) (hG : ∀ W, S W → Blk W Gw 80 #[.string x.nm, .int .i64 x.flo, .int .i64 x.fhi, .int .i64 x.rlo, .int .i64 x.rhi, .int .i64 x.slo, .int .i64 x.shi, .int .i64 x.ch]) (hk : ∀ W, S W → W.cell? ⟨b, o + qk.toNat * 4 + 2, none⟩ = some (.int .i64 k.plo) ∧ W.cell? ⟨b, o + qk.toNat * 4 + 3, none⟩ = some (.int .i64 k.phi)) (hb0 : inB t.pull k.plo k.phi = true) (hb1 : inB t.flow x.flo x.fhi = true) (hb2 : inB t.rise x.rlo x.rhi = true) (hb3 : inB t.spr x.slo x.shi = false) {Q : Exit → Act → World → Prop} {s0 s2 s3 s5 s10 s11 s12 s13 s14 s15 : Value} {W0 : World} (HL : Hid (S W0))
    (HQ : Hid (∀ (u : Nat → Value) (W : World), S W → Q .normal ⟨#[s0, .int .i64 qk, s2, s3, .pointer (some ⟨P, 0, none⟩), s5, .pointer (some ⟨C, 0, none⟩), .pointer (some ⟨T0, 0, none⟩), .bool false, .pointer (some ⟨Gw, 0, none⟩), s10, s11, s12, s13, s14, s15, u 0, u 1, u 2, u 3, u 4, u 5, u 6, u 7, u 8, u 9, u 10, u 11, u 12, u 13, u 14, u 15, u 16, u 17, u 18, u 19, u 20, u 21, u 22, u 23, u 24, u 25, u 26, u 27, u 28, u 29, u 30, u 31, u 32, u 33, u 34, u 35, u 36, u 37, u 38, u 39, u 40, u 41, u 42, u 43, u 44, u 45, u 46], []⟩ W)) :
    Code.wp Try.prog ((Try.f53.body.bind (regionAt 2)).getD .skip) Q ⟨#[s0, .int .i64 qk, s2, s3, .pointer (some ⟨P, 0, none⟩), s5, .pointer (some ⟨C, 0, none⟩), .pointer (some ⟨T0, 0, none⟩), .bool false, .pointer (some ⟨Gw, 0, none⟩), s10, s11, s12, s13, s14, s15, undef, undef, undef, undef, undef, undef, undef, undef, undef, undef, undef, undef, undef, undef, undef, undef, undef, undef, undef, undef, undef, undef, undef, undef, undef, undef, undef, undef, undef, undef, undef, undef, undef, undef, undef, undef, undef, undef, undef, undef, undef, undef, undef, undef, undef, undef, undef], []⟩ W0 := by
  conv => arg 2; whnf
  refine wp_region_spec (by kernel_rfl) 48 (by kernel_rfl) (fun u => ⟨#[s0, .int .i64 qk, s2, s3, .pointer (some ⟨P, 0, none⟩), s5, .pointer (some ⟨C, 0, none⟩), .pointer (some ⟨T0, 0, none⟩), u 47, .pointer (some ⟨Gw, 0, none⟩), s10, s11, s12, s13, s14, s15, u 0, u 1, u 2, u 3, u 4, u 5, u 6, u 7, u 8, u 9, u 10, u 11, u 12, u 13, u 14, u 15, u 16, u 17, u 18, u 19, u 20, u 21, u 22, u 23, u 24, u 25, u 26, u 27, u 28, u 29, u 30, u 31, u 32, u 33, u 34, u 35, u 36, u 37, u 38, u 39, u 40, u 41, u 42, u 43, u 44, u 45, u 46], []⟩) (fun i => if i = 47 then .bool false else undef) (fun W => Hid (S W)) (rt3R P C T0 Gw b o xb xo qk p c k x t) (by kernel_rfl) (hon _ _ HL.out (Below.refl _ _).drew) (fun i v W W2 hi h hb => rt3R_on P C T0 Gw b o xb xo qk p c k x t i hi v W W2 h hb) (by decide +kernel) ?_ ?_
  · iterate 48 (refine all_succ ?_ ?_)
    · exact all_zero
    · intro u W hB _ hd _ K hK
      have HK := Lib.hid hK; clear hK
      refine wpOp_of rfl (by rfl) ?_
      go_simp
      exact k_of (HK.out (.pointer (some ⟨T0, 0, none⟩)) _ rfl hB (Below.refl _ _)) (by kernel_rfl)
    · intro u W hB _ hd _ K hK
      have HK := Lib.hid hK; clear hK
      have e0 : u 0 = .pointer (some ⟨T0, 0, none⟩) := hd 0 (by decide +kernel)
      refine wpOp_of rfl (by rfl) ?_
      have z0 := (hT W hB.out).cell 0
      go_simp
      exact k_of (HK.out (.int .i64 t.pull) _ rfl hB (Below.refl _ _)) (by rw [← u1_eq e0]; kernel_rfl)
    · intro u W hB _ hd _ K hK
      have HK := Lib.hid hK; clear hK
      refine wpOp_of rfl (by rfl) ?_
      go_simp
      exact k_of (HK.out (.pointer (some ⟨P, 0, none⟩)) _ rfl hB (Below.refl _ _)) (by kernel_rfl)
    · intro u W hB _ hd _ K hK
      have HK := Lib.hid hK; clear hK
      have e2 : u 2 = .pointer (some ⟨P, 0, none⟩) := hd 2 (by decide +kernel)
      refine wpOp_of rfl (by rfl) ?_
      have z0 := (hP W hB.out).cell 0
      go_simp
      exact k_of (HK.out (.slice (some ⟨b, o, none⟩) p.s.ks.length p.kc) _ rfl hB (Below.refl _ _)) (by rw [← u1_eq e2]; kernel_rfl)
    · intro u W hB _ hd _ K hK
      have HK := Lib.hid hK; clear hK
      refine wpOp_of rfl (by rfl) ?_
      go_simp
      exact k_of (HK.out (.int .i64 qk) _ rfl hB (Below.refl _ _)) (by kernel_rfl)
    · intro u W hB _ hd _ K hK
      have HK := Lib.hid hK; clear hK
      have e3 : u 3 = .slice (some ⟨b, o, none⟩) p.s.ks.length p.kc := hd 3 (by decide +kernel)
      have e4 : u 4 = .int .i64 qk := hd 4 (by decide +kernel)
      refine wpOp_of rfl (by rfl) ?_
      go_simp
      exact k_of (HK.out (.pointer (some ⟨b, o + qk.toNat * 4, none⟩)) _ rfl hB (Below.refl _ _)) (by rw [← u1_eq e3, ← u1_eq e4]; kernel_rfl)
    · intro u W hB _ hd _ K hK
      have HK := Lib.hid hK; clear hK
      have e5 : u 5 = .pointer (some ⟨b, o + qk.toNat * 4, none⟩) := hd 5 (by decide +kernel)
      refine wpOp_of rfl (by rfl) ?_
      go_simp
      exact k_of (HK.out (.pointer (some ⟨b, o + qk.toNat * 4 + 2, none⟩)) _ rfl hB (Below.refl _ _)) (by rw [← u1_eq e5]; kernel_rfl)
    · intro u W hB _ hd _ K hK
      have HK := Lib.hid hK; clear hK
      have e6 : u 6 = .pointer (some ⟨b, o + qk.toNat * 4 + 2, none⟩) := hd 6 (by decide +kernel)
      refine wpOp_of rfl (by rfl) ?_
      obtain ⟨z0, z1⟩ := hk W hB.out
      go_simp
      exact k_of (HK.out (.agg #[.int .i64 k.plo, .int .i64 k.phi]) _ rfl hB (Below.refl _ _)) (by rw [← u1_eq e6]; kernel_rfl)
    · intro u W hB _ hd _ K hK
      have HK := Lib.hid hK; clear hK
      have e1 : u 1 = .int .i64 t.pull := hd 1 (by decide +kernel)
      have e7 : u 7 = .agg #[.int .i64 k.plo, .int .i64 k.phi] := hd 7 (by decide +kernel)
      refine wpOp_of rfl (by rfl) ?_
      go_simp
      refine (rat_any _ _ _ _).mono ?_; simp only [hb0]
      rintro e w' ⟨rfl, hb⟩
      exact k_of (HK.out (.bool true) _ rfl (hon _ _ hB.out hb) hb) (by rw [← u1_eq e1, ← u1_eq e7]; kernel_rfl)
    · intro u W hB _ hd _ K hK
      have HK := Lib.hid hK; clear hK
      have e8 : u 8 = .bool true := hd 8 (by decide +kernel)
      refine wpOp_of rfl (by rfl) ?_
      go_simp
      exact k_of (HK.out (.bool true) _ rfl hB (Below.refl _ _)) (by rw [← u1_eq e8]; kernel_rfl)
    · intro u W hB _ hd _ K hK
      have HK := Lib.hid hK; clear hK
      have e9 : u 9 = .bool true := hd 9 (by decide +kernel)
      refine wpOp_of rfl (by rw [← u1_eq e9]; kernel_rfl) ?_
      go_simp
      exact k_of (HK.out (.pointer (some ⟨T0, 1, none⟩)) _ rfl hB (Below.refl _ _)) (by rw [← u1_eq e9]; kernel_rfl)
    · intro u W hB _ hd _ K hK
      have HK := Lib.hid hK; clear hK
      have e9 : u 9 = .bool true := hd 9 (by decide +kernel)
      have e10 : u 10 = .pointer (some ⟨T0, 1, none⟩) := hd 10 (by decide +kernel)
      refine wpOp_of rfl (by rw [← u1_eq e9]; kernel_rfl) ?_
      have z1 := (hT W hB.out).cell 1
      go_simp
      exact k_of (HK.out (.int .i64 t.flow) _ rfl hB (Below.refl _ _)) (by rw [← u1_eq e9, ← u1_eq e10]; kernel_rfl)
    · intro u W hB _ hd _ K hK
      have HK := Lib.hid hK; clear hK
      have e9 : u 9 = .bool true := hd 9 (by decide +kernel)
      refine wpOp_of rfl (by rw [← u1_eq e9]; kernel_rfl) ?_
      go_simp
      exact k_of (HK.out (.pointer (some ⟨Gw, 1, none⟩)) _ rfl hB (Below.refl _ _)) (by rw [← u1_eq e9]; kernel_rfl)
    · intro u W hB _ hd _ K hK
      have HK := Lib.hid hK; clear hK
      have e9 : u 9 = .bool true := hd 9 (by decide +kernel)
      have e12 : u 12 = .pointer (some ⟨Gw, 1, none⟩) := hd 12 (by decide +kernel)
      refine wpOp_of rfl (by rw [← u1_eq e9]; kernel_rfl) ?_
      have z1 := (hG W hB.out).cell 1; have z2 := (hG W hB.out).cell 2
      go_simp
      exact k_of (HK.out (.agg #[.int .i64 x.flo, .int .i64 x.fhi]) _ rfl hB (Below.refl _ _)) (by rw [← u1_eq e9, ← u1_eq e12]; kernel_rfl)
    · intro u W hB _ hd _ K hK
      have HK := Lib.hid hK; clear hK
      have e9 : u 9 = .bool true := hd 9 (by decide +kernel)
      have e11 : u 11 = .int .i64 t.flow := hd 11 (by decide +kernel)
      have e13 : u 13 = .agg #[.int .i64 x.flo, .int .i64 x.fhi] := hd 13 (by decide +kernel)
      refine wpOp_of rfl (by rw [← u1_eq e9]; kernel_rfl) ?_
      go_simp
      refine (rat_any _ _ _ _).mono ?_; simp only [hb1]
      rintro e w' ⟨rfl, hb⟩
      exact k_of (HK.out (.bool true) _ rfl (hon _ _ hB.out hb) hb) (by rw [← u1_eq e9, ← u1_eq e11, ← u1_eq e13]; kernel_rfl)
    · intro u W hB _ hd _ K hK
      have HK := Lib.hid hK; clear hK
      have e9 : u 9 = .bool true := hd 9 (by decide +kernel)
      have e14 : u 14 = .bool true := hd 14 (by decide +kernel)
      refine wpOp_of rfl (by rfl) ?_
      go_simp
      exact k_of (HK.out (.bool true) _ rfl hB (Below.refl _ _)) (by rw [← u1_eq e9, ← u1_eq e14]; kernel_rfl)
    · intro u W hB _ hd _ K hK
      have HK := Lib.hid hK; clear hK
      have e15 : u 15 = .bool true := hd 15 (by decide +kernel)
      refine wpOp_of rfl (by rfl) ?_
      go_simp
      exact k_of (HK.out (.bool true) _ rfl hB (Below.refl _ _)) (by rw [← u1_eq e15]; kernel_rfl)
    · intro u W hB _ hd _ K hK
      have HK := Lib.hid hK; clear hK
      have e16 : u 16 = .bool true := hd 16 (by decide +kernel)
      refine wpOp_of rfl (by rw [← u1_eq e16]; kernel_rfl) ?_
      go_simp
      exact k_of (HK.out (.pointer (some ⟨T0, 2, none⟩)) _ rfl hB (Below.refl _ _)) (by rw [← u1_eq e16]; kernel_rfl)
    · intro u W hB _ hd _ K hK
      have HK := Lib.hid hK; clear hK
      have e16 : u 16 = .bool true := hd 16 (by decide +kernel)
      have e17 : u 17 = .pointer (some ⟨T0, 2, none⟩) := hd 17 (by decide +kernel)
      refine wpOp_of rfl (by rw [← u1_eq e16]; kernel_rfl) ?_
      have z2 := (hT W hB.out).cell 2
      go_simp
      exact k_of (HK.out (.int .i64 t.rise) _ rfl hB (Below.refl _ _)) (by rw [← u1_eq e16, ← u1_eq e17]; kernel_rfl)
    · intro u W hB _ hd _ K hK
      have HK := Lib.hid hK; clear hK
      have e16 : u 16 = .bool true := hd 16 (by decide +kernel)
      refine wpOp_of rfl (by rw [← u1_eq e16]; kernel_rfl) ?_
      go_simp
      exact k_of (HK.out (.pointer (some ⟨Gw, 3, none⟩)) _ rfl hB (Below.refl _ _)) (by rw [← u1_eq e16]; kernel_rfl)
    · intro u W hB _ hd _ K hK
      have HK := Lib.hid hK; clear hK
      have e16 : u 16 = .bool true := hd 16 (by decide +kernel)
      have e19 : u 19 = .pointer (some ⟨Gw, 3, none⟩) := hd 19 (by decide +kernel)
      refine wpOp_of rfl (by rw [← u1_eq e16]; kernel_rfl) ?_
      have z3 := (hG W hB.out).cell 3; have z4 := (hG W hB.out).cell 4
      go_simp
      exact k_of (HK.out (.agg #[.int .i64 x.rlo, .int .i64 x.rhi]) _ rfl hB (Below.refl _ _)) (by rw [← u1_eq e16, ← u1_eq e19]; kernel_rfl)
    · intro u W hB _ hd _ K hK
      have HK := Lib.hid hK; clear hK
      have e16 : u 16 = .bool true := hd 16 (by decide +kernel)
      have e18 : u 18 = .int .i64 t.rise := hd 18 (by decide +kernel)
      have e20 : u 20 = .agg #[.int .i64 x.rlo, .int .i64 x.rhi] := hd 20 (by decide +kernel)
      refine wpOp_of rfl (by rw [← u1_eq e16]; kernel_rfl) ?_
      go_simp
      refine (rat_any _ _ _ _).mono ?_; simp only [hb2]
      rintro e w' ⟨rfl, hb⟩
      exact k_of (HK.out (.bool true) _ rfl (hon _ _ hB.out hb) hb) (by rw [← u1_eq e16, ← u1_eq e18, ← u1_eq e20]; kernel_rfl)
    · intro u W hB _ hd _ K hK
      have HK := Lib.hid hK; clear hK
      have e16 : u 16 = .bool true := hd 16 (by decide +kernel)
      have e21 : u 21 = .bool true := hd 21 (by decide +kernel)
      refine wpOp_of rfl (by rfl) ?_
      go_simp
      exact k_of (HK.out (.bool true) _ rfl hB (Below.refl _ _)) (by rw [← u1_eq e16, ← u1_eq e21]; kernel_rfl)
    · intro u W hB _ hd _ K hK
      have HK := Lib.hid hK; clear hK
      have e22 : u 22 = .bool true := hd 22 (by decide +kernel)
      refine wpOp_of rfl (by rfl) ?_
      go_simp
      exact k_of (HK.out (.bool true) _ rfl hB (Below.refl _ _)) (by rw [← u1_eq e22]; kernel_rfl)
    · intro u W hB _ hd _ K hK
      have HK := Lib.hid hK; clear hK
      have e23 : u 23 = .bool true := hd 23 (by decide +kernel)
      refine wpOp_of rfl (by rw [← u1_eq e23]; kernel_rfl) ?_
      go_simp
      exact k_of (HK.out (.pointer (some ⟨T0, 3, none⟩)) _ rfl hB (Below.refl _ _)) (by rw [← u1_eq e23]; kernel_rfl)
    · intro u W hB _ hd _ K hK
      have HK := Lib.hid hK; clear hK
      have e23 : u 23 = .bool true := hd 23 (by decide +kernel)
      have e24 : u 24 = .pointer (some ⟨T0, 3, none⟩) := hd 24 (by decide +kernel)
      refine wpOp_of rfl (by rw [← u1_eq e23]; kernel_rfl) ?_
      have z3 := (hT W hB.out).cell 3
      go_simp
      exact k_of (HK.out (.int .i64 t.spr) _ rfl hB (Below.refl _ _)) (by rw [← u1_eq e23, ← u1_eq e24]; kernel_rfl)
    · intro u W hB _ hd _ K hK
      have HK := Lib.hid hK; clear hK
      have e23 : u 23 = .bool true := hd 23 (by decide +kernel)
      refine wpOp_of rfl (by rw [← u1_eq e23]; kernel_rfl) ?_
      go_simp
      exact k_of (HK.out (.pointer (some ⟨Gw, 5, none⟩)) _ rfl hB (Below.refl _ _)) (by rw [← u1_eq e23]; kernel_rfl)
    · intro u W hB _ hd _ K hK
      have HK := Lib.hid hK; clear hK
      have e23 : u 23 = .bool true := hd 23 (by decide +kernel)
      have e26 : u 26 = .pointer (some ⟨Gw, 5, none⟩) := hd 26 (by decide +kernel)
      refine wpOp_of rfl (by rw [← u1_eq e23]; kernel_rfl) ?_
      have z5 := (hG W hB.out).cell 5; have z6 := (hG W hB.out).cell 6
      go_simp
      exact k_of (HK.out (.agg #[.int .i64 x.slo, .int .i64 x.shi]) _ rfl hB (Below.refl _ _)) (by rw [← u1_eq e23, ← u1_eq e26]; kernel_rfl)
    · intro u W hB _ hd _ K hK
      have HK := Lib.hid hK; clear hK
      have e23 : u 23 = .bool true := hd 23 (by decide +kernel)
      have e25 : u 25 = .int .i64 t.spr := hd 25 (by decide +kernel)
      have e27 : u 27 = .agg #[.int .i64 x.slo, .int .i64 x.shi] := hd 27 (by decide +kernel)
      refine wpOp_of rfl (by rw [← u1_eq e23]; kernel_rfl) ?_
      go_simp
      refine (rat_any _ _ _ _).mono ?_; simp only [hb3]
      rintro e w' ⟨rfl, hb⟩
      exact k_of (HK.out (.bool false) _ rfl (hon _ _ hB.out hb) hb) (by rw [← u1_eq e23, ← u1_eq e25, ← u1_eq e27]; kernel_rfl)
    · intro u W hB _ hd _ K hK
      have HK := Lib.hid hK; clear hK
      have e23 : u 23 = .bool true := hd 23 (by decide +kernel)
      have e28 : u 28 = .bool false := hd 28 (by decide +kernel)
      refine wpOp_of rfl (by rfl) ?_
      go_simp
      exact k_of (HK.out (.bool false) _ rfl hB (Below.refl _ _)) (by rw [← u1_eq e23, ← u1_eq e28]; kernel_rfl)
    · intro u W hB _ hd _ K hK
      have HK := Lib.hid hK; clear hK
      have e29 : u 29 = .bool false := hd 29 (by decide +kernel)
      refine wpOp_of rfl (by rfl) ?_
      go_simp
      exact k_of (HK.out (.bool false) _ rfl hB (Below.refl _ _)) (by rw [← u1_eq e29]; kernel_rfl)
    · intro u W hB _ hd _ K hK
      have HK := Lib.hid hK; clear hK
      have e30 : u 30 = .bool false := hd 30 (by decide +kernel)
      refine wpOp_skip rfl (by rw [← u1_eq e30]; kernel_rfl) ?_
      exact k_of (HK.out undef _ rfl hB (Below.refl _ _)) (by rw [← u1_eq e30]; kernel_rfl)
    · intro u W hB _ hd _ K hK
      have HK := Lib.hid hK; clear hK
      have e30 : u 30 = .bool false := hd 30 (by decide +kernel)
      refine wpOp_skip rfl (by rw [← u1_eq e30]; kernel_rfl) ?_
      exact k_of (HK.out undef _ rfl hB (Below.refl _ _)) (by rw [← u1_eq e30]; kernel_rfl)
    · intro u W hB _ hd _ K hK
      have HK := Lib.hid hK; clear hK
      have e30 : u 30 = .bool false := hd 30 (by decide +kernel)
      refine wpOp_skip rfl (by rw [← u1_eq e30]; kernel_rfl) ?_
      exact k_of (HK.out undef _ rfl hB (Below.refl _ _)) (by rw [← u1_eq e30]; kernel_rfl)
    · intro u W hB _ hd _ K hK
      have HK := Lib.hid hK; clear hK
      have e30 : u 30 = .bool false := hd 30 (by decide +kernel)
      refine wpOp_skip rfl (by rw [← u1_eq e30]; kernel_rfl) ?_
      exact k_of (HK.out undef _ rfl hB (Below.refl _ _)) (by rw [← u1_eq e30]; kernel_rfl)
    · intro u W hB _ hd _ K hK
      have HK := Lib.hid hK; clear hK
      have e30 : u 30 = .bool false := hd 30 (by decide +kernel)
      refine wpOp_skip rfl (by rw [← u1_eq e30]; kernel_rfl) ?_
      exact k_of (HK.out undef _ rfl hB (Below.refl _ _)) (by rw [← u1_eq e30]; kernel_rfl)
    · intro u W hB _ hd _ K hK
      have HK := Lib.hid hK; clear hK
      have e30 : u 30 = .bool false := hd 30 (by decide +kernel)
      refine wpOp_skip rfl (by rw [← u1_eq e30]; kernel_rfl) ?_
      exact k_of (HK.out undef _ rfl hB (Below.refl _ _)) (by rw [← u1_eq e30]; kernel_rfl)
    · intro u W hB _ hd _ K hK
      have HK := Lib.hid hK; clear hK
      have e30 : u 30 = .bool false := hd 30 (by decide +kernel)
      refine wpOp_skip rfl (by rw [← u1_eq e30]; kernel_rfl) ?_
      exact k_of (HK.out undef _ rfl hB (Below.refl _ _)) (by rw [← u1_eq e30]; kernel_rfl)
    · intro u W hB _ hd _ K hK
      have HK := Lib.hid hK; clear hK
      have e30 : u 30 = .bool false := hd 30 (by decide +kernel)
      refine wpOp_skip rfl (by rw [← u1_eq e30]; kernel_rfl) ?_
      exact k_of (HK.out undef _ rfl hB (Below.refl _ _)) (by rw [← u1_eq e30]; kernel_rfl)
    · intro u W hB _ hd _ K hK
      have HK := Lib.hid hK; clear hK
      have e30 : u 30 = .bool false := hd 30 (by decide +kernel)
      have e38 : u 38 = undef := hd 38 (by decide +kernel)
      refine wpOp_of rfl (by rfl) ?_
      go_simp
      exact k_of (HK.out (.bool false) _ rfl hB (Below.refl _ _)) (by rw [← u1_eq e30, ← u1_eq e38]; kernel_rfl)
    · intro u W hB _ hd _ K hK
      have HK := Lib.hid hK; clear hK
      have e39 : u 39 = .bool false := hd 39 (by decide +kernel)
      refine wpOp_of rfl (by rfl) ?_
      go_simp
      exact k_of (HK.out (.bool false) _ rfl hB (Below.refl _ _)) (by rw [← u1_eq e39]; kernel_rfl)
    · intro u W hB _ hd _ K hK
      have HK := Lib.hid hK; clear hK
      have e40 : u 40 = .bool false := hd 40 (by decide +kernel)
      refine wpOp_skip rfl (by rw [← u1_eq e40]; kernel_rfl) ?_
      exact k_of (HK.out undef _ rfl hB (Below.refl _ _)) (by rw [← u1_eq e40]; kernel_rfl)
    · intro u W hB _ hd _ K hK
      have HK := Lib.hid hK; clear hK
      have e40 : u 40 = .bool false := hd 40 (by decide +kernel)
      refine wpOp_skip rfl (by rw [← u1_eq e40]; kernel_rfl) ?_
      exact k_of (HK.out undef _ rfl hB (Below.refl _ _)) (by rw [← u1_eq e40]; kernel_rfl)
    · intro u W hB _ hd _ K hK
      have HK := Lib.hid hK; clear hK
      have e40 : u 40 = .bool false := hd 40 (by decide +kernel)
      refine wpOp_skip rfl (by rw [← u1_eq e40]; kernel_rfl) ?_
      exact k_of (HK.out undef _ rfl hB (Below.refl _ _)) (by rw [← u1_eq e40]; kernel_rfl)
    · intro u W hB _ hd _ K hK
      have HK := Lib.hid hK; clear hK
      have e40 : u 40 = .bool false := hd 40 (by decide +kernel)
      refine wpOp_skip rfl (by rw [← u1_eq e40]; kernel_rfl) ?_
      exact k_of (HK.out undef _ rfl hB (Below.refl _ _)) (by rw [← u1_eq e40]; kernel_rfl)
    · intro u W hB _ hd _ K hK
      have HK := Lib.hid hK; clear hK
      have e40 : u 40 = .bool false := hd 40 (by decide +kernel)
      refine wpOp_skip rfl (by rw [← u1_eq e40]; kernel_rfl) ?_
      exact k_of (HK.out undef _ rfl hB (Below.refl _ _)) (by rw [← u1_eq e40]; kernel_rfl)
    · intro u W hB _ hd _ K hK
      have HK := Lib.hid hK; clear hK
      have e40 : u 40 = .bool false := hd 40 (by decide +kernel)
      have e45 : u 45 = undef := hd 45 (by decide +kernel)
      refine wpOp_of rfl (by rfl) ?_
      go_simp
      exact k_of (HK.out (.bool false) _ rfl hB (Below.refl _ _)) (by rw [← u1_eq e40, ← u1_eq e45]; kernel_rfl)
    · intro u W hB _ hd _ K hK
      have HK := Lib.hid hK; clear hK
      have e46 : u 46 = .bool false := hd 46 (by decide +kernel)
      refine wpOp_of rfl (by rfl) ?_
      go_simp
      exact k_of (HK.out (.bool false) _ rfl hB (Below.refl _ _)) (by rw [← u1_eq e46]; kernel_rfl)
  · intro u W hB hd
    have e47 : u 47 = .bool false := hd 47 (by decide)
    exact k_of (HQ.out u W hB.out) (by simp only [e47])

/-- What each operation leaves. -/
def rt4R (P C T0 Gw b o _xb _xo : Nat) (qk : Int) (p : Sp) (c : Cd) (k : Wk) (x : Wx) (t : Tu) : Nat → Value → World → Prop
  | 0, v, _ => v = .pointer (some ⟨T0, 0, none⟩)
  | 1, v, _ => v = .int .i64 t.pull
  | 2, v, _ => v = .pointer (some ⟨P, 0, none⟩)
  | 3, v, _ => v = .slice (some ⟨b, o, none⟩) p.s.ks.length p.kc
  | 4, v, _ => v = .int .i64 qk
  | 5, v, _ => v = .pointer (some ⟨b, o + qk.toNat * 4, none⟩)
  | 6, v, _ => v = .pointer (some ⟨b, o + qk.toNat * 4 + 2, none⟩)
  | 7, v, _ => v = .agg #[.int .i64 k.plo, .int .i64 k.phi]
  | 8, v, _ => v = .bool true
  | 9, v, _ => v = .bool true
  | 10, v, _ => v = .pointer (some ⟨T0, 1, none⟩)
  | 11, v, _ => v = .int .i64 t.flow
  | 12, v, _ => v = .pointer (some ⟨Gw, 1, none⟩)
  | 13, v, _ => v = .agg #[.int .i64 x.flo, .int .i64 x.fhi]
  | 14, v, _ => v = .bool true
  | 15, v, _ => v = .bool true
  | 16, v, _ => v = .bool true
  | 17, v, _ => v = .pointer (some ⟨T0, 2, none⟩)
  | 18, v, _ => v = .int .i64 t.rise
  | 19, v, _ => v = .pointer (some ⟨Gw, 3, none⟩)
  | 20, v, _ => v = .agg #[.int .i64 x.rlo, .int .i64 x.rhi]
  | 21, v, _ => v = .bool true
  | 22, v, _ => v = .bool true
  | 23, v, _ => v = .bool true
  | 24, v, _ => v = .pointer (some ⟨T0, 3, none⟩)
  | 25, v, _ => v = .int .i64 t.spr
  | 26, v, _ => v = .pointer (some ⟨Gw, 5, none⟩)
  | 27, v, _ => v = .agg #[.int .i64 x.slo, .int .i64 x.shi]
  | 28, v, _ => v = .bool true
  | 29, v, _ => v = .bool true
  | 30, v, _ => v = .bool true
  | 31, v, _ => v = .pointer (some ⟨T0, 4, none⟩)
  | 32, v, _ => v = .int .i64 t.dra
  | 33, v, _ => v = .pointer (some ⟨C, 2, none⟩)
  | 34, v, _ => v = .int .i64 c.dra
  | 35, v, _ => v = .int .i64 (-c.dra)
  | 36, v, _ => v = .pointer (some ⟨C, 2, none⟩)
  | 37, v, _ => v = .int .i64 c.dra
  | 38, v, _ => v = .bool false
  | 39, v, _ => v = .bool false
  | 40, v, _ => v = .bool false
  | 41, v, _ => v = undef
  | 42, v, _ => v = undef
  | 43, v, _ => v = undef
  | 44, v, _ => v = undef
  | 45, v, _ => v = undef
  | 46, v, _ => v = .bool false
  | 47, v, _ => v = .bool false
  | _, _, _ => True
theorem rt4R_on (P C T0 Gw b o xb xo : Nat) (qk : Int) (p : Sp) (c : Cd) (k : Wk) (x : Wx) (t : Tu) : ∀ i, i < 48 → ∀ v W W', rt4R P C T0 Gw b o xb xo qk p c k x t i v W → Below W.heap.size W W' → rt4R P C T0 Gw b o xb xo qk p c k x t i v W' := by
  iterate 48 (refine all_succ ?_ ?_)
  · exact all_zero
  · exact fun _ _ _ h _ => h
  · exact fun _ _ _ h _ => h
  · exact fun _ _ _ h _ => h
  · exact fun _ _ _ h _ => h
  · exact fun _ _ _ h _ => h
  · exact fun _ _ _ h _ => h
  · exact fun _ _ _ h _ => h
  · exact fun _ _ _ h _ => h
  · exact fun _ _ _ h _ => h
  · exact fun _ _ _ h _ => h
  · exact fun _ _ _ h _ => h
  · exact fun _ _ _ h _ => h
  · exact fun _ _ _ h _ => h
  · exact fun _ _ _ h _ => h
  · exact fun _ _ _ h _ => h
  · exact fun _ _ _ h _ => h
  · exact fun _ _ _ h _ => h
  · exact fun _ _ _ h _ => h
  · exact fun _ _ _ h _ => h
  · exact fun _ _ _ h _ => h
  · exact fun _ _ _ h _ => h
  · exact fun _ _ _ h _ => h
  · exact fun _ _ _ h _ => h
  · exact fun _ _ _ h _ => h
  · exact fun _ _ _ h _ => h
  · exact fun _ _ _ h _ => h
  · exact fun _ _ _ h _ => h
  · exact fun _ _ _ h _ => h
  · exact fun _ _ _ h _ => h
  · exact fun _ _ _ h _ => h
  · exact fun _ _ _ h _ => h
  · exact fun _ _ _ h _ => h
  · exact fun _ _ _ h _ => h
  · exact fun _ _ _ h _ => h
  · exact fun _ _ _ h _ => h
  · exact fun _ _ _ h _ => h
  · exact fun _ _ _ h _ => h
  · exact fun _ _ _ h _ => h
  · exact fun _ _ _ h _ => h
  · exact fun _ _ _ h _ => h
  · exact fun _ _ _ h _ => h
  · exact fun _ _ _ h _ => h
  · exact fun _ _ _ h _ => h
  · exact fun _ _ _ h _ => h
  · exact fun _ _ _ h _ => h
  · exact fun _ _ _ h _ => h
  · exact fun _ _ _ h _ => h
  · exact fun _ _ _ h _ => h
set_option maxRecDepth 100000 in
set_option maxHeartbeats 8000000 in
theorem rt4_region {S : World → Prop} (hon : ∀ W W', S W → Below W.heap.size W W' → S W') {P C T0 Gw b o xb xo : Nat} {qk : Int} {p : Sp} {c : Cd} {k : Wk} {x : Wx} {t : Tu} (h0 : 0 ≤ qk) (hq : qk < p.s.ks.length) (hwr : IntKind.i64.wrap (-c.dra) = -c.dra) (hP : ∀ W, S W → Blk W P 27 #[.slice (some ⟨b, o, none⟩) p.s.ks.length p.kc, .slice (some ⟨xb, xo, none⟩) p.s.xs.length p.xc, .int .i64 p.s.flo, .int .i64 p.s.fhi, .int .i64 p.s.plo, .int .i64 p.s.phi]) (hC : ∀ W, S W → Blk W C 34 #[.int .i64 c.wax, .int .i64 c.dia, .int .i64 c.dra, .int .i64 c.clo, .int .i64 c.chi]) (hT : ∀ W, S W → Blk W T0 36 #[.int .i64 t.pull, .int .i64 t.flow, .int .i64 t.rise, .int .i64 t.spr, .int .i64 t.dra, .int .i64 t.cold]) (hG : ∀ W, S W → Blk W Gw 80 #[.string x.nm, .int .i64 x.flo, .int .i64 x.fhi, .int .i64 x.rlo, .int .i64 x.rhi, .int .i64 x.slo, .int .i64 x.shi, .int .i64 x.ch]) (hk : ∀ W, S W → W.cell? ⟨b, o + qk.toNat * 4 + 2, none⟩ = some (.int .i64 k.plo) ∧ W.cell? ⟨b, o + qk.toNat * 4 + 3, none⟩ = some (.int .i64 k.phi)) (hb0 : inB t.pull k.plo k.phi = true) (hb1 : inB t.flow x.flo x.fhi = true) (hb2 : inB t.rise x.rlo x.rhi = true) (hb3 : inB t.spr x.slo x.shi = true) (hb4 : inB t.dra (-c.dra) c.dra = false) {Q : Exit → Act → World → Prop} {s0 s2 s3 s5 s10 s11 s12 s13 s14 s15 : Value} {W0 : World} (HL : Hid (S W0))
    (HQ : Hid (∀ (u : Nat → Value) (W : World), S W → Q .normal ⟨#[s0, .int .i64 qk, s2, s3, .pointer (some ⟨P, 0, none⟩), s5, .pointer (some ⟨C, 0, none⟩), .pointer (some ⟨T0, 0, none⟩), .bool false, .pointer (some ⟨Gw, 0, none⟩), s10, s11, s12, s13, s14, s15, u 0, u 1, u 2, u 3, u 4, u 5, u 6, u 7, u 8, u 9, u 10, u 11, u 12, u 13, u 14, u 15, u 16, u 17, u 18, u 19, u 20, u 21, u 22, u 23, u 24, u 25, u 26, u 27, u 28, u 29, u 30, u 31, u 32, u 33, u 34, u 35, u 36, u 37, u 38, u 39, u 40, u 41, u 42, u 43, u 44, u 45, u 46], []⟩ W)) :
    Code.wp Try.prog ((Try.f53.body.bind (regionAt 2)).getD .skip) Q ⟨#[s0, .int .i64 qk, s2, s3, .pointer (some ⟨P, 0, none⟩), s5, .pointer (some ⟨C, 0, none⟩), .pointer (some ⟨T0, 0, none⟩), .bool false, .pointer (some ⟨Gw, 0, none⟩), s10, s11, s12, s13, s14, s15, undef, undef, undef, undef, undef, undef, undef, undef, undef, undef, undef, undef, undef, undef, undef, undef, undef, undef, undef, undef, undef, undef, undef, undef, undef, undef, undef, undef, undef, undef, undef, undef, undef, undef, undef, undef, undef, undef, undef, undef, undef, undef, undef, undef, undef, undef, undef], []⟩ W0 := by
  conv => arg 2; whnf
  refine wp_region_spec (by kernel_rfl) 48 (by kernel_rfl) (fun u => ⟨#[s0, .int .i64 qk, s2, s3, .pointer (some ⟨P, 0, none⟩), s5, .pointer (some ⟨C, 0, none⟩), .pointer (some ⟨T0, 0, none⟩), u 47, .pointer (some ⟨Gw, 0, none⟩), s10, s11, s12, s13, s14, s15, u 0, u 1, u 2, u 3, u 4, u 5, u 6, u 7, u 8, u 9, u 10, u 11, u 12, u 13, u 14, u 15, u 16, u 17, u 18, u 19, u 20, u 21, u 22, u 23, u 24, u 25, u 26, u 27, u 28, u 29, u 30, u 31, u 32, u 33, u 34, u 35, u 36, u 37, u 38, u 39, u 40, u 41, u 42, u 43, u 44, u 45, u 46], []⟩) (fun i => if i = 47 then .bool false else undef) (fun W => Hid (S W)) (rt4R P C T0 Gw b o xb xo qk p c k x t) (by kernel_rfl) (hon _ _ HL.out (Below.refl _ _).drew) (fun i v W W2 hi h hb => rt4R_on P C T0 Gw b o xb xo qk p c k x t i hi v W W2 h hb) (by decide +kernel) ?_ ?_
  · iterate 48 (refine all_succ ?_ ?_)
    · exact all_zero
    · intro u W hB _ hd _ K hK
      have HK := Lib.hid hK; clear hK
      refine wpOp_of rfl (by rfl) ?_
      go_simp
      exact k_of (HK.out (.pointer (some ⟨T0, 0, none⟩)) _ rfl hB (Below.refl _ _)) (by kernel_rfl)
    · intro u W hB _ hd _ K hK
      have HK := Lib.hid hK; clear hK
      have e0 : u 0 = .pointer (some ⟨T0, 0, none⟩) := hd 0 (by decide +kernel)
      refine wpOp_of rfl (by rfl) ?_
      have z0 := (hT W hB.out).cell 0
      go_simp
      exact k_of (HK.out (.int .i64 t.pull) _ rfl hB (Below.refl _ _)) (by rw [← u1_eq e0]; kernel_rfl)
    · intro u W hB _ hd _ K hK
      have HK := Lib.hid hK; clear hK
      refine wpOp_of rfl (by rfl) ?_
      go_simp
      exact k_of (HK.out (.pointer (some ⟨P, 0, none⟩)) _ rfl hB (Below.refl _ _)) (by kernel_rfl)
    · intro u W hB _ hd _ K hK
      have HK := Lib.hid hK; clear hK
      have e2 : u 2 = .pointer (some ⟨P, 0, none⟩) := hd 2 (by decide +kernel)
      refine wpOp_of rfl (by rfl) ?_
      have z0 := (hP W hB.out).cell 0
      go_simp
      exact k_of (HK.out (.slice (some ⟨b, o, none⟩) p.s.ks.length p.kc) _ rfl hB (Below.refl _ _)) (by rw [← u1_eq e2]; kernel_rfl)
    · intro u W hB _ hd _ K hK
      have HK := Lib.hid hK; clear hK
      refine wpOp_of rfl (by rfl) ?_
      go_simp
      exact k_of (HK.out (.int .i64 qk) _ rfl hB (Below.refl _ _)) (by kernel_rfl)
    · intro u W hB _ hd _ K hK
      have HK := Lib.hid hK; clear hK
      have e3 : u 3 = .slice (some ⟨b, o, none⟩) p.s.ks.length p.kc := hd 3 (by decide +kernel)
      have e4 : u 4 = .int .i64 qk := hd 4 (by decide +kernel)
      refine wpOp_of rfl (by rfl) ?_
      go_simp
      exact k_of (HK.out (.pointer (some ⟨b, o + qk.toNat * 4, none⟩)) _ rfl hB (Below.refl _ _)) (by rw [← u1_eq e3, ← u1_eq e4]; kernel_rfl)
    · intro u W hB _ hd _ K hK
      have HK := Lib.hid hK; clear hK
      have e5 : u 5 = .pointer (some ⟨b, o + qk.toNat * 4, none⟩) := hd 5 (by decide +kernel)
      refine wpOp_of rfl (by rfl) ?_
      go_simp
      exact k_of (HK.out (.pointer (some ⟨b, o + qk.toNat * 4 + 2, none⟩)) _ rfl hB (Below.refl _ _)) (by rw [← u1_eq e5]; kernel_rfl)
    · intro u W hB _ hd _ K hK
      have HK := Lib.hid hK; clear hK
      have e6 : u 6 = .pointer (some ⟨b, o + qk.toNat * 4 + 2, none⟩) := hd 6 (by decide +kernel)
      refine wpOp_of rfl (by rfl) ?_
      obtain ⟨z0, z1⟩ := hk W hB.out
      go_simp
      exact k_of (HK.out (.agg #[.int .i64 k.plo, .int .i64 k.phi]) _ rfl hB (Below.refl _ _)) (by rw [← u1_eq e6]; kernel_rfl)
    · intro u W hB _ hd _ K hK
      have HK := Lib.hid hK; clear hK
      have e1 : u 1 = .int .i64 t.pull := hd 1 (by decide +kernel)
      have e7 : u 7 = .agg #[.int .i64 k.plo, .int .i64 k.phi] := hd 7 (by decide +kernel)
      refine wpOp_of rfl (by rfl) ?_
      go_simp
      refine (rat_any _ _ _ _).mono ?_; simp only [hb0]
      rintro e w' ⟨rfl, hb⟩
      exact k_of (HK.out (.bool true) _ rfl (hon _ _ hB.out hb) hb) (by rw [← u1_eq e1, ← u1_eq e7]; kernel_rfl)
    · intro u W hB _ hd _ K hK
      have HK := Lib.hid hK; clear hK
      have e8 : u 8 = .bool true := hd 8 (by decide +kernel)
      refine wpOp_of rfl (by rfl) ?_
      go_simp
      exact k_of (HK.out (.bool true) _ rfl hB (Below.refl _ _)) (by rw [← u1_eq e8]; kernel_rfl)
    · intro u W hB _ hd _ K hK
      have HK := Lib.hid hK; clear hK
      have e9 : u 9 = .bool true := hd 9 (by decide +kernel)
      refine wpOp_of rfl (by rw [← u1_eq e9]; kernel_rfl) ?_
      go_simp
      exact k_of (HK.out (.pointer (some ⟨T0, 1, none⟩)) _ rfl hB (Below.refl _ _)) (by rw [← u1_eq e9]; kernel_rfl)
    · intro u W hB _ hd _ K hK
      have HK := Lib.hid hK; clear hK
      have e9 : u 9 = .bool true := hd 9 (by decide +kernel)
      have e10 : u 10 = .pointer (some ⟨T0, 1, none⟩) := hd 10 (by decide +kernel)
      refine wpOp_of rfl (by rw [← u1_eq e9]; kernel_rfl) ?_
      have z1 := (hT W hB.out).cell 1
      go_simp
      exact k_of (HK.out (.int .i64 t.flow) _ rfl hB (Below.refl _ _)) (by rw [← u1_eq e9, ← u1_eq e10]; kernel_rfl)
    · intro u W hB _ hd _ K hK
      have HK := Lib.hid hK; clear hK
      have e9 : u 9 = .bool true := hd 9 (by decide +kernel)
      refine wpOp_of rfl (by rw [← u1_eq e9]; kernel_rfl) ?_
      go_simp
      exact k_of (HK.out (.pointer (some ⟨Gw, 1, none⟩)) _ rfl hB (Below.refl _ _)) (by rw [← u1_eq e9]; kernel_rfl)
    · intro u W hB _ hd _ K hK
      have HK := Lib.hid hK; clear hK
      have e9 : u 9 = .bool true := hd 9 (by decide +kernel)
      have e12 : u 12 = .pointer (some ⟨Gw, 1, none⟩) := hd 12 (by decide +kernel)
      refine wpOp_of rfl (by rw [← u1_eq e9]; kernel_rfl) ?_
      have z1 := (hG W hB.out).cell 1; have z2 := (hG W hB.out).cell 2
      go_simp
      exact k_of (HK.out (.agg #[.int .i64 x.flo, .int .i64 x.fhi]) _ rfl hB (Below.refl _ _)) (by rw [← u1_eq e9, ← u1_eq e12]; kernel_rfl)
    · intro u W hB _ hd _ K hK
      have HK := Lib.hid hK; clear hK
      have e9 : u 9 = .bool true := hd 9 (by decide +kernel)
      have e11 : u 11 = .int .i64 t.flow := hd 11 (by decide +kernel)
      have e13 : u 13 = .agg #[.int .i64 x.flo, .int .i64 x.fhi] := hd 13 (by decide +kernel)
      refine wpOp_of rfl (by rw [← u1_eq e9]; kernel_rfl) ?_
      go_simp
      refine (rat_any _ _ _ _).mono ?_; simp only [hb1]
      rintro e w' ⟨rfl, hb⟩
      exact k_of (HK.out (.bool true) _ rfl (hon _ _ hB.out hb) hb) (by rw [← u1_eq e9, ← u1_eq e11, ← u1_eq e13]; kernel_rfl)
    · intro u W hB _ hd _ K hK
      have HK := Lib.hid hK; clear hK
      have e9 : u 9 = .bool true := hd 9 (by decide +kernel)
      have e14 : u 14 = .bool true := hd 14 (by decide +kernel)
      refine wpOp_of rfl (by rfl) ?_
      go_simp
      exact k_of (HK.out (.bool true) _ rfl hB (Below.refl _ _)) (by rw [← u1_eq e9, ← u1_eq e14]; kernel_rfl)
    · intro u W hB _ hd _ K hK
      have HK := Lib.hid hK; clear hK
      have e15 : u 15 = .bool true := hd 15 (by decide +kernel)
      refine wpOp_of rfl (by rfl) ?_
      go_simp
      exact k_of (HK.out (.bool true) _ rfl hB (Below.refl _ _)) (by rw [← u1_eq e15]; kernel_rfl)
    · intro u W hB _ hd _ K hK
      have HK := Lib.hid hK; clear hK
      have e16 : u 16 = .bool true := hd 16 (by decide +kernel)
      refine wpOp_of rfl (by rw [← u1_eq e16]; kernel_rfl) ?_
      go_simp
      exact k_of (HK.out (.pointer (some ⟨T0, 2, none⟩)) _ rfl hB (Below.refl _ _)) (by rw [← u1_eq e16]; kernel_rfl)
    · intro u W hB _ hd _ K hK
      have HK := Lib.hid hK; clear hK
      have e16 : u 16 = .bool true := hd 16 (by decide +kernel)
      have e17 : u 17 = .pointer (some ⟨T0, 2, none⟩) := hd 17 (by decide +kernel)
      refine wpOp_of rfl (by rw [← u1_eq e16]; kernel_rfl) ?_
      have z2 := (hT W hB.out).cell 2
      go_simp
      exact k_of (HK.out (.int .i64 t.rise) _ rfl hB (Below.refl _ _)) (by rw [← u1_eq e16, ← u1_eq e17]; kernel_rfl)
    · intro u W hB _ hd _ K hK
      have HK := Lib.hid hK; clear hK
      have e16 : u 16 = .bool true := hd 16 (by decide +kernel)
      refine wpOp_of rfl (by rw [← u1_eq e16]; kernel_rfl) ?_
      go_simp
      exact k_of (HK.out (.pointer (some ⟨Gw, 3, none⟩)) _ rfl hB (Below.refl _ _)) (by rw [← u1_eq e16]; kernel_rfl)
    · intro u W hB _ hd _ K hK
      have HK := Lib.hid hK; clear hK
      have e16 : u 16 = .bool true := hd 16 (by decide +kernel)
      have e19 : u 19 = .pointer (some ⟨Gw, 3, none⟩) := hd 19 (by decide +kernel)
      refine wpOp_of rfl (by rw [← u1_eq e16]; kernel_rfl) ?_
      have z3 := (hG W hB.out).cell 3; have z4 := (hG W hB.out).cell 4
      go_simp
      exact k_of (HK.out (.agg #[.int .i64 x.rlo, .int .i64 x.rhi]) _ rfl hB (Below.refl _ _)) (by rw [← u1_eq e16, ← u1_eq e19]; kernel_rfl)
    · intro u W hB _ hd _ K hK
      have HK := Lib.hid hK; clear hK
      have e16 : u 16 = .bool true := hd 16 (by decide +kernel)
      have e18 : u 18 = .int .i64 t.rise := hd 18 (by decide +kernel)
      have e20 : u 20 = .agg #[.int .i64 x.rlo, .int .i64 x.rhi] := hd 20 (by decide +kernel)
      refine wpOp_of rfl (by rw [← u1_eq e16]; kernel_rfl) ?_
      go_simp
      refine (rat_any _ _ _ _).mono ?_; simp only [hb2]
      rintro e w' ⟨rfl, hb⟩
      exact k_of (HK.out (.bool true) _ rfl (hon _ _ hB.out hb) hb) (by rw [← u1_eq e16, ← u1_eq e18, ← u1_eq e20]; kernel_rfl)
    · intro u W hB _ hd _ K hK
      have HK := Lib.hid hK; clear hK
      have e16 : u 16 = .bool true := hd 16 (by decide +kernel)
      have e21 : u 21 = .bool true := hd 21 (by decide +kernel)
      refine wpOp_of rfl (by rfl) ?_
      go_simp
      exact k_of (HK.out (.bool true) _ rfl hB (Below.refl _ _)) (by rw [← u1_eq e16, ← u1_eq e21]; kernel_rfl)
    · intro u W hB _ hd _ K hK
      have HK := Lib.hid hK; clear hK
      have e22 : u 22 = .bool true := hd 22 (by decide +kernel)
      refine wpOp_of rfl (by rfl) ?_
      go_simp
      exact k_of (HK.out (.bool true) _ rfl hB (Below.refl _ _)) (by rw [← u1_eq e22]; kernel_rfl)
    · intro u W hB _ hd _ K hK
      have HK := Lib.hid hK; clear hK
      have e23 : u 23 = .bool true := hd 23 (by decide +kernel)
      refine wpOp_of rfl (by rw [← u1_eq e23]; kernel_rfl) ?_
      go_simp
      exact k_of (HK.out (.pointer (some ⟨T0, 3, none⟩)) _ rfl hB (Below.refl _ _)) (by rw [← u1_eq e23]; kernel_rfl)
    · intro u W hB _ hd _ K hK
      have HK := Lib.hid hK; clear hK
      have e23 : u 23 = .bool true := hd 23 (by decide +kernel)
      have e24 : u 24 = .pointer (some ⟨T0, 3, none⟩) := hd 24 (by decide +kernel)
      refine wpOp_of rfl (by rw [← u1_eq e23]; kernel_rfl) ?_
      have z3 := (hT W hB.out).cell 3
      go_simp
      exact k_of (HK.out (.int .i64 t.spr) _ rfl hB (Below.refl _ _)) (by rw [← u1_eq e23, ← u1_eq e24]; kernel_rfl)
    · intro u W hB _ hd _ K hK
      have HK := Lib.hid hK; clear hK
      have e23 : u 23 = .bool true := hd 23 (by decide +kernel)
      refine wpOp_of rfl (by rw [← u1_eq e23]; kernel_rfl) ?_
      go_simp
      exact k_of (HK.out (.pointer (some ⟨Gw, 5, none⟩)) _ rfl hB (Below.refl _ _)) (by rw [← u1_eq e23]; kernel_rfl)
    · intro u W hB _ hd _ K hK
      have HK := Lib.hid hK; clear hK
      have e23 : u 23 = .bool true := hd 23 (by decide +kernel)
      have e26 : u 26 = .pointer (some ⟨Gw, 5, none⟩) := hd 26 (by decide +kernel)
      refine wpOp_of rfl (by rw [← u1_eq e23]; kernel_rfl) ?_
      have z5 := (hG W hB.out).cell 5; have z6 := (hG W hB.out).cell 6
      go_simp
      exact k_of (HK.out (.agg #[.int .i64 x.slo, .int .i64 x.shi]) _ rfl hB (Below.refl _ _)) (by rw [← u1_eq e23, ← u1_eq e26]; kernel_rfl)
    · intro u W hB _ hd _ K hK
      have HK := Lib.hid hK; clear hK
      have e23 : u 23 = .bool true := hd 23 (by decide +kernel)
      have e25 : u 25 = .int .i64 t.spr := hd 25 (by decide +kernel)
      have e27 : u 27 = .agg #[.int .i64 x.slo, .int .i64 x.shi] := hd 27 (by decide +kernel)
      refine wpOp_of rfl (by rw [← u1_eq e23]; kernel_rfl) ?_
      go_simp
      refine (rat_any _ _ _ _).mono ?_; simp only [hb3]
      rintro e w' ⟨rfl, hb⟩
      exact k_of (HK.out (.bool true) _ rfl (hon _ _ hB.out hb) hb) (by rw [← u1_eq e23, ← u1_eq e25, ← u1_eq e27]; kernel_rfl)
    · intro u W hB _ hd _ K hK
      have HK := Lib.hid hK; clear hK
      have e23 : u 23 = .bool true := hd 23 (by decide +kernel)
      have e28 : u 28 = .bool true := hd 28 (by decide +kernel)
      refine wpOp_of rfl (by rfl) ?_
      go_simp
      exact k_of (HK.out (.bool true) _ rfl hB (Below.refl _ _)) (by rw [← u1_eq e23, ← u1_eq e28]; kernel_rfl)
    · intro u W hB _ hd _ K hK
      have HK := Lib.hid hK; clear hK
      have e29 : u 29 = .bool true := hd 29 (by decide +kernel)
      refine wpOp_of rfl (by rfl) ?_
      go_simp
      exact k_of (HK.out (.bool true) _ rfl hB (Below.refl _ _)) (by rw [← u1_eq e29]; kernel_rfl)
    · intro u W hB _ hd _ K hK
      have HK := Lib.hid hK; clear hK
      have e30 : u 30 = .bool true := hd 30 (by decide +kernel)
      refine wpOp_of rfl (by rw [← u1_eq e30]; kernel_rfl) ?_
      go_simp
      exact k_of (HK.out (.pointer (some ⟨T0, 4, none⟩)) _ rfl hB (Below.refl _ _)) (by rw [← u1_eq e30]; kernel_rfl)
    · intro u W hB _ hd _ K hK
      have HK := Lib.hid hK; clear hK
      have e30 : u 30 = .bool true := hd 30 (by decide +kernel)
      have e31 : u 31 = .pointer (some ⟨T0, 4, none⟩) := hd 31 (by decide +kernel)
      refine wpOp_of rfl (by rw [← u1_eq e30]; kernel_rfl) ?_
      have z4 := (hT W hB.out).cell 4
      go_simp
      exact k_of (HK.out (.int .i64 t.dra) _ rfl hB (Below.refl _ _)) (by rw [← u1_eq e30, ← u1_eq e31]; kernel_rfl)
    · intro u W hB _ hd _ K hK
      have HK := Lib.hid hK; clear hK
      have e30 : u 30 = .bool true := hd 30 (by decide +kernel)
      refine wpOp_of rfl (by rw [← u1_eq e30]; kernel_rfl) ?_
      go_simp
      exact k_of (HK.out (.pointer (some ⟨C, 2, none⟩)) _ rfl hB (Below.refl _ _)) (by rw [← u1_eq e30]; kernel_rfl)
    · intro u W hB _ hd _ K hK
      have HK := Lib.hid hK; clear hK
      have e30 : u 30 = .bool true := hd 30 (by decide +kernel)
      have e33 : u 33 = .pointer (some ⟨C, 2, none⟩) := hd 33 (by decide +kernel)
      refine wpOp_of rfl (by rw [← u1_eq e30]; kernel_rfl) ?_
      have z2 := (hC W hB.out).cell 2
      go_simp
      exact k_of (HK.out (.int .i64 c.dra) _ rfl hB (Below.refl _ _)) (by rw [← u1_eq e30, ← u1_eq e33]; kernel_rfl)
    · intro u W hB _ hd _ K hK
      have HK := Lib.hid hK; clear hK
      have e30 : u 30 = .bool true := hd 30 (by decide +kernel)
      have e34 : u 34 = .int .i64 c.dra := hd 34 (by decide +kernel)
      refine wpOp_of rfl (by rw [← u1_eq e30]; kernel_rfl) ?_
      go_simp
      exact k_of (HK.out (.int .i64 (-c.dra)) _ rfl hB (Below.refl _ _)) (by rw [← u1_eq e30, ← u1_eq e34]; kernel_rfl)
    · intro u W hB _ hd _ K hK
      have HK := Lib.hid hK; clear hK
      have e30 : u 30 = .bool true := hd 30 (by decide +kernel)
      refine wpOp_of rfl (by rw [← u1_eq e30]; kernel_rfl) ?_
      go_simp
      exact k_of (HK.out (.pointer (some ⟨C, 2, none⟩)) _ rfl hB (Below.refl _ _)) (by rw [← u1_eq e30]; kernel_rfl)
    · intro u W hB _ hd _ K hK
      have HK := Lib.hid hK; clear hK
      have e30 : u 30 = .bool true := hd 30 (by decide +kernel)
      have e36 : u 36 = .pointer (some ⟨C, 2, none⟩) := hd 36 (by decide +kernel)
      refine wpOp_of rfl (by rw [← u1_eq e30]; kernel_rfl) ?_
      have z2 := (hC W hB.out).cell 2
      go_simp
      exact k_of (HK.out (.int .i64 c.dra) _ rfl hB (Below.refl _ _)) (by rw [← u1_eq e30, ← u1_eq e36]; kernel_rfl)
    · intro u W hB _ hd _ K hK
      have HK := Lib.hid hK; clear hK
      have e30 : u 30 = .bool true := hd 30 (by decide +kernel)
      have e32 : u 32 = .int .i64 t.dra := hd 32 (by decide +kernel)
      have e35 : u 35 = .int .i64 (-c.dra) := hd 35 (by decide +kernel)
      have e37 : u 37 = .int .i64 c.dra := hd 37 (by decide +kernel)
      refine wpOp_of rfl (by rw [← u1_eq e30]; kernel_rfl) ?_
      go_simp
      refine (rin3_any _ _ _ _).mono ?_; simp only [hb4]
      rintro e w' ⟨rfl, rfl⟩
      exact k_of (HK.out (.bool false) _ rfl hB (Below.refl _ _)) (by rw [← u1_eq e30, ← u1_eq e32, ← u1_eq e35, ← u1_eq e37]; kernel_rfl)
    · intro u W hB _ hd _ K hK
      have HK := Lib.hid hK; clear hK
      have e30 : u 30 = .bool true := hd 30 (by decide +kernel)
      have e38 : u 38 = .bool false := hd 38 (by decide +kernel)
      refine wpOp_of rfl (by rfl) ?_
      go_simp
      exact k_of (HK.out (.bool false) _ rfl hB (Below.refl _ _)) (by rw [← u1_eq e30, ← u1_eq e38]; kernel_rfl)
    · intro u W hB _ hd _ K hK
      have HK := Lib.hid hK; clear hK
      have e39 : u 39 = .bool false := hd 39 (by decide +kernel)
      refine wpOp_of rfl (by rfl) ?_
      go_simp
      exact k_of (HK.out (.bool false) _ rfl hB (Below.refl _ _)) (by rw [← u1_eq e39]; kernel_rfl)
    · intro u W hB _ hd _ K hK
      have HK := Lib.hid hK; clear hK
      have e40 : u 40 = .bool false := hd 40 (by decide +kernel)
      refine wpOp_skip rfl (by rw [← u1_eq e40]; kernel_rfl) ?_
      exact k_of (HK.out undef _ rfl hB (Below.refl _ _)) (by rw [← u1_eq e40]; kernel_rfl)
    · intro u W hB _ hd _ K hK
      have HK := Lib.hid hK; clear hK
      have e40 : u 40 = .bool false := hd 40 (by decide +kernel)
      refine wpOp_skip rfl (by rw [← u1_eq e40]; kernel_rfl) ?_
      exact k_of (HK.out undef _ rfl hB (Below.refl _ _)) (by rw [← u1_eq e40]; kernel_rfl)
    · intro u W hB _ hd _ K hK
      have HK := Lib.hid hK; clear hK
      have e40 : u 40 = .bool false := hd 40 (by decide +kernel)
      refine wpOp_skip rfl (by rw [← u1_eq e40]; kernel_rfl) ?_
      exact k_of (HK.out undef _ rfl hB (Below.refl _ _)) (by rw [← u1_eq e40]; kernel_rfl)
    · intro u W hB _ hd _ K hK
      have HK := Lib.hid hK; clear hK
      have e40 : u 40 = .bool false := hd 40 (by decide +kernel)
      refine wpOp_skip rfl (by rw [← u1_eq e40]; kernel_rfl) ?_
      exact k_of (HK.out undef _ rfl hB (Below.refl _ _)) (by rw [← u1_eq e40]; kernel_rfl)
    · intro u W hB _ hd _ K hK
      have HK := Lib.hid hK; clear hK
      have e40 : u 40 = .bool false := hd 40 (by decide +kernel)
      refine wpOp_skip rfl (by rw [← u1_eq e40]; kernel_rfl) ?_
      exact k_of (HK.out undef _ rfl hB (Below.refl _ _)) (by rw [← u1_eq e40]; kernel_rfl)
    · intro u W hB _ hd _ K hK
      have HK := Lib.hid hK; clear hK
      have e40 : u 40 = .bool false := hd 40 (by decide +kernel)
      have e45 : u 45 = undef := hd 45 (by decide +kernel)
      refine wpOp_of rfl (by rfl) ?_
      go_simp
      exact k_of (HK.out (.bool false) _ rfl hB (Below.refl _ _)) (by rw [← u1_eq e40, ← u1_eq e45]; kernel_rfl)
    · intro u W hB _ hd _ K hK
      have HK := Lib.hid hK; clear hK
      have e46 : u 46 = .bool false := hd 46 (by decide +kernel)
      refine wpOp_of rfl (by rfl) ?_
      go_simp
      exact k_of (HK.out (.bool false) _ rfl hB (Below.refl _ _)) (by rw [← u1_eq e46]; kernel_rfl)
  · intro u W hB hd
    have e47 : u 47 = .bool false := hd 47 (by decide)
    exact k_of (HQ.out u W hB.out) (by simp only [e47])

/-- What each operation leaves. -/
def rt5R (P C T0 Gw b o _xb _xo : Nat) (qk : Int) (p : Sp) (c : Cd) (k : Wk) (x : Wx) (t : Tu) : Nat → Value → World → Prop
  | 0, v, _ => v = .pointer (some ⟨T0, 0, none⟩)
  | 1, v, _ => v = .int .i64 t.pull
  | 2, v, _ => v = .pointer (some ⟨P, 0, none⟩)
  | 3, v, _ => v = .slice (some ⟨b, o, none⟩) p.s.ks.length p.kc
  | 4, v, _ => v = .int .i64 qk
  | 5, v, _ => v = .pointer (some ⟨b, o + qk.toNat * 4, none⟩)
  | 6, v, _ => v = .pointer (some ⟨b, o + qk.toNat * 4 + 2, none⟩)
  | 7, v, _ => v = .agg #[.int .i64 k.plo, .int .i64 k.phi]
  | 8, v, _ => v = .bool true
  | 9, v, _ => v = .bool true
  | 10, v, _ => v = .pointer (some ⟨T0, 1, none⟩)
  | 11, v, _ => v = .int .i64 t.flow
  | 12, v, _ => v = .pointer (some ⟨Gw, 1, none⟩)
  | 13, v, _ => v = .agg #[.int .i64 x.flo, .int .i64 x.fhi]
  | 14, v, _ => v = .bool true
  | 15, v, _ => v = .bool true
  | 16, v, _ => v = .bool true
  | 17, v, _ => v = .pointer (some ⟨T0, 2, none⟩)
  | 18, v, _ => v = .int .i64 t.rise
  | 19, v, _ => v = .pointer (some ⟨Gw, 3, none⟩)
  | 20, v, _ => v = .agg #[.int .i64 x.rlo, .int .i64 x.rhi]
  | 21, v, _ => v = .bool true
  | 22, v, _ => v = .bool true
  | 23, v, _ => v = .bool true
  | 24, v, _ => v = .pointer (some ⟨T0, 3, none⟩)
  | 25, v, _ => v = .int .i64 t.spr
  | 26, v, _ => v = .pointer (some ⟨Gw, 5, none⟩)
  | 27, v, _ => v = .agg #[.int .i64 x.slo, .int .i64 x.shi]
  | 28, v, _ => v = .bool true
  | 29, v, _ => v = .bool true
  | 30, v, _ => v = .bool true
  | 31, v, _ => v = .pointer (some ⟨T0, 4, none⟩)
  | 32, v, _ => v = .int .i64 t.dra
  | 33, v, _ => v = .pointer (some ⟨C, 2, none⟩)
  | 34, v, _ => v = .int .i64 c.dra
  | 35, v, _ => v = .int .i64 (-c.dra)
  | 36, v, _ => v = .pointer (some ⟨C, 2, none⟩)
  | 37, v, _ => v = .int .i64 c.dra
  | 38, v, _ => v = .bool true
  | 39, v, _ => v = .bool true
  | 40, v, _ => v = .bool true
  | 41, v, _ => v = .pointer (some ⟨T0, 5, none⟩)
  | 42, v, _ => v = .int .i64 t.cold
  | 43, v, _ => v = .pointer (some ⟨C, 3, none⟩)
  | 44, v, _ => v = .agg #[.int .i64 c.clo, .int .i64 c.chi]
  | 45, v, _ => v = .bool false
  | 46, v, _ => v = .bool false
  | 47, v, _ => v = .bool false
  | _, _, _ => True
theorem rt5R_on (P C T0 Gw b o xb xo : Nat) (qk : Int) (p : Sp) (c : Cd) (k : Wk) (x : Wx) (t : Tu) : ∀ i, i < 48 → ∀ v W W', rt5R P C T0 Gw b o xb xo qk p c k x t i v W → Below W.heap.size W W' → rt5R P C T0 Gw b o xb xo qk p c k x t i v W' := by
  iterate 48 (refine all_succ ?_ ?_)
  · exact all_zero
  · exact fun _ _ _ h _ => h
  · exact fun _ _ _ h _ => h
  · exact fun _ _ _ h _ => h
  · exact fun _ _ _ h _ => h
  · exact fun _ _ _ h _ => h
  · exact fun _ _ _ h _ => h
  · exact fun _ _ _ h _ => h
  · exact fun _ _ _ h _ => h
  · exact fun _ _ _ h _ => h
  · exact fun _ _ _ h _ => h
  · exact fun _ _ _ h _ => h
  · exact fun _ _ _ h _ => h
  · exact fun _ _ _ h _ => h
  · exact fun _ _ _ h _ => h
  · exact fun _ _ _ h _ => h
  · exact fun _ _ _ h _ => h
  · exact fun _ _ _ h _ => h
  · exact fun _ _ _ h _ => h
  · exact fun _ _ _ h _ => h
  · exact fun _ _ _ h _ => h
  · exact fun _ _ _ h _ => h
  · exact fun _ _ _ h _ => h
  · exact fun _ _ _ h _ => h
  · exact fun _ _ _ h _ => h
  · exact fun _ _ _ h _ => h
  · exact fun _ _ _ h _ => h
  · exact fun _ _ _ h _ => h
  · exact fun _ _ _ h _ => h
  · exact fun _ _ _ h _ => h
  · exact fun _ _ _ h _ => h
  · exact fun _ _ _ h _ => h
  · exact fun _ _ _ h _ => h
  · exact fun _ _ _ h _ => h
  · exact fun _ _ _ h _ => h
  · exact fun _ _ _ h _ => h
  · exact fun _ _ _ h _ => h
  · exact fun _ _ _ h _ => h
  · exact fun _ _ _ h _ => h
  · exact fun _ _ _ h _ => h
  · exact fun _ _ _ h _ => h
  · exact fun _ _ _ h _ => h
  · exact fun _ _ _ h _ => h
  · exact fun _ _ _ h _ => h
  · exact fun _ _ _ h _ => h
  · exact fun _ _ _ h _ => h
  · exact fun _ _ _ h _ => h
  · exact fun _ _ _ h _ => h
  · exact fun _ _ _ h _ => h
set_option maxRecDepth 100000 in
set_option maxHeartbeats 8000000 in
theorem rt5_region {S : World → Prop} (hon : ∀ W W', S W → Below W.heap.size W W' → S W') {P C T0 Gw b o xb xo : Nat} {qk : Int} {p : Sp} {c : Cd} {k : Wk} {x : Wx} {t : Tu} (h0 : 0 ≤ qk) (hq : qk < p.s.ks.length) (hwr : IntKind.i64.wrap (-c.dra) = -c.dra) (hP : ∀ W, S W → Blk W P 27 #[.slice (some ⟨b, o, none⟩) p.s.ks.length p.kc, .slice (some ⟨xb, xo, none⟩) p.s.xs.length p.xc, .int .i64 p.s.flo, .int .i64 p.s.fhi, .int .i64 p.s.plo, .int .i64 p.s.phi]) (hC : ∀ W, S W → Blk W C 34 #[.int .i64 c.wax, .int .i64 c.dia, .int .i64 c.dra, .int .i64 c.clo, .int .i64 c.chi]) (hT : ∀ W, S W → Blk W T0 36 #[.int .i64 t.pull, .int .i64 t.flow, .int .i64 t.rise, .int .i64 t.spr, .int .i64 t.dra, .int .i64 t.cold]) (hG : ∀ W, S W → Blk W Gw 80 #[.string x.nm, .int .i64 x.flo, .int .i64 x.fhi, .int .i64 x.rlo, .int .i64 x.rhi, .int .i64 x.slo, .int .i64 x.shi, .int .i64 x.ch]) (hk : ∀ W, S W → W.cell? ⟨b, o + qk.toNat * 4 + 2, none⟩ = some (.int .i64 k.plo) ∧ W.cell? ⟨b, o + qk.toNat * 4 + 3, none⟩ = some (.int .i64 k.phi)) (hb0 : inB t.pull k.plo k.phi = true) (hb1 : inB t.flow x.flo x.fhi = true) (hb2 : inB t.rise x.rlo x.rhi = true) (hb3 : inB t.spr x.slo x.shi = true) (hb4 : inB t.dra (-c.dra) c.dra = true) (hb5 : inB t.cold c.clo c.chi = false) {Q : Exit → Act → World → Prop} {s0 s2 s3 s5 s10 s11 s12 s13 s14 s15 : Value} {W0 : World} (HL : Hid (S W0))
    (HQ : Hid (∀ (u : Nat → Value) (W : World), S W → Q .normal ⟨#[s0, .int .i64 qk, s2, s3, .pointer (some ⟨P, 0, none⟩), s5, .pointer (some ⟨C, 0, none⟩), .pointer (some ⟨T0, 0, none⟩), .bool false, .pointer (some ⟨Gw, 0, none⟩), s10, s11, s12, s13, s14, s15, u 0, u 1, u 2, u 3, u 4, u 5, u 6, u 7, u 8, u 9, u 10, u 11, u 12, u 13, u 14, u 15, u 16, u 17, u 18, u 19, u 20, u 21, u 22, u 23, u 24, u 25, u 26, u 27, u 28, u 29, u 30, u 31, u 32, u 33, u 34, u 35, u 36, u 37, u 38, u 39, u 40, u 41, u 42, u 43, u 44, u 45, u 46], []⟩ W)) :
    Code.wp Try.prog ((Try.f53.body.bind (regionAt 2)).getD .skip) Q ⟨#[s0, .int .i64 qk, s2, s3, .pointer (some ⟨P, 0, none⟩), s5, .pointer (some ⟨C, 0, none⟩), .pointer (some ⟨T0, 0, none⟩), .bool false, .pointer (some ⟨Gw, 0, none⟩), s10, s11, s12, s13, s14, s15, undef, undef, undef, undef, undef, undef, undef, undef, undef, undef, undef, undef, undef, undef, undef, undef, undef, undef, undef, undef, undef, undef, undef, undef, undef, undef, undef, undef, undef, undef, undef, undef, undef, undef, undef, undef, undef, undef, undef, undef, undef, undef, undef, undef, undef, undef, undef], []⟩ W0 := by
  conv => arg 2; whnf
  refine wp_region_spec (by kernel_rfl) 48 (by kernel_rfl) (fun u => ⟨#[s0, .int .i64 qk, s2, s3, .pointer (some ⟨P, 0, none⟩), s5, .pointer (some ⟨C, 0, none⟩), .pointer (some ⟨T0, 0, none⟩), u 47, .pointer (some ⟨Gw, 0, none⟩), s10, s11, s12, s13, s14, s15, u 0, u 1, u 2, u 3, u 4, u 5, u 6, u 7, u 8, u 9, u 10, u 11, u 12, u 13, u 14, u 15, u 16, u 17, u 18, u 19, u 20, u 21, u 22, u 23, u 24, u 25, u 26, u 27, u 28, u 29, u 30, u 31, u 32, u 33, u 34, u 35, u 36, u 37, u 38, u 39, u 40, u 41, u 42, u 43, u 44, u 45, u 46], []⟩) (fun i => if i = 47 then .bool false else undef) (fun W => Hid (S W)) (rt5R P C T0 Gw b o xb xo qk p c k x t) (by kernel_rfl) (hon _ _ HL.out (Below.refl _ _).drew) (fun i v W W2 hi h hb => rt5R_on P C T0 Gw b o xb xo qk p c k x t i hi v W W2 h hb) (by decide +kernel) ?_ ?_
  · iterate 48 (refine all_succ ?_ ?_)
    · exact all_zero
    · intro u W hB _ hd _ K hK
      have HK := Lib.hid hK; clear hK
      refine wpOp_of rfl (by rfl) ?_
      go_simp
      exact k_of (HK.out (.pointer (some ⟨T0, 0, none⟩)) _ rfl hB (Below.refl _ _)) (by kernel_rfl)
    · intro u W hB _ hd _ K hK
      have HK := Lib.hid hK; clear hK
      have e0 : u 0 = .pointer (some ⟨T0, 0, none⟩) := hd 0 (by decide +kernel)
      refine wpOp_of rfl (by rfl) ?_
      have z0 := (hT W hB.out).cell 0
      go_simp
      exact k_of (HK.out (.int .i64 t.pull) _ rfl hB (Below.refl _ _)) (by rw [← u1_eq e0]; kernel_rfl)
    · intro u W hB _ hd _ K hK
      have HK := Lib.hid hK; clear hK
      refine wpOp_of rfl (by rfl) ?_
      go_simp
      exact k_of (HK.out (.pointer (some ⟨P, 0, none⟩)) _ rfl hB (Below.refl _ _)) (by kernel_rfl)
    · intro u W hB _ hd _ K hK
      have HK := Lib.hid hK; clear hK
      have e2 : u 2 = .pointer (some ⟨P, 0, none⟩) := hd 2 (by decide +kernel)
      refine wpOp_of rfl (by rfl) ?_
      have z0 := (hP W hB.out).cell 0
      go_simp
      exact k_of (HK.out (.slice (some ⟨b, o, none⟩) p.s.ks.length p.kc) _ rfl hB (Below.refl _ _)) (by rw [← u1_eq e2]; kernel_rfl)
    · intro u W hB _ hd _ K hK
      have HK := Lib.hid hK; clear hK
      refine wpOp_of rfl (by rfl) ?_
      go_simp
      exact k_of (HK.out (.int .i64 qk) _ rfl hB (Below.refl _ _)) (by kernel_rfl)
    · intro u W hB _ hd _ K hK
      have HK := Lib.hid hK; clear hK
      have e3 : u 3 = .slice (some ⟨b, o, none⟩) p.s.ks.length p.kc := hd 3 (by decide +kernel)
      have e4 : u 4 = .int .i64 qk := hd 4 (by decide +kernel)
      refine wpOp_of rfl (by rfl) ?_
      go_simp
      exact k_of (HK.out (.pointer (some ⟨b, o + qk.toNat * 4, none⟩)) _ rfl hB (Below.refl _ _)) (by rw [← u1_eq e3, ← u1_eq e4]; kernel_rfl)
    · intro u W hB _ hd _ K hK
      have HK := Lib.hid hK; clear hK
      have e5 : u 5 = .pointer (some ⟨b, o + qk.toNat * 4, none⟩) := hd 5 (by decide +kernel)
      refine wpOp_of rfl (by rfl) ?_
      go_simp
      exact k_of (HK.out (.pointer (some ⟨b, o + qk.toNat * 4 + 2, none⟩)) _ rfl hB (Below.refl _ _)) (by rw [← u1_eq e5]; kernel_rfl)
    · intro u W hB _ hd _ K hK
      have HK := Lib.hid hK; clear hK
      have e6 : u 6 = .pointer (some ⟨b, o + qk.toNat * 4 + 2, none⟩) := hd 6 (by decide +kernel)
      refine wpOp_of rfl (by rfl) ?_
      obtain ⟨z0, z1⟩ := hk W hB.out
      go_simp
      exact k_of (HK.out (.agg #[.int .i64 k.plo, .int .i64 k.phi]) _ rfl hB (Below.refl _ _)) (by rw [← u1_eq e6]; kernel_rfl)
    · intro u W hB _ hd _ K hK
      have HK := Lib.hid hK; clear hK
      have e1 : u 1 = .int .i64 t.pull := hd 1 (by decide +kernel)
      have e7 : u 7 = .agg #[.int .i64 k.plo, .int .i64 k.phi] := hd 7 (by decide +kernel)
      refine wpOp_of rfl (by rfl) ?_
      go_simp
      refine (rat_any _ _ _ _).mono ?_; simp only [hb0]
      rintro e w' ⟨rfl, hb⟩
      exact k_of (HK.out (.bool true) _ rfl (hon _ _ hB.out hb) hb) (by rw [← u1_eq e1, ← u1_eq e7]; kernel_rfl)
    · intro u W hB _ hd _ K hK
      have HK := Lib.hid hK; clear hK
      have e8 : u 8 = .bool true := hd 8 (by decide +kernel)
      refine wpOp_of rfl (by rfl) ?_
      go_simp
      exact k_of (HK.out (.bool true) _ rfl hB (Below.refl _ _)) (by rw [← u1_eq e8]; kernel_rfl)
    · intro u W hB _ hd _ K hK
      have HK := Lib.hid hK; clear hK
      have e9 : u 9 = .bool true := hd 9 (by decide +kernel)
      refine wpOp_of rfl (by rw [← u1_eq e9]; kernel_rfl) ?_
      go_simp
      exact k_of (HK.out (.pointer (some ⟨T0, 1, none⟩)) _ rfl hB (Below.refl _ _)) (by rw [← u1_eq e9]; kernel_rfl)
    · intro u W hB _ hd _ K hK
      have HK := Lib.hid hK; clear hK
      have e9 : u 9 = .bool true := hd 9 (by decide +kernel)
      have e10 : u 10 = .pointer (some ⟨T0, 1, none⟩) := hd 10 (by decide +kernel)
      refine wpOp_of rfl (by rw [← u1_eq e9]; kernel_rfl) ?_
      have z1 := (hT W hB.out).cell 1
      go_simp
      exact k_of (HK.out (.int .i64 t.flow) _ rfl hB (Below.refl _ _)) (by rw [← u1_eq e9, ← u1_eq e10]; kernel_rfl)
    · intro u W hB _ hd _ K hK
      have HK := Lib.hid hK; clear hK
      have e9 : u 9 = .bool true := hd 9 (by decide +kernel)
      refine wpOp_of rfl (by rw [← u1_eq e9]; kernel_rfl) ?_
      go_simp
      exact k_of (HK.out (.pointer (some ⟨Gw, 1, none⟩)) _ rfl hB (Below.refl _ _)) (by rw [← u1_eq e9]; kernel_rfl)
    · intro u W hB _ hd _ K hK
      have HK := Lib.hid hK; clear hK
      have e9 : u 9 = .bool true := hd 9 (by decide +kernel)
      have e12 : u 12 = .pointer (some ⟨Gw, 1, none⟩) := hd 12 (by decide +kernel)
      refine wpOp_of rfl (by rw [← u1_eq e9]; kernel_rfl) ?_
      have z1 := (hG W hB.out).cell 1; have z2 := (hG W hB.out).cell 2
      go_simp
      exact k_of (HK.out (.agg #[.int .i64 x.flo, .int .i64 x.fhi]) _ rfl hB (Below.refl _ _)) (by rw [← u1_eq e9, ← u1_eq e12]; kernel_rfl)
    · intro u W hB _ hd _ K hK
      have HK := Lib.hid hK; clear hK
      have e9 : u 9 = .bool true := hd 9 (by decide +kernel)
      have e11 : u 11 = .int .i64 t.flow := hd 11 (by decide +kernel)
      have e13 : u 13 = .agg #[.int .i64 x.flo, .int .i64 x.fhi] := hd 13 (by decide +kernel)
      refine wpOp_of rfl (by rw [← u1_eq e9]; kernel_rfl) ?_
      go_simp
      refine (rat_any _ _ _ _).mono ?_; simp only [hb1]
      rintro e w' ⟨rfl, hb⟩
      exact k_of (HK.out (.bool true) _ rfl (hon _ _ hB.out hb) hb) (by rw [← u1_eq e9, ← u1_eq e11, ← u1_eq e13]; kernel_rfl)
    · intro u W hB _ hd _ K hK
      have HK := Lib.hid hK; clear hK
      have e9 : u 9 = .bool true := hd 9 (by decide +kernel)
      have e14 : u 14 = .bool true := hd 14 (by decide +kernel)
      refine wpOp_of rfl (by rfl) ?_
      go_simp
      exact k_of (HK.out (.bool true) _ rfl hB (Below.refl _ _)) (by rw [← u1_eq e9, ← u1_eq e14]; kernel_rfl)
    · intro u W hB _ hd _ K hK
      have HK := Lib.hid hK; clear hK
      have e15 : u 15 = .bool true := hd 15 (by decide +kernel)
      refine wpOp_of rfl (by rfl) ?_
      go_simp
      exact k_of (HK.out (.bool true) _ rfl hB (Below.refl _ _)) (by rw [← u1_eq e15]; kernel_rfl)
    · intro u W hB _ hd _ K hK
      have HK := Lib.hid hK; clear hK
      have e16 : u 16 = .bool true := hd 16 (by decide +kernel)
      refine wpOp_of rfl (by rw [← u1_eq e16]; kernel_rfl) ?_
      go_simp
      exact k_of (HK.out (.pointer (some ⟨T0, 2, none⟩)) _ rfl hB (Below.refl _ _)) (by rw [← u1_eq e16]; kernel_rfl)
    · intro u W hB _ hd _ K hK
      have HK := Lib.hid hK; clear hK
      have e16 : u 16 = .bool true := hd 16 (by decide +kernel)
      have e17 : u 17 = .pointer (some ⟨T0, 2, none⟩) := hd 17 (by decide +kernel)
      refine wpOp_of rfl (by rw [← u1_eq e16]; kernel_rfl) ?_
      have z2 := (hT W hB.out).cell 2
      go_simp
      exact k_of (HK.out (.int .i64 t.rise) _ rfl hB (Below.refl _ _)) (by rw [← u1_eq e16, ← u1_eq e17]; kernel_rfl)
    · intro u W hB _ hd _ K hK
      have HK := Lib.hid hK; clear hK
      have e16 : u 16 = .bool true := hd 16 (by decide +kernel)
      refine wpOp_of rfl (by rw [← u1_eq e16]; kernel_rfl) ?_
      go_simp
      exact k_of (HK.out (.pointer (some ⟨Gw, 3, none⟩)) _ rfl hB (Below.refl _ _)) (by rw [← u1_eq e16]; kernel_rfl)
    · intro u W hB _ hd _ K hK
      have HK := Lib.hid hK; clear hK
      have e16 : u 16 = .bool true := hd 16 (by decide +kernel)
      have e19 : u 19 = .pointer (some ⟨Gw, 3, none⟩) := hd 19 (by decide +kernel)
      refine wpOp_of rfl (by rw [← u1_eq e16]; kernel_rfl) ?_
      have z3 := (hG W hB.out).cell 3; have z4 := (hG W hB.out).cell 4
      go_simp
      exact k_of (HK.out (.agg #[.int .i64 x.rlo, .int .i64 x.rhi]) _ rfl hB (Below.refl _ _)) (by rw [← u1_eq e16, ← u1_eq e19]; kernel_rfl)
    · intro u W hB _ hd _ K hK
      have HK := Lib.hid hK; clear hK
      have e16 : u 16 = .bool true := hd 16 (by decide +kernel)
      have e18 : u 18 = .int .i64 t.rise := hd 18 (by decide +kernel)
      have e20 : u 20 = .agg #[.int .i64 x.rlo, .int .i64 x.rhi] := hd 20 (by decide +kernel)
      refine wpOp_of rfl (by rw [← u1_eq e16]; kernel_rfl) ?_
      go_simp
      refine (rat_any _ _ _ _).mono ?_; simp only [hb2]
      rintro e w' ⟨rfl, hb⟩
      exact k_of (HK.out (.bool true) _ rfl (hon _ _ hB.out hb) hb) (by rw [← u1_eq e16, ← u1_eq e18, ← u1_eq e20]; kernel_rfl)
    · intro u W hB _ hd _ K hK
      have HK := Lib.hid hK; clear hK
      have e16 : u 16 = .bool true := hd 16 (by decide +kernel)
      have e21 : u 21 = .bool true := hd 21 (by decide +kernel)
      refine wpOp_of rfl (by rfl) ?_
      go_simp
      exact k_of (HK.out (.bool true) _ rfl hB (Below.refl _ _)) (by rw [← u1_eq e16, ← u1_eq e21]; kernel_rfl)
    · intro u W hB _ hd _ K hK
      have HK := Lib.hid hK; clear hK
      have e22 : u 22 = .bool true := hd 22 (by decide +kernel)
      refine wpOp_of rfl (by rfl) ?_
      go_simp
      exact k_of (HK.out (.bool true) _ rfl hB (Below.refl _ _)) (by rw [← u1_eq e22]; kernel_rfl)
    · intro u W hB _ hd _ K hK
      have HK := Lib.hid hK; clear hK
      have e23 : u 23 = .bool true := hd 23 (by decide +kernel)
      refine wpOp_of rfl (by rw [← u1_eq e23]; kernel_rfl) ?_
      go_simp
      exact k_of (HK.out (.pointer (some ⟨T0, 3, none⟩)) _ rfl hB (Below.refl _ _)) (by rw [← u1_eq e23]; kernel_rfl)
    · intro u W hB _ hd _ K hK
      have HK := Lib.hid hK; clear hK
      have e23 : u 23 = .bool true := hd 23 (by decide +kernel)
      have e24 : u 24 = .pointer (some ⟨T0, 3, none⟩) := hd 24 (by decide +kernel)
      refine wpOp_of rfl (by rw [← u1_eq e23]; kernel_rfl) ?_
      have z3 := (hT W hB.out).cell 3
      go_simp
      exact k_of (HK.out (.int .i64 t.spr) _ rfl hB (Below.refl _ _)) (by rw [← u1_eq e23, ← u1_eq e24]; kernel_rfl)
    · intro u W hB _ hd _ K hK
      have HK := Lib.hid hK; clear hK
      have e23 : u 23 = .bool true := hd 23 (by decide +kernel)
      refine wpOp_of rfl (by rw [← u1_eq e23]; kernel_rfl) ?_
      go_simp
      exact k_of (HK.out (.pointer (some ⟨Gw, 5, none⟩)) _ rfl hB (Below.refl _ _)) (by rw [← u1_eq e23]; kernel_rfl)
    · intro u W hB _ hd _ K hK
      have HK := Lib.hid hK; clear hK
      have e23 : u 23 = .bool true := hd 23 (by decide +kernel)
      have e26 : u 26 = .pointer (some ⟨Gw, 5, none⟩) := hd 26 (by decide +kernel)
      refine wpOp_of rfl (by rw [← u1_eq e23]; kernel_rfl) ?_
      have z5 := (hG W hB.out).cell 5; have z6 := (hG W hB.out).cell 6
      go_simp
      exact k_of (HK.out (.agg #[.int .i64 x.slo, .int .i64 x.shi]) _ rfl hB (Below.refl _ _)) (by rw [← u1_eq e23, ← u1_eq e26]; kernel_rfl)
    · intro u W hB _ hd _ K hK
      have HK := Lib.hid hK; clear hK
      have e23 : u 23 = .bool true := hd 23 (by decide +kernel)
      have e25 : u 25 = .int .i64 t.spr := hd 25 (by decide +kernel)
      have e27 : u 27 = .agg #[.int .i64 x.slo, .int .i64 x.shi] := hd 27 (by decide +kernel)
      refine wpOp_of rfl (by rw [← u1_eq e23]; kernel_rfl) ?_
      go_simp
      refine (rat_any _ _ _ _).mono ?_; simp only [hb3]
      rintro e w' ⟨rfl, hb⟩
      exact k_of (HK.out (.bool true) _ rfl (hon _ _ hB.out hb) hb) (by rw [← u1_eq e23, ← u1_eq e25, ← u1_eq e27]; kernel_rfl)
    · intro u W hB _ hd _ K hK
      have HK := Lib.hid hK; clear hK
      have e23 : u 23 = .bool true := hd 23 (by decide +kernel)
      have e28 : u 28 = .bool true := hd 28 (by decide +kernel)
      refine wpOp_of rfl (by rfl) ?_
      go_simp
      exact k_of (HK.out (.bool true) _ rfl hB (Below.refl _ _)) (by rw [← u1_eq e23, ← u1_eq e28]; kernel_rfl)
    · intro u W hB _ hd _ K hK
      have HK := Lib.hid hK; clear hK
      have e29 : u 29 = .bool true := hd 29 (by decide +kernel)
      refine wpOp_of rfl (by rfl) ?_
      go_simp
      exact k_of (HK.out (.bool true) _ rfl hB (Below.refl _ _)) (by rw [← u1_eq e29]; kernel_rfl)
    · intro u W hB _ hd _ K hK
      have HK := Lib.hid hK; clear hK
      have e30 : u 30 = .bool true := hd 30 (by decide +kernel)
      refine wpOp_of rfl (by rw [← u1_eq e30]; kernel_rfl) ?_
      go_simp
      exact k_of (HK.out (.pointer (some ⟨T0, 4, none⟩)) _ rfl hB (Below.refl _ _)) (by rw [← u1_eq e30]; kernel_rfl)
    · intro u W hB _ hd _ K hK
      have HK := Lib.hid hK; clear hK
      have e30 : u 30 = .bool true := hd 30 (by decide +kernel)
      have e31 : u 31 = .pointer (some ⟨T0, 4, none⟩) := hd 31 (by decide +kernel)
      refine wpOp_of rfl (by rw [← u1_eq e30]; kernel_rfl) ?_
      have z4 := (hT W hB.out).cell 4
      go_simp
      exact k_of (HK.out (.int .i64 t.dra) _ rfl hB (Below.refl _ _)) (by rw [← u1_eq e30, ← u1_eq e31]; kernel_rfl)
    · intro u W hB _ hd _ K hK
      have HK := Lib.hid hK; clear hK
      have e30 : u 30 = .bool true := hd 30 (by decide +kernel)
      refine wpOp_of rfl (by rw [← u1_eq e30]; kernel_rfl) ?_
      go_simp
      exact k_of (HK.out (.pointer (some ⟨C, 2, none⟩)) _ rfl hB (Below.refl _ _)) (by rw [← u1_eq e30]; kernel_rfl)
    · intro u W hB _ hd _ K hK
      have HK := Lib.hid hK; clear hK
      have e30 : u 30 = .bool true := hd 30 (by decide +kernel)
      have e33 : u 33 = .pointer (some ⟨C, 2, none⟩) := hd 33 (by decide +kernel)
      refine wpOp_of rfl (by rw [← u1_eq e30]; kernel_rfl) ?_
      have z2 := (hC W hB.out).cell 2
      go_simp
      exact k_of (HK.out (.int .i64 c.dra) _ rfl hB (Below.refl _ _)) (by rw [← u1_eq e30, ← u1_eq e33]; kernel_rfl)
    · intro u W hB _ hd _ K hK
      have HK := Lib.hid hK; clear hK
      have e30 : u 30 = .bool true := hd 30 (by decide +kernel)
      have e34 : u 34 = .int .i64 c.dra := hd 34 (by decide +kernel)
      refine wpOp_of rfl (by rw [← u1_eq e30]; kernel_rfl) ?_
      go_simp
      exact k_of (HK.out (.int .i64 (-c.dra)) _ rfl hB (Below.refl _ _)) (by rw [← u1_eq e30, ← u1_eq e34]; kernel_rfl)
    · intro u W hB _ hd _ K hK
      have HK := Lib.hid hK; clear hK
      have e30 : u 30 = .bool true := hd 30 (by decide +kernel)
      refine wpOp_of rfl (by rw [← u1_eq e30]; kernel_rfl) ?_
      go_simp
      exact k_of (HK.out (.pointer (some ⟨C, 2, none⟩)) _ rfl hB (Below.refl _ _)) (by rw [← u1_eq e30]; kernel_rfl)
    · intro u W hB _ hd _ K hK
      have HK := Lib.hid hK; clear hK
      have e30 : u 30 = .bool true := hd 30 (by decide +kernel)
      have e36 : u 36 = .pointer (some ⟨C, 2, none⟩) := hd 36 (by decide +kernel)
      refine wpOp_of rfl (by rw [← u1_eq e30]; kernel_rfl) ?_
      have z2 := (hC W hB.out).cell 2
      go_simp
      exact k_of (HK.out (.int .i64 c.dra) _ rfl hB (Below.refl _ _)) (by rw [← u1_eq e30, ← u1_eq e36]; kernel_rfl)
    · intro u W hB _ hd _ K hK
      have HK := Lib.hid hK; clear hK
      have e30 : u 30 = .bool true := hd 30 (by decide +kernel)
      have e32 : u 32 = .int .i64 t.dra := hd 32 (by decide +kernel)
      have e35 : u 35 = .int .i64 (-c.dra) := hd 35 (by decide +kernel)
      have e37 : u 37 = .int .i64 c.dra := hd 37 (by decide +kernel)
      refine wpOp_of rfl (by rw [← u1_eq e30]; kernel_rfl) ?_
      go_simp
      refine (rin3_any _ _ _ _).mono ?_; simp only [hb4]
      rintro e w' ⟨rfl, rfl⟩
      exact k_of (HK.out (.bool true) _ rfl hB (Below.refl _ _)) (by rw [← u1_eq e30, ← u1_eq e32, ← u1_eq e35, ← u1_eq e37]; kernel_rfl)
    · intro u W hB _ hd _ K hK
      have HK := Lib.hid hK; clear hK
      have e30 : u 30 = .bool true := hd 30 (by decide +kernel)
      have e38 : u 38 = .bool true := hd 38 (by decide +kernel)
      refine wpOp_of rfl (by rfl) ?_
      go_simp
      exact k_of (HK.out (.bool true) _ rfl hB (Below.refl _ _)) (by rw [← u1_eq e30, ← u1_eq e38]; kernel_rfl)
    · intro u W hB _ hd _ K hK
      have HK := Lib.hid hK; clear hK
      have e39 : u 39 = .bool true := hd 39 (by decide +kernel)
      refine wpOp_of rfl (by rfl) ?_
      go_simp
      exact k_of (HK.out (.bool true) _ rfl hB (Below.refl _ _)) (by rw [← u1_eq e39]; kernel_rfl)
    · intro u W hB _ hd _ K hK
      have HK := Lib.hid hK; clear hK
      have e40 : u 40 = .bool true := hd 40 (by decide +kernel)
      refine wpOp_of rfl (by rw [← u1_eq e40]; kernel_rfl) ?_
      go_simp
      exact k_of (HK.out (.pointer (some ⟨T0, 5, none⟩)) _ rfl hB (Below.refl _ _)) (by rw [← u1_eq e40]; kernel_rfl)
    · intro u W hB _ hd _ K hK
      have HK := Lib.hid hK; clear hK
      have e40 : u 40 = .bool true := hd 40 (by decide +kernel)
      have e41 : u 41 = .pointer (some ⟨T0, 5, none⟩) := hd 41 (by decide +kernel)
      refine wpOp_of rfl (by rw [← u1_eq e40]; kernel_rfl) ?_
      have z5 := (hT W hB.out).cell 5
      go_simp
      exact k_of (HK.out (.int .i64 t.cold) _ rfl hB (Below.refl _ _)) (by rw [← u1_eq e40, ← u1_eq e41]; kernel_rfl)
    · intro u W hB _ hd _ K hK
      have HK := Lib.hid hK; clear hK
      have e40 : u 40 = .bool true := hd 40 (by decide +kernel)
      refine wpOp_of rfl (by rw [← u1_eq e40]; kernel_rfl) ?_
      go_simp
      exact k_of (HK.out (.pointer (some ⟨C, 3, none⟩)) _ rfl hB (Below.refl _ _)) (by rw [← u1_eq e40]; kernel_rfl)
    · intro u W hB _ hd _ K hK
      have HK := Lib.hid hK; clear hK
      have e40 : u 40 = .bool true := hd 40 (by decide +kernel)
      have e43 : u 43 = .pointer (some ⟨C, 3, none⟩) := hd 43 (by decide +kernel)
      refine wpOp_of rfl (by rw [← u1_eq e40]; kernel_rfl) ?_
      have z3 := (hC W hB.out).cell 3; have z4 := (hC W hB.out).cell 4
      go_simp
      exact k_of (HK.out (.agg #[.int .i64 c.clo, .int .i64 c.chi]) _ rfl hB (Below.refl _ _)) (by rw [← u1_eq e40, ← u1_eq e43]; kernel_rfl)
    · intro u W hB _ hd _ K hK
      have HK := Lib.hid hK; clear hK
      have e40 : u 40 = .bool true := hd 40 (by decide +kernel)
      have e42 : u 42 = .int .i64 t.cold := hd 42 (by decide +kernel)
      have e44 : u 44 = .agg #[.int .i64 c.clo, .int .i64 c.chi] := hd 44 (by decide +kernel)
      refine wpOp_of rfl (by rw [← u1_eq e40]; kernel_rfl) ?_
      go_simp
      refine (rat_any _ _ _ _).mono ?_; simp only [hb5]
      rintro e w' ⟨rfl, hb⟩
      exact k_of (HK.out (.bool false) _ rfl (hon _ _ hB.out hb) hb) (by rw [← u1_eq e40, ← u1_eq e42, ← u1_eq e44]; kernel_rfl)
    · intro u W hB _ hd _ K hK
      have HK := Lib.hid hK; clear hK
      have e40 : u 40 = .bool true := hd 40 (by decide +kernel)
      have e45 : u 45 = .bool false := hd 45 (by decide +kernel)
      refine wpOp_of rfl (by rfl) ?_
      go_simp
      exact k_of (HK.out (.bool false) _ rfl hB (Below.refl _ _)) (by rw [← u1_eq e40, ← u1_eq e45]; kernel_rfl)
    · intro u W hB _ hd _ K hK
      have HK := Lib.hid hK; clear hK
      have e46 : u 46 = .bool false := hd 46 (by decide +kernel)
      refine wpOp_of rfl (by rfl) ?_
      go_simp
      exact k_of (HK.out (.bool false) _ rfl hB (Below.refl _ _)) (by rw [← u1_eq e46]; kernel_rfl)
  · intro u W hB hd
    have e47 : u 47 = .bool false := hd 47 (by decide)
    exact k_of (HQ.out u W hB.out) (by simp only [e47])

/-- What each operation leaves. -/
def rt6R (P C T0 Gw b o _xb _xo : Nat) (qk : Int) (p : Sp) (c : Cd) (k : Wk) (x : Wx) (t : Tu) : Nat → Value → World → Prop
  | 0, v, _ => v = .pointer (some ⟨T0, 0, none⟩)
  | 1, v, _ => v = .int .i64 t.pull
  | 2, v, _ => v = .pointer (some ⟨P, 0, none⟩)
  | 3, v, _ => v = .slice (some ⟨b, o, none⟩) p.s.ks.length p.kc
  | 4, v, _ => v = .int .i64 qk
  | 5, v, _ => v = .pointer (some ⟨b, o + qk.toNat * 4, none⟩)
  | 6, v, _ => v = .pointer (some ⟨b, o + qk.toNat * 4 + 2, none⟩)
  | 7, v, _ => v = .agg #[.int .i64 k.plo, .int .i64 k.phi]
  | 8, v, _ => v = .bool true
  | 9, v, _ => v = .bool true
  | 10, v, _ => v = .pointer (some ⟨T0, 1, none⟩)
  | 11, v, _ => v = .int .i64 t.flow
  | 12, v, _ => v = .pointer (some ⟨Gw, 1, none⟩)
  | 13, v, _ => v = .agg #[.int .i64 x.flo, .int .i64 x.fhi]
  | 14, v, _ => v = .bool true
  | 15, v, _ => v = .bool true
  | 16, v, _ => v = .bool true
  | 17, v, _ => v = .pointer (some ⟨T0, 2, none⟩)
  | 18, v, _ => v = .int .i64 t.rise
  | 19, v, _ => v = .pointer (some ⟨Gw, 3, none⟩)
  | 20, v, _ => v = .agg #[.int .i64 x.rlo, .int .i64 x.rhi]
  | 21, v, _ => v = .bool true
  | 22, v, _ => v = .bool true
  | 23, v, _ => v = .bool true
  | 24, v, _ => v = .pointer (some ⟨T0, 3, none⟩)
  | 25, v, _ => v = .int .i64 t.spr
  | 26, v, _ => v = .pointer (some ⟨Gw, 5, none⟩)
  | 27, v, _ => v = .agg #[.int .i64 x.slo, .int .i64 x.shi]
  | 28, v, _ => v = .bool true
  | 29, v, _ => v = .bool true
  | 30, v, _ => v = .bool true
  | 31, v, _ => v = .pointer (some ⟨T0, 4, none⟩)
  | 32, v, _ => v = .int .i64 t.dra
  | 33, v, _ => v = .pointer (some ⟨C, 2, none⟩)
  | 34, v, _ => v = .int .i64 c.dra
  | 35, v, _ => v = .int .i64 (-c.dra)
  | 36, v, _ => v = .pointer (some ⟨C, 2, none⟩)
  | 37, v, _ => v = .int .i64 c.dra
  | 38, v, _ => v = .bool true
  | 39, v, _ => v = .bool true
  | 40, v, _ => v = .bool true
  | 41, v, _ => v = .pointer (some ⟨T0, 5, none⟩)
  | 42, v, _ => v = .int .i64 t.cold
  | 43, v, _ => v = .pointer (some ⟨C, 3, none⟩)
  | 44, v, _ => v = .agg #[.int .i64 c.clo, .int .i64 c.chi]
  | 45, v, _ => v = .bool true
  | 46, v, _ => v = .bool true
  | 47, v, _ => v = .bool true
  | _, _, _ => True
theorem rt6R_on (P C T0 Gw b o xb xo : Nat) (qk : Int) (p : Sp) (c : Cd) (k : Wk) (x : Wx) (t : Tu) : ∀ i, i < 48 → ∀ v W W', rt6R P C T0 Gw b o xb xo qk p c k x t i v W → Below W.heap.size W W' → rt6R P C T0 Gw b o xb xo qk p c k x t i v W' := by
  iterate 48 (refine all_succ ?_ ?_)
  · exact all_zero
  · exact fun _ _ _ h _ => h
  · exact fun _ _ _ h _ => h
  · exact fun _ _ _ h _ => h
  · exact fun _ _ _ h _ => h
  · exact fun _ _ _ h _ => h
  · exact fun _ _ _ h _ => h
  · exact fun _ _ _ h _ => h
  · exact fun _ _ _ h _ => h
  · exact fun _ _ _ h _ => h
  · exact fun _ _ _ h _ => h
  · exact fun _ _ _ h _ => h
  · exact fun _ _ _ h _ => h
  · exact fun _ _ _ h _ => h
  · exact fun _ _ _ h _ => h
  · exact fun _ _ _ h _ => h
  · exact fun _ _ _ h _ => h
  · exact fun _ _ _ h _ => h
  · exact fun _ _ _ h _ => h
  · exact fun _ _ _ h _ => h
  · exact fun _ _ _ h _ => h
  · exact fun _ _ _ h _ => h
  · exact fun _ _ _ h _ => h
  · exact fun _ _ _ h _ => h
  · exact fun _ _ _ h _ => h
  · exact fun _ _ _ h _ => h
  · exact fun _ _ _ h _ => h
  · exact fun _ _ _ h _ => h
  · exact fun _ _ _ h _ => h
  · exact fun _ _ _ h _ => h
  · exact fun _ _ _ h _ => h
  · exact fun _ _ _ h _ => h
  · exact fun _ _ _ h _ => h
  · exact fun _ _ _ h _ => h
  · exact fun _ _ _ h _ => h
  · exact fun _ _ _ h _ => h
  · exact fun _ _ _ h _ => h
  · exact fun _ _ _ h _ => h
  · exact fun _ _ _ h _ => h
  · exact fun _ _ _ h _ => h
  · exact fun _ _ _ h _ => h
  · exact fun _ _ _ h _ => h
  · exact fun _ _ _ h _ => h
  · exact fun _ _ _ h _ => h
  · exact fun _ _ _ h _ => h
  · exact fun _ _ _ h _ => h
  · exact fun _ _ _ h _ => h
  · exact fun _ _ _ h _ => h
  · exact fun _ _ _ h _ => h
set_option maxRecDepth 100000 in
set_option maxHeartbeats 8000000 in
theorem rt6_region {S : World → Prop} (hon : ∀ W W', S W → Below W.heap.size W W' → S W') {P C T0 Gw b o xb xo : Nat} {qk : Int} {p : Sp} {c : Cd} {k : Wk} {x : Wx} {t : Tu} (h0 : 0 ≤ qk) (hq : qk < p.s.ks.length) (hwr : IntKind.i64.wrap (-c.dra) = -c.dra) (hP : ∀ W, S W → Blk W P 27 #[.slice (some ⟨b, o, none⟩) p.s.ks.length p.kc, .slice (some ⟨xb, xo, none⟩) p.s.xs.length p.xc, .int .i64 p.s.flo, .int .i64 p.s.fhi, .int .i64 p.s.plo, .int .i64 p.s.phi]) (hC : ∀ W, S W → Blk W C 34 #[.int .i64 c.wax, .int .i64 c.dia, .int .i64 c.dra, .int .i64 c.clo, .int .i64 c.chi]) (hT : ∀ W, S W → Blk W T0 36 #[.int .i64 t.pull, .int .i64 t.flow, .int .i64 t.rise, .int .i64 t.spr, .int .i64 t.dra, .int .i64 t.cold]) (hG : ∀ W, S W → Blk W Gw 80 #[.string x.nm, .int .i64 x.flo, .int .i64 x.fhi, .int .i64 x.rlo, .int .i64 x.rhi, .int .i64 x.slo, .int .i64 x.shi, .int .i64 x.ch]) (hk : ∀ W, S W → W.cell? ⟨b, o + qk.toNat * 4 + 2, none⟩ = some (.int .i64 k.plo) ∧ W.cell? ⟨b, o + qk.toNat * 4 + 3, none⟩ = some (.int .i64 k.phi)) (hb0 : inB t.pull k.plo k.phi = true) (hb1 : inB t.flow x.flo x.fhi = true) (hb2 : inB t.rise x.rlo x.rhi = true) (hb3 : inB t.spr x.slo x.shi = true) (hb4 : inB t.dra (-c.dra) c.dra = true) (hb5 : inB t.cold c.clo c.chi = true) {Q : Exit → Act → World → Prop} {s0 s2 s3 s5 s10 s11 s12 s13 s14 s15 : Value} {W0 : World} (HL : Hid (S W0))
    (HQ : Hid (∀ (u : Nat → Value) (W : World), S W → Q .normal ⟨#[s0, .int .i64 qk, s2, s3, .pointer (some ⟨P, 0, none⟩), s5, .pointer (some ⟨C, 0, none⟩), .pointer (some ⟨T0, 0, none⟩), .bool true, .pointer (some ⟨Gw, 0, none⟩), s10, s11, s12, s13, s14, s15, u 0, u 1, u 2, u 3, u 4, u 5, u 6, u 7, u 8, u 9, u 10, u 11, u 12, u 13, u 14, u 15, u 16, u 17, u 18, u 19, u 20, u 21, u 22, u 23, u 24, u 25, u 26, u 27, u 28, u 29, u 30, u 31, u 32, u 33, u 34, u 35, u 36, u 37, u 38, u 39, u 40, u 41, u 42, u 43, u 44, u 45, u 46], []⟩ W)) :
    Code.wp Try.prog ((Try.f53.body.bind (regionAt 2)).getD .skip) Q ⟨#[s0, .int .i64 qk, s2, s3, .pointer (some ⟨P, 0, none⟩), s5, .pointer (some ⟨C, 0, none⟩), .pointer (some ⟨T0, 0, none⟩), .bool false, .pointer (some ⟨Gw, 0, none⟩), s10, s11, s12, s13, s14, s15, undef, undef, undef, undef, undef, undef, undef, undef, undef, undef, undef, undef, undef, undef, undef, undef, undef, undef, undef, undef, undef, undef, undef, undef, undef, undef, undef, undef, undef, undef, undef, undef, undef, undef, undef, undef, undef, undef, undef, undef, undef, undef, undef, undef, undef, undef, undef], []⟩ W0 := by
  conv => arg 2; whnf
  refine wp_region_spec (by kernel_rfl) 48 (by kernel_rfl) (fun u => ⟨#[s0, .int .i64 qk, s2, s3, .pointer (some ⟨P, 0, none⟩), s5, .pointer (some ⟨C, 0, none⟩), .pointer (some ⟨T0, 0, none⟩), u 47, .pointer (some ⟨Gw, 0, none⟩), s10, s11, s12, s13, s14, s15, u 0, u 1, u 2, u 3, u 4, u 5, u 6, u 7, u 8, u 9, u 10, u 11, u 12, u 13, u 14, u 15, u 16, u 17, u 18, u 19, u 20, u 21, u 22, u 23, u 24, u 25, u 26, u 27, u 28, u 29, u 30, u 31, u 32, u 33, u 34, u 35, u 36, u 37, u 38, u 39, u 40, u 41, u 42, u 43, u 44, u 45, u 46], []⟩) (fun i => if i = 47 then .bool false else undef) (fun W => Hid (S W)) (rt6R P C T0 Gw b o xb xo qk p c k x t) (by kernel_rfl) (hon _ _ HL.out (Below.refl _ _).drew) (fun i v W W2 hi h hb => rt6R_on P C T0 Gw b o xb xo qk p c k x t i hi v W W2 h hb) (by decide +kernel) ?_ ?_
  · iterate 48 (refine all_succ ?_ ?_)
    · exact all_zero
    · intro u W hB _ hd _ K hK
      have HK := Lib.hid hK; clear hK
      refine wpOp_of rfl (by rfl) ?_
      go_simp
      exact k_of (HK.out (.pointer (some ⟨T0, 0, none⟩)) _ rfl hB (Below.refl _ _)) (by kernel_rfl)
    · intro u W hB _ hd _ K hK
      have HK := Lib.hid hK; clear hK
      have e0 : u 0 = .pointer (some ⟨T0, 0, none⟩) := hd 0 (by decide +kernel)
      refine wpOp_of rfl (by rfl) ?_
      have z0 := (hT W hB.out).cell 0
      go_simp
      exact k_of (HK.out (.int .i64 t.pull) _ rfl hB (Below.refl _ _)) (by rw [← u1_eq e0]; kernel_rfl)
    · intro u W hB _ hd _ K hK
      have HK := Lib.hid hK; clear hK
      refine wpOp_of rfl (by rfl) ?_
      go_simp
      exact k_of (HK.out (.pointer (some ⟨P, 0, none⟩)) _ rfl hB (Below.refl _ _)) (by kernel_rfl)
    · intro u W hB _ hd _ K hK
      have HK := Lib.hid hK; clear hK
      have e2 : u 2 = .pointer (some ⟨P, 0, none⟩) := hd 2 (by decide +kernel)
      refine wpOp_of rfl (by rfl) ?_
      have z0 := (hP W hB.out).cell 0
      go_simp
      exact k_of (HK.out (.slice (some ⟨b, o, none⟩) p.s.ks.length p.kc) _ rfl hB (Below.refl _ _)) (by rw [← u1_eq e2]; kernel_rfl)
    · intro u W hB _ hd _ K hK
      have HK := Lib.hid hK; clear hK
      refine wpOp_of rfl (by rfl) ?_
      go_simp
      exact k_of (HK.out (.int .i64 qk) _ rfl hB (Below.refl _ _)) (by kernel_rfl)
    · intro u W hB _ hd _ K hK
      have HK := Lib.hid hK; clear hK
      have e3 : u 3 = .slice (some ⟨b, o, none⟩) p.s.ks.length p.kc := hd 3 (by decide +kernel)
      have e4 : u 4 = .int .i64 qk := hd 4 (by decide +kernel)
      refine wpOp_of rfl (by rfl) ?_
      go_simp
      exact k_of (HK.out (.pointer (some ⟨b, o + qk.toNat * 4, none⟩)) _ rfl hB (Below.refl _ _)) (by rw [← u1_eq e3, ← u1_eq e4]; kernel_rfl)
    · intro u W hB _ hd _ K hK
      have HK := Lib.hid hK; clear hK
      have e5 : u 5 = .pointer (some ⟨b, o + qk.toNat * 4, none⟩) := hd 5 (by decide +kernel)
      refine wpOp_of rfl (by rfl) ?_
      go_simp
      exact k_of (HK.out (.pointer (some ⟨b, o + qk.toNat * 4 + 2, none⟩)) _ rfl hB (Below.refl _ _)) (by rw [← u1_eq e5]; kernel_rfl)
    · intro u W hB _ hd _ K hK
      have HK := Lib.hid hK; clear hK
      have e6 : u 6 = .pointer (some ⟨b, o + qk.toNat * 4 + 2, none⟩) := hd 6 (by decide +kernel)
      refine wpOp_of rfl (by rfl) ?_
      obtain ⟨z0, z1⟩ := hk W hB.out
      go_simp
      exact k_of (HK.out (.agg #[.int .i64 k.plo, .int .i64 k.phi]) _ rfl hB (Below.refl _ _)) (by rw [← u1_eq e6]; kernel_rfl)
    · intro u W hB _ hd _ K hK
      have HK := Lib.hid hK; clear hK
      have e1 : u 1 = .int .i64 t.pull := hd 1 (by decide +kernel)
      have e7 : u 7 = .agg #[.int .i64 k.plo, .int .i64 k.phi] := hd 7 (by decide +kernel)
      refine wpOp_of rfl (by rfl) ?_
      go_simp
      refine (rat_any _ _ _ _).mono ?_; simp only [hb0]
      rintro e w' ⟨rfl, hb⟩
      exact k_of (HK.out (.bool true) _ rfl (hon _ _ hB.out hb) hb) (by rw [← u1_eq e1, ← u1_eq e7]; kernel_rfl)
    · intro u W hB _ hd _ K hK
      have HK := Lib.hid hK; clear hK
      have e8 : u 8 = .bool true := hd 8 (by decide +kernel)
      refine wpOp_of rfl (by rfl) ?_
      go_simp
      exact k_of (HK.out (.bool true) _ rfl hB (Below.refl _ _)) (by rw [← u1_eq e8]; kernel_rfl)
    · intro u W hB _ hd _ K hK
      have HK := Lib.hid hK; clear hK
      have e9 : u 9 = .bool true := hd 9 (by decide +kernel)
      refine wpOp_of rfl (by rw [← u1_eq e9]; kernel_rfl) ?_
      go_simp
      exact k_of (HK.out (.pointer (some ⟨T0, 1, none⟩)) _ rfl hB (Below.refl _ _)) (by rw [← u1_eq e9]; kernel_rfl)
    · intro u W hB _ hd _ K hK
      have HK := Lib.hid hK; clear hK
      have e9 : u 9 = .bool true := hd 9 (by decide +kernel)
      have e10 : u 10 = .pointer (some ⟨T0, 1, none⟩) := hd 10 (by decide +kernel)
      refine wpOp_of rfl (by rw [← u1_eq e9]; kernel_rfl) ?_
      have z1 := (hT W hB.out).cell 1
      go_simp
      exact k_of (HK.out (.int .i64 t.flow) _ rfl hB (Below.refl _ _)) (by rw [← u1_eq e9, ← u1_eq e10]; kernel_rfl)
    · intro u W hB _ hd _ K hK
      have HK := Lib.hid hK; clear hK
      have e9 : u 9 = .bool true := hd 9 (by decide +kernel)
      refine wpOp_of rfl (by rw [← u1_eq e9]; kernel_rfl) ?_
      go_simp
      exact k_of (HK.out (.pointer (some ⟨Gw, 1, none⟩)) _ rfl hB (Below.refl _ _)) (by rw [← u1_eq e9]; kernel_rfl)
    · intro u W hB _ hd _ K hK
      have HK := Lib.hid hK; clear hK
      have e9 : u 9 = .bool true := hd 9 (by decide +kernel)
      have e12 : u 12 = .pointer (some ⟨Gw, 1, none⟩) := hd 12 (by decide +kernel)
      refine wpOp_of rfl (by rw [← u1_eq e9]; kernel_rfl) ?_
      have z1 := (hG W hB.out).cell 1; have z2 := (hG W hB.out).cell 2
      go_simp
      exact k_of (HK.out (.agg #[.int .i64 x.flo, .int .i64 x.fhi]) _ rfl hB (Below.refl _ _)) (by rw [← u1_eq e9, ← u1_eq e12]; kernel_rfl)
    · intro u W hB _ hd _ K hK
      have HK := Lib.hid hK; clear hK
      have e9 : u 9 = .bool true := hd 9 (by decide +kernel)
      have e11 : u 11 = .int .i64 t.flow := hd 11 (by decide +kernel)
      have e13 : u 13 = .agg #[.int .i64 x.flo, .int .i64 x.fhi] := hd 13 (by decide +kernel)
      refine wpOp_of rfl (by rw [← u1_eq e9]; kernel_rfl) ?_
      go_simp
      refine (rat_any _ _ _ _).mono ?_; simp only [hb1]
      rintro e w' ⟨rfl, hb⟩
      exact k_of (HK.out (.bool true) _ rfl (hon _ _ hB.out hb) hb) (by rw [← u1_eq e9, ← u1_eq e11, ← u1_eq e13]; kernel_rfl)
    · intro u W hB _ hd _ K hK
      have HK := Lib.hid hK; clear hK
      have e9 : u 9 = .bool true := hd 9 (by decide +kernel)
      have e14 : u 14 = .bool true := hd 14 (by decide +kernel)
      refine wpOp_of rfl (by rfl) ?_
      go_simp
      exact k_of (HK.out (.bool true) _ rfl hB (Below.refl _ _)) (by rw [← u1_eq e9, ← u1_eq e14]; kernel_rfl)
    · intro u W hB _ hd _ K hK
      have HK := Lib.hid hK; clear hK
      have e15 : u 15 = .bool true := hd 15 (by decide +kernel)
      refine wpOp_of rfl (by rfl) ?_
      go_simp
      exact k_of (HK.out (.bool true) _ rfl hB (Below.refl _ _)) (by rw [← u1_eq e15]; kernel_rfl)
    · intro u W hB _ hd _ K hK
      have HK := Lib.hid hK; clear hK
      have e16 : u 16 = .bool true := hd 16 (by decide +kernel)
      refine wpOp_of rfl (by rw [← u1_eq e16]; kernel_rfl) ?_
      go_simp
      exact k_of (HK.out (.pointer (some ⟨T0, 2, none⟩)) _ rfl hB (Below.refl _ _)) (by rw [← u1_eq e16]; kernel_rfl)
    · intro u W hB _ hd _ K hK
      have HK := Lib.hid hK; clear hK
      have e16 : u 16 = .bool true := hd 16 (by decide +kernel)
      have e17 : u 17 = .pointer (some ⟨T0, 2, none⟩) := hd 17 (by decide +kernel)
      refine wpOp_of rfl (by rw [← u1_eq e16]; kernel_rfl) ?_
      have z2 := (hT W hB.out).cell 2
      go_simp
      exact k_of (HK.out (.int .i64 t.rise) _ rfl hB (Below.refl _ _)) (by rw [← u1_eq e16, ← u1_eq e17]; kernel_rfl)
    · intro u W hB _ hd _ K hK
      have HK := Lib.hid hK; clear hK
      have e16 : u 16 = .bool true := hd 16 (by decide +kernel)
      refine wpOp_of rfl (by rw [← u1_eq e16]; kernel_rfl) ?_
      go_simp
      exact k_of (HK.out (.pointer (some ⟨Gw, 3, none⟩)) _ rfl hB (Below.refl _ _)) (by rw [← u1_eq e16]; kernel_rfl)
    · intro u W hB _ hd _ K hK
      have HK := Lib.hid hK; clear hK
      have e16 : u 16 = .bool true := hd 16 (by decide +kernel)
      have e19 : u 19 = .pointer (some ⟨Gw, 3, none⟩) := hd 19 (by decide +kernel)
      refine wpOp_of rfl (by rw [← u1_eq e16]; kernel_rfl) ?_
      have z3 := (hG W hB.out).cell 3; have z4 := (hG W hB.out).cell 4
      go_simp
      exact k_of (HK.out (.agg #[.int .i64 x.rlo, .int .i64 x.rhi]) _ rfl hB (Below.refl _ _)) (by rw [← u1_eq e16, ← u1_eq e19]; kernel_rfl)
    · intro u W hB _ hd _ K hK
      have HK := Lib.hid hK; clear hK
      have e16 : u 16 = .bool true := hd 16 (by decide +kernel)
      have e18 : u 18 = .int .i64 t.rise := hd 18 (by decide +kernel)
      have e20 : u 20 = .agg #[.int .i64 x.rlo, .int .i64 x.rhi] := hd 20 (by decide +kernel)
      refine wpOp_of rfl (by rw [← u1_eq e16]; kernel_rfl) ?_
      go_simp
      refine (rat_any _ _ _ _).mono ?_; simp only [hb2]
      rintro e w' ⟨rfl, hb⟩
      exact k_of (HK.out (.bool true) _ rfl (hon _ _ hB.out hb) hb) (by rw [← u1_eq e16, ← u1_eq e18, ← u1_eq e20]; kernel_rfl)
    · intro u W hB _ hd _ K hK
      have HK := Lib.hid hK; clear hK
      have e16 : u 16 = .bool true := hd 16 (by decide +kernel)
      have e21 : u 21 = .bool true := hd 21 (by decide +kernel)
      refine wpOp_of rfl (by rfl) ?_
      go_simp
      exact k_of (HK.out (.bool true) _ rfl hB (Below.refl _ _)) (by rw [← u1_eq e16, ← u1_eq e21]; kernel_rfl)
    · intro u W hB _ hd _ K hK
      have HK := Lib.hid hK; clear hK
      have e22 : u 22 = .bool true := hd 22 (by decide +kernel)
      refine wpOp_of rfl (by rfl) ?_
      go_simp
      exact k_of (HK.out (.bool true) _ rfl hB (Below.refl _ _)) (by rw [← u1_eq e22]; kernel_rfl)
    · intro u W hB _ hd _ K hK
      have HK := Lib.hid hK; clear hK
      have e23 : u 23 = .bool true := hd 23 (by decide +kernel)
      refine wpOp_of rfl (by rw [← u1_eq e23]; kernel_rfl) ?_
      go_simp
      exact k_of (HK.out (.pointer (some ⟨T0, 3, none⟩)) _ rfl hB (Below.refl _ _)) (by rw [← u1_eq e23]; kernel_rfl)
    · intro u W hB _ hd _ K hK
      have HK := Lib.hid hK; clear hK
      have e23 : u 23 = .bool true := hd 23 (by decide +kernel)
      have e24 : u 24 = .pointer (some ⟨T0, 3, none⟩) := hd 24 (by decide +kernel)
      refine wpOp_of rfl (by rw [← u1_eq e23]; kernel_rfl) ?_
      have z3 := (hT W hB.out).cell 3
      go_simp
      exact k_of (HK.out (.int .i64 t.spr) _ rfl hB (Below.refl _ _)) (by rw [← u1_eq e23, ← u1_eq e24]; kernel_rfl)
    · intro u W hB _ hd _ K hK
      have HK := Lib.hid hK; clear hK
      have e23 : u 23 = .bool true := hd 23 (by decide +kernel)
      refine wpOp_of rfl (by rw [← u1_eq e23]; kernel_rfl) ?_
      go_simp
      exact k_of (HK.out (.pointer (some ⟨Gw, 5, none⟩)) _ rfl hB (Below.refl _ _)) (by rw [← u1_eq e23]; kernel_rfl)
    · intro u W hB _ hd _ K hK
      have HK := Lib.hid hK; clear hK
      have e23 : u 23 = .bool true := hd 23 (by decide +kernel)
      have e26 : u 26 = .pointer (some ⟨Gw, 5, none⟩) := hd 26 (by decide +kernel)
      refine wpOp_of rfl (by rw [← u1_eq e23]; kernel_rfl) ?_
      have z5 := (hG W hB.out).cell 5; have z6 := (hG W hB.out).cell 6
      go_simp
      exact k_of (HK.out (.agg #[.int .i64 x.slo, .int .i64 x.shi]) _ rfl hB (Below.refl _ _)) (by rw [← u1_eq e23, ← u1_eq e26]; kernel_rfl)
    · intro u W hB _ hd _ K hK
      have HK := Lib.hid hK; clear hK
      have e23 : u 23 = .bool true := hd 23 (by decide +kernel)
      have e25 : u 25 = .int .i64 t.spr := hd 25 (by decide +kernel)
      have e27 : u 27 = .agg #[.int .i64 x.slo, .int .i64 x.shi] := hd 27 (by decide +kernel)
      refine wpOp_of rfl (by rw [← u1_eq e23]; kernel_rfl) ?_
      go_simp
      refine (rat_any _ _ _ _).mono ?_; simp only [hb3]
      rintro e w' ⟨rfl, hb⟩
      exact k_of (HK.out (.bool true) _ rfl (hon _ _ hB.out hb) hb) (by rw [← u1_eq e23, ← u1_eq e25, ← u1_eq e27]; kernel_rfl)
    · intro u W hB _ hd _ K hK
      have HK := Lib.hid hK; clear hK
      have e23 : u 23 = .bool true := hd 23 (by decide +kernel)
      have e28 : u 28 = .bool true := hd 28 (by decide +kernel)
      refine wpOp_of rfl (by rfl) ?_
      go_simp
      exact k_of (HK.out (.bool true) _ rfl hB (Below.refl _ _)) (by rw [← u1_eq e23, ← u1_eq e28]; kernel_rfl)
    · intro u W hB _ hd _ K hK
      have HK := Lib.hid hK; clear hK
      have e29 : u 29 = .bool true := hd 29 (by decide +kernel)
      refine wpOp_of rfl (by rfl) ?_
      go_simp
      exact k_of (HK.out (.bool true) _ rfl hB (Below.refl _ _)) (by rw [← u1_eq e29]; kernel_rfl)
    · intro u W hB _ hd _ K hK
      have HK := Lib.hid hK; clear hK
      have e30 : u 30 = .bool true := hd 30 (by decide +kernel)
      refine wpOp_of rfl (by rw [← u1_eq e30]; kernel_rfl) ?_
      go_simp
      exact k_of (HK.out (.pointer (some ⟨T0, 4, none⟩)) _ rfl hB (Below.refl _ _)) (by rw [← u1_eq e30]; kernel_rfl)
    · intro u W hB _ hd _ K hK
      have HK := Lib.hid hK; clear hK
      have e30 : u 30 = .bool true := hd 30 (by decide +kernel)
      have e31 : u 31 = .pointer (some ⟨T0, 4, none⟩) := hd 31 (by decide +kernel)
      refine wpOp_of rfl (by rw [← u1_eq e30]; kernel_rfl) ?_
      have z4 := (hT W hB.out).cell 4
      go_simp
      exact k_of (HK.out (.int .i64 t.dra) _ rfl hB (Below.refl _ _)) (by rw [← u1_eq e30, ← u1_eq e31]; kernel_rfl)
    · intro u W hB _ hd _ K hK
      have HK := Lib.hid hK; clear hK
      have e30 : u 30 = .bool true := hd 30 (by decide +kernel)
      refine wpOp_of rfl (by rw [← u1_eq e30]; kernel_rfl) ?_
      go_simp
      exact k_of (HK.out (.pointer (some ⟨C, 2, none⟩)) _ rfl hB (Below.refl _ _)) (by rw [← u1_eq e30]; kernel_rfl)
    · intro u W hB _ hd _ K hK
      have HK := Lib.hid hK; clear hK
      have e30 : u 30 = .bool true := hd 30 (by decide +kernel)
      have e33 : u 33 = .pointer (some ⟨C, 2, none⟩) := hd 33 (by decide +kernel)
      refine wpOp_of rfl (by rw [← u1_eq e30]; kernel_rfl) ?_
      have z2 := (hC W hB.out).cell 2
      go_simp
      exact k_of (HK.out (.int .i64 c.dra) _ rfl hB (Below.refl _ _)) (by rw [← u1_eq e30, ← u1_eq e33]; kernel_rfl)
    · intro u W hB _ hd _ K hK
      have HK := Lib.hid hK; clear hK
      have e30 : u 30 = .bool true := hd 30 (by decide +kernel)
      have e34 : u 34 = .int .i64 c.dra := hd 34 (by decide +kernel)
      refine wpOp_of rfl (by rw [← u1_eq e30]; kernel_rfl) ?_
      go_simp
      exact k_of (HK.out (.int .i64 (-c.dra)) _ rfl hB (Below.refl _ _)) (by rw [← u1_eq e30, ← u1_eq e34]; kernel_rfl)
    · intro u W hB _ hd _ K hK
      have HK := Lib.hid hK; clear hK
      have e30 : u 30 = .bool true := hd 30 (by decide +kernel)
      refine wpOp_of rfl (by rw [← u1_eq e30]; kernel_rfl) ?_
      go_simp
      exact k_of (HK.out (.pointer (some ⟨C, 2, none⟩)) _ rfl hB (Below.refl _ _)) (by rw [← u1_eq e30]; kernel_rfl)
    · intro u W hB _ hd _ K hK
      have HK := Lib.hid hK; clear hK
      have e30 : u 30 = .bool true := hd 30 (by decide +kernel)
      have e36 : u 36 = .pointer (some ⟨C, 2, none⟩) := hd 36 (by decide +kernel)
      refine wpOp_of rfl (by rw [← u1_eq e30]; kernel_rfl) ?_
      have z2 := (hC W hB.out).cell 2
      go_simp
      exact k_of (HK.out (.int .i64 c.dra) _ rfl hB (Below.refl _ _)) (by rw [← u1_eq e30, ← u1_eq e36]; kernel_rfl)
    · intro u W hB _ hd _ K hK
      have HK := Lib.hid hK; clear hK
      have e30 : u 30 = .bool true := hd 30 (by decide +kernel)
      have e32 : u 32 = .int .i64 t.dra := hd 32 (by decide +kernel)
      have e35 : u 35 = .int .i64 (-c.dra) := hd 35 (by decide +kernel)
      have e37 : u 37 = .int .i64 c.dra := hd 37 (by decide +kernel)
      refine wpOp_of rfl (by rw [← u1_eq e30]; kernel_rfl) ?_
      go_simp
      refine (rin3_any _ _ _ _).mono ?_; simp only [hb4]
      rintro e w' ⟨rfl, rfl⟩
      exact k_of (HK.out (.bool true) _ rfl hB (Below.refl _ _)) (by rw [← u1_eq e30, ← u1_eq e32, ← u1_eq e35, ← u1_eq e37]; kernel_rfl)
    · intro u W hB _ hd _ K hK
      have HK := Lib.hid hK; clear hK
      have e30 : u 30 = .bool true := hd 30 (by decide +kernel)
      have e38 : u 38 = .bool true := hd 38 (by decide +kernel)
      refine wpOp_of rfl (by rfl) ?_
      go_simp
      exact k_of (HK.out (.bool true) _ rfl hB (Below.refl _ _)) (by rw [← u1_eq e30, ← u1_eq e38]; kernel_rfl)
    · intro u W hB _ hd _ K hK
      have HK := Lib.hid hK; clear hK
      have e39 : u 39 = .bool true := hd 39 (by decide +kernel)
      refine wpOp_of rfl (by rfl) ?_
      go_simp
      exact k_of (HK.out (.bool true) _ rfl hB (Below.refl _ _)) (by rw [← u1_eq e39]; kernel_rfl)
    · intro u W hB _ hd _ K hK
      have HK := Lib.hid hK; clear hK
      have e40 : u 40 = .bool true := hd 40 (by decide +kernel)
      refine wpOp_of rfl (by rw [← u1_eq e40]; kernel_rfl) ?_
      go_simp
      exact k_of (HK.out (.pointer (some ⟨T0, 5, none⟩)) _ rfl hB (Below.refl _ _)) (by rw [← u1_eq e40]; kernel_rfl)
    · intro u W hB _ hd _ K hK
      have HK := Lib.hid hK; clear hK
      have e40 : u 40 = .bool true := hd 40 (by decide +kernel)
      have e41 : u 41 = .pointer (some ⟨T0, 5, none⟩) := hd 41 (by decide +kernel)
      refine wpOp_of rfl (by rw [← u1_eq e40]; kernel_rfl) ?_
      have z5 := (hT W hB.out).cell 5
      go_simp
      exact k_of (HK.out (.int .i64 t.cold) _ rfl hB (Below.refl _ _)) (by rw [← u1_eq e40, ← u1_eq e41]; kernel_rfl)
    · intro u W hB _ hd _ K hK
      have HK := Lib.hid hK; clear hK
      have e40 : u 40 = .bool true := hd 40 (by decide +kernel)
      refine wpOp_of rfl (by rw [← u1_eq e40]; kernel_rfl) ?_
      go_simp
      exact k_of (HK.out (.pointer (some ⟨C, 3, none⟩)) _ rfl hB (Below.refl _ _)) (by rw [← u1_eq e40]; kernel_rfl)
    · intro u W hB _ hd _ K hK
      have HK := Lib.hid hK; clear hK
      have e40 : u 40 = .bool true := hd 40 (by decide +kernel)
      have e43 : u 43 = .pointer (some ⟨C, 3, none⟩) := hd 43 (by decide +kernel)
      refine wpOp_of rfl (by rw [← u1_eq e40]; kernel_rfl) ?_
      have z3 := (hC W hB.out).cell 3; have z4 := (hC W hB.out).cell 4
      go_simp
      exact k_of (HK.out (.agg #[.int .i64 c.clo, .int .i64 c.chi]) _ rfl hB (Below.refl _ _)) (by rw [← u1_eq e40, ← u1_eq e43]; kernel_rfl)
    · intro u W hB _ hd _ K hK
      have HK := Lib.hid hK; clear hK
      have e40 : u 40 = .bool true := hd 40 (by decide +kernel)
      have e42 : u 42 = .int .i64 t.cold := hd 42 (by decide +kernel)
      have e44 : u 44 = .agg #[.int .i64 c.clo, .int .i64 c.chi] := hd 44 (by decide +kernel)
      refine wpOp_of rfl (by rw [← u1_eq e40]; kernel_rfl) ?_
      go_simp
      refine (rat_any _ _ _ _).mono ?_; simp only [hb5]
      rintro e w' ⟨rfl, hb⟩
      exact k_of (HK.out (.bool true) _ rfl (hon _ _ hB.out hb) hb) (by rw [← u1_eq e40, ← u1_eq e42, ← u1_eq e44]; kernel_rfl)
    · intro u W hB _ hd _ K hK
      have HK := Lib.hid hK; clear hK
      have e40 : u 40 = .bool true := hd 40 (by decide +kernel)
      have e45 : u 45 = .bool true := hd 45 (by decide +kernel)
      refine wpOp_of rfl (by rfl) ?_
      go_simp
      exact k_of (HK.out (.bool true) _ rfl hB (Below.refl _ _)) (by rw [← u1_eq e40, ← u1_eq e45]; kernel_rfl)
    · intro u W hB _ hd _ K hK
      have HK := Lib.hid hK; clear hK
      have e46 : u 46 = .bool true := hd 46 (by decide +kernel)
      refine wpOp_of rfl (by rfl) ?_
      go_simp
      exact k_of (HK.out (.bool true) _ rfl hB (Below.refl _ _)) (by rw [← u1_eq e46]; kernel_rfl)
  · intro u W hB hd
    have e47 : u 47 = .bool true := hd 47 (by decide)
    exact k_of (HQ.out u W hB.out) (by simp only [e47])
end Go.Proofs.Ytkjfommdeljefaa
