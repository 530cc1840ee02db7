/- WickKnown: the law. -/
import Derived.Test.YtkjfommdeljefaaQU
namespace Go.Proofs.Ytkjfommdeljefaa
open Go.RowKit Go.Shelf Go.Maps
attribute [local go_sem] Oper.semAt_some

theorem eq_6 (W : World) : (binOp .eql 25 (.agg #[.int .i64 218, .int .i64 284]) (.agg #[.int .i64 218, .int .i64 284])).run Try.prog W = .ok (.bool true) W := by kernel_rfl

/-- What each operation leaves. -/
def knwR (_N n1 n2 n3 : Nat) (A1 A2 A3 : Option Addr) : Nat → Value → World → Prop
  | 0, v, _ => v = .int .i64 0
  | 1, v, _ => v = .bool true
  | 2, v, _ => v = .bool true
  | 3, v, _ => v = .int .i64 0
  | 4, v, _ => v = .bool true
  | 5, v, _ => v = .bool true
  | 6, v, _ => v = .bool true
  | 7, v, _ => v = .int .i64 0
  | 8, v, _ => v = .bool true
  | 9, v, _ => v = .bool true
  | 10, v, _ => v = .bool true
  | 11, v, _ => v = .int .i64 0
  | 12, v, _ => v = .bool true
  | 13, v, _ => v = .bool true
  | 14, v, _ => v = .bool true
  | 15, v, _ => v = .int .i64 9
  | 16, v, _ => v = .bool true
  | 17, v, _ => v = .bool true
  | 18, v, _ => v = .bool true
  | 19, v, _ => v = .slice A1 1 n1
  | 20, v, W => ∃ b_20, v = .slice (some ⟨b_20, 0, none⟩) 1 1 ∧ IntsIn W (some ⟨b_20, 0, none⟩) [3]
  | 21, v, _ => v = .bool true
  | 22, v, _ => v = .bool true
  | 23, v, _ => v = .bool true
  | 24, v, _ => v = .slice A2 0 n2
  | 25, v, _ => v = .int .i64 0
  | 26, v, _ => v = .bool true
  | 27, v, _ => v = .bool true
  | 28, v, _ => v = .bool true
  | 29, v, _ => v = .slice A3 1 n3
  | 30, v, W => ∃ b_30, v = .slice (some ⟨b_30, 0, none⟩) 1 1 ∧ IntsIn W (some ⟨b_30, 0, none⟩) [0]
  | 31, v, _ => v = .bool true
  | 32, v, _ => v = .bool true
  | 33, v, _ => v = .bool true
  | 34, v, _ => v = .agg #[.int .i64 218, .int .i64 284]
  | 35, v, _ => v = .agg #[.int .i64 218, .int .i64 284]
  | 36, v, _ => v = .bool true
  | 37, v, _ => v = .bool true
  | 38, v, _ => v = .bool true
  | 39, v, _ => v = .bool true
  | 40, v, _ => v = .bool true
  | 41, v, _ => v = .bool true
  | _, _, _ => True
theorem knwR_on (N n1 n2 n3 : Nat) (A1 A2 A3 : Option Addr) : ∀ i, i < 42 → ∀ v W W', knwR N n1 n2 n3 A1 A2 A3 i v W → Below W.heap.size W W' → knwR N n1 n2 n3 A1 A2 A3 i v W' := by
  iterate 42 (refine all_succ ?_ ?_)
  · exact all_zero
  · exact fun _ _ _ h _ => h
  · exact fun _ _ _ h _ => h
  · exact fun _ _ _ h _ => h
  · exact fun _ _ _ h _ => h
  · exact fun _ _ _ h _ => h
  · exact fun _ _ _ h _ => h
  · exact fun _ _ _ h _ => h
  · exact fun _ _ _ h _ => h
  · exact fun _ _ _ h _ => h
  · exact fun _ _ _ h _ => h
  · exact fun _ _ _ h _ => h
  · exact fun _ _ _ h _ => h
  · exact fun _ _ _ h _ => h
  · exact fun _ _ _ h _ => h
  · exact fun _ _ _ h _ => h
  · exact fun _ _ _ h _ => h
  · exact fun _ _ _ h _ => h
  · exact fun _ _ _ h _ => h
  · exact fun _ _ _ h _ => h
  · exact fun _ _ _ h _ => h
  · rintro v W W' ⟨b_20, e, h0⟩ hb; exact ⟨b_20, e, h0.on hb⟩
  · exact fun _ _ _ h _ => h
  · exact fun _ _ _ h _ => h
  · exact fun _ _ _ h _ => h
  · exact fun _ _ _ h _ => h
  · exact fun _ _ _ h _ => h
  · exact fun _ _ _ h _ => h
  · exact fun _ _ _ h _ => h
  · exact fun _ _ _ h _ => h
  · exact fun _ _ _ h _ => h
  · rintro v W W' ⟨b_30, e, h0⟩ hb; exact ⟨b_30, e, h0.on hb⟩
  · exact fun _ _ _ h _ => h
  · exact fun _ _ _ h _ => h
  · exact fun _ _ _ h _ => h
  · exact fun _ _ _ h _ => h
  · exact fun _ _ _ h _ => h
  · exact fun _ _ _ h _ => h
  · exact fun _ _ _ h _ => h
  · exact fun _ _ _ h _ => h
  · exact fun _ _ _ h _ => h
  · exact fun _ _ _ h _ => h
  · exact fun _ _ _ h _ => h
set_option maxRecDepth 100000 in
set_option maxHeartbeats 8000000 in
theorem knw_region {S : World → Prop} (hon : ∀ W W', S W → Below W.heap.size W W' → S W') {N n1 n2 n3 : Nat} {A1 A2 A3 : Option Addr} (hN : ∀ W, S W → Blk W N 25 #[.int .i64 218, .int .i64 284]) (hA1 : ∀ W, S W → IntsIn W A1 [3]) (hA3 : ∀ W, S W → IntsIn W A3 [0]) {Q : Exit → Act → World → Prop} {s9 s11 s12 s13 s14 s15 s16 s17 s18 s19 s20 s21 s22 s23 s24 s25 s26 s27 s28 s29 s30 s31 s32 s33 s34 s35 s36 s37 s38 s39 s40 : Value} {W0 : World} (HL : Hid (S W0))
    (HQ : Hid (∀ (u : Nat → Value) (W : World), S W → Q .normal ⟨#[.bool true, .slice A1 1 n1, .int .i64 0, .slice A2 0 n2, .int .i64 0, .slice A3 1 n3, .int .i64 0, .pointer (some ⟨N, 0, none⟩), .int .i64 0, s9, .int .i64 9, s11, s12, s13, s14, s15, s16, s17, s18, s19, s20, s21, s22, s23, s24, s25, s26, s27, s28, s29, s30, s31, s32, s33, s34, s35, s36, s37, s38, s39, s40, u 0, u 1, u 2, u 3, u 4, u 5, u 6, u 7, u 8, u 9, u 10, u 11, u 12, u 13, u 14, u 15, u 16, u 17, u 18, u 19, u 20, u 21, u 22, u 23, u 24, u 25, u 26, u 27, u 28, u 29, u 30, u 31, u 32, u 33, u 34, u 35, u 36, u 37, u 38, u 39, u 40], []⟩ W)) :
    Code.wp Try.prog ((Try.f6.body.bind (regionAt 6)).getD .skip) Q ⟨#[.bool false, .slice A1 1 n1, .int .i64 0, .slice A2 0 n2, .int .i64 0, .slice A3 1 n3, .int .i64 0, .pointer (some ⟨N, 0, none⟩), .int .i64 0, s9, .int .i64 9, s11, s12, s13, s14, s15, s16, s17, s18, s19, s20, s21, s22, s23, s24, s25, s26, s27, s28, s29, s30, s31, s32, s33, s34, s35, s36, s37, s38, s39, s40, undef, undef, undef, undef, undef, undef, undef, undef, undef, undef, undef, undef, undef, undef, undef, undef, undef, undef, undef, undef, undef, undef, undef, undef, undef, undef, undef, undef, undef, undef, undef, undef, undef, undef, undef, undef, undef, undef, undef, undef, undef], []⟩ W0 := by
  conv => arg 2; whnf
  refine wp_region_spec (by kernel_rfl) 42 (by kernel_rfl) (fun u => ⟨#[u 41, .slice A1 1 n1, .int .i64 0, .slice A2 0 n2, .int .i64 0, .slice A3 1 n3, .int .i64 0, .pointer (some ⟨N, 0, none⟩), .int .i64 0, s9, .int .i64 9, s11, s12, s13, s14, s15, s16, s17, s18, s19, s20, s21, s22, s23, s24, s25, s26, s27, s28, s29, s30, s31, s32, s33, s34, s35, s36, s37, s38, s39, s40, u 0, u 1, u 2, u 3, u 4, u 5, u 6, u 7, u 8, u 9, u 10, u 11, u 12, u 13, u 14, u 15, u 16, u 17, u 18, u 19, u 20, u 21, u 22, u 23, u 24, u 25, u 26, u 27, u 28, u 29, u 30, u 31, u 32, u 33, u 34, u 35, u 36, u 37, u 38, u 39, u 40], []⟩) (fun i => if i = 41 then .bool false else undef) (fun W => Hid (S W)) (knwR N n1 n2 n3 A1 A2 A3) (by kernel_rfl) (hon _ _ HL.out (Below.refl _ _).drew) (fun i v W W2 hi h hb => knwR_on N n1 n2 n3 A1 A2 A3 i hi v W W2 h hb) (by decide +kernel) ?_ ?_
  · iterate 42 (refine all_succ ?_ ?_)
    · exact all_zero
    · intro u W hB _ hd _ K hK
      have HK := Lib.hid hK; clear hK
      refine wpOp_of rfl (by rfl) ?_
      go_simp
      exact k_of (HK.out (.int .i64 0) _ rfl hB (Below.refl _ _)) (by kernel_rfl)
    · intro u W hB _ hd _ K hK
      have HK := Lib.hid hK; clear hK
      have e0 : u 0 = .int .i64 0 := hd 0 (by decide +kernel)
      refine wpOp_of rfl (by rfl) ?_
      go_simp
      exact k_of (HK.out (.bool true) _ rfl hB (Below.refl _ _)) (by rw [← u1_eq e0]; kernel_rfl)
    · intro u W hB _ hd _ K hK
      have HK := Lib.hid hK; clear hK
      have e1 : u 1 = .bool true := hd 1 (by decide +kernel)
      refine wpOp_of rfl (by rfl) ?_
      go_simp
      exact k_of (HK.out (.bool true) _ rfl hB (Below.refl _ _)) (by rw [← u1_eq e1]; kernel_rfl)
    · intro u W hB _ hd _ K hK
      have HK := Lib.hid hK; clear hK
      have e2 : u 2 = .bool true := hd 2 (by decide +kernel)
      refine wpOp_of rfl (by rw [← u1_eq e2]; kernel_rfl) ?_
      go_simp
      exact k_of (HK.out (.int .i64 0) _ rfl hB (Below.refl _ _)) (by rw [← u1_eq e2]; kernel_rfl)
    · intro u W hB _ hd _ K hK
      have HK := Lib.hid hK; clear hK
      have e2 : u 2 = .bool true := hd 2 (by decide +kernel)
      have e3 : u 3 = .int .i64 0 := hd 3 (by decide +kernel)
      refine wpOp_of rfl (by rw [← u1_eq e2]; kernel_rfl) ?_
      go_simp
      exact k_of (HK.out (.bool true) _ rfl hB (Below.refl _ _)) (by rw [← u1_eq e2, ← u1_eq e3]; kernel_rfl)
    · intro u W hB _ hd _ K hK
      have HK := Lib.hid hK; clear hK
      have e2 : u 2 = .bool true := hd 2 (by decide +kernel)
      have e4 : u 4 = .bool true := hd 4 (by decide +kernel)
      refine wpOp_of rfl (by rfl) ?_
      go_simp
      exact k_of (HK.out (.bool true) _ rfl hB (Below.refl _ _)) (by rw [← u1_eq e2, ← u1_eq e4]; kernel_rfl)
    · intro u W hB _ hd _ K hK
      have HK := Lib.hid hK; clear hK
      have e5 : u 5 = .bool true := hd 5 (by decide +kernel)
      refine wpOp_of rfl (by rfl) ?_
      go_simp
      exact k_of (HK.out (.bool true) _ rfl hB (Below.refl _ _)) (by rw [← u1_eq e5]; kernel_rfl)
    · intro u W hB _ hd _ K hK
      have HK := Lib.hid hK; clear hK
      have e6 : u 6 = .bool true := hd 6 (by decide +kernel)
      refine wpOp_of rfl (by rw [← u1_eq e6]; kernel_rfl) ?_
      go_simp
      exact k_of (HK.out (.int .i64 0) _ rfl hB (Below.refl _ _)) (by rw [← u1_eq e6]; kernel_rfl)
    · intro u W hB _ hd _ K hK
      have HK := Lib.hid hK; clear hK
      have e6 : u 6 = .bool true := hd 6 (by decide +kernel)
      have e7 : u 7 = .int .i64 0 := hd 7 (by decide +kernel)
      refine wpOp_of rfl (by rw [← u1_eq e6]; kernel_rfl) ?_
      go_simp
      exact k_of (HK.out (.bool true) _ rfl hB (Below.refl _ _)) (by rw [← u1_eq e6, ← u1_eq e7]; kernel_rfl)
    · intro u W hB _ hd _ K hK
      have HK := Lib.hid hK; clear hK
      have e6 : u 6 = .bool true := hd 6 (by decide +kernel)
      have e8 : u 8 = .bool true := hd 8 (by decide +kernel)
      refine wpOp_of rfl (by rfl) ?_
      go_simp
      exact k_of (HK.out (.bool true) _ rfl hB (Below.refl _ _)) (by rw [← u1_eq e6, ← u1_eq e8]; kernel_rfl)
    · intro u W hB _ hd _ K hK
      have HK := Lib.hid hK; clear hK
      have e9 : u 9 = .bool true := hd 9 (by decide +kernel)
      refine wpOp_of rfl (by rfl) ?_
      go_simp
      exact k_of (HK.out (.bool true) _ rfl hB (Below.refl _ _)) (by rw [← u1_eq e9]; kernel_rfl)
    · intro u W hB _ hd _ K hK
      have HK := Lib.hid hK; clear hK
      have e10 : u 10 = .bool true := hd 10 (by decide +kernel)
      refine wpOp_of rfl (by rw [← u1_eq e10]; kernel_rfl) ?_
      go_simp
      exact k_of (HK.out (.int .i64 0) _ rfl hB (Below.refl _ _)) (by rw [← u1_eq e10]; kernel_rfl)
    · intro u W hB _ hd _ K hK
      have HK := Lib.hid hK; clear hK
      have e10 : u 10 = .bool true := hd 10 (by decide +kernel)
      have e11 : u 11 = .int .i64 0 := hd 11 (by decide +kernel)
      refine wpOp_of rfl (by rw [← u1_eq e10]; kernel_rfl) ?_
      go_simp
      exact k_of (HK.out (.bool true) _ rfl hB (Below.refl _ _)) (by rw [← u1_eq e10, ← u1_eq e11]; kernel_rfl)
    · intro u W hB _ hd _ K hK
      have HK := Lib.hid hK; clear hK
      have e10 : u 10 = .bool true := hd 10 (by decide +kernel)
      have e12 : u 12 = .bool true := hd 12 (by decide +kernel)
      refine wpOp_of rfl (by rfl) ?_
      go_simp
      exact k_of (HK.out (.bool true) _ rfl hB (Below.refl _ _)) (by rw [← u1_eq e10, ← u1_eq e12]; kernel_rfl)
    · intro u W hB _ hd _ K hK
      have HK := Lib.hid hK; clear hK
      have e13 : u 13 = .bool true := hd 13 (by decide +kernel)
      refine wpOp_of rfl (by rfl) ?_
      go_simp
      exact k_of (HK.out (.bool true) _ rfl hB (Below.refl _ _)) (by rw [← u1_eq e13]; kernel_rfl)
    · intro u W hB _ hd _ K hK
      have HK := Lib.hid hK; clear hK
      have e14 : u 14 = .bool true := hd 14 (by decide +kernel)
      refine wpOp_of rfl (by rw [← u1_eq e14]; kernel_rfl) ?_
      go_simp
      exact k_of (HK.out (.int .i64 9) _ rfl hB (Below.refl _ _)) (by rw [← u1_eq e14]; kernel_rfl)
    · intro u W hB _ hd _ K hK
      have HK := Lib.hid hK; clear hK
      have e14 : u 14 = .bool true := hd 14 (by decide +kernel)
      have e15 : u 15 = .int .i64 9 := hd 15 (by decide +kernel)
      refine wpOp_of rfl (by rw [← u1_eq e14]; kernel_rfl) ?_
      go_simp
      exact k_of (HK.out (.bool true) _ rfl hB (Below.refl _ _)) (by rw [← u1_eq e14, ← u1_eq e15]; kernel_rfl)
    · intro u W hB _ hd _ K hK
      have HK := Lib.hid hK; clear hK
      have e14 : u 14 = .bool true := hd 14 (by decide +kernel)
      have e16 : u 16 = .bool true := hd 16 (by decide +kernel)
      refine wpOp_of rfl (by rfl) ?_
      go_simp
      exact k_of (HK.out (.bool true) _ rfl hB (Below.refl _ _)) (by rw [← u1_eq e14, ← u1_eq e16]; kernel_rfl)
    · intro u W hB _ hd _ K hK
      have HK := Lib.hid hK; clear hK
      have e17 : u 17 = .bool true := hd 17 (by decide +kernel)
      refine wpOp_of rfl (by rfl) ?_
      go_simp
      exact k_of (HK.out (.bool true) _ rfl hB (Below.refl _ _)) (by rw [← u1_eq e17]; kernel_rfl)
    · intro u W hB _ hd _ K hK
      have HK := Lib.hid hK; clear hK
      have e18 : u 18 = .bool true := hd 18 (by decide +kernel)
      refine wpOp_of rfl (by rw [← u1_eq e18]; kernel_rfl) ?_
      go_simp
      exact k_of (HK.out (.slice A1 1 n1) _ rfl hB (Below.refl _ _)) (by rw [← u1_eq e18]; kernel_rfl)
    · intro u W hB _ hd _ K hK
      have HK := Lib.hid hK; clear hK
      have e18 : u 18 = .bool true := hd 18 (by decide +kernel)
      refine wpOp_of rfl (by rw [← u1_eq e18]; kernel_rfl) ?_
      go_simp
      exact k_of (HK.out (.slice (some ⟨W.heap.size, 0, none⟩) 1 1) _ ⟨_, rfl, ints_blk (Blk.new _ _ _) rfl (by simp)⟩ (hon _ _ hB.out ((Below.refl _ W).alloc (Nat.le_refl _) _)) ((Below.refl _ W).alloc (Nat.le_refl _) _)) (by rw [← u1_eq e18]; kernel_rfl)
    · intro u W hB _ hd _ K hK
      have HK := Lib.hid hK; clear hK
      have e18 : u 18 = .bool true := hd 18 (by decide +kernel)
      have e19 : u 19 = .slice A1 1 n1 := hd 19 (by decide +kernel)
      obtain ⟨b_20, e20, f20_0⟩ : knwR N n1 n2 n3 A1 A2 A3 20 (u 20) W := hd 20 (by decide +kernel)
      refine wpOp_of rfl (by rw [← u1_eq e18]; kernel_rfl) ?_
      go_simp
      refine (ints_yes (l := [3]) rfl (hA1 W hB.out) f20_0).mono ?_
      rintro e w' ⟨rfl, hb⟩
      exact k_of (HK.out (.bool true) _ rfl (hon _ _ hB.out hb) hb) (by rw [← u1_eq e18, ← u1_eq e19, ← u1_eq e20]; kernel_rfl)
    · intro u W hB _ hd _ K hK
      have HK := Lib.hid hK; clear hK
      have e18 : u 18 = .bool true := hd 18 (by decide +kernel)
      have e21 : u 21 = .bool true := hd 21 (by decide +kernel)
      refine wpOp_of rfl (by rfl) ?_
      go_simp
      exact k_of (HK.out (.bool true) _ rfl hB (Below.refl _ _)) (by rw [← u1_eq e18, ← u1_eq e21]; kernel_rfl)
    · intro u W hB _ hd _ K hK
      have HK := Lib.hid hK; clear hK
      have e22 : u 22 = .bool true := hd 22 (by decide +kernel)
      refine wpOp_of rfl (by rfl) ?_
      go_simp
      exact k_of (HK.out (.bool true) _ rfl hB (Below.refl _ _)) (by rw [← u1_eq e22]; kernel_rfl)
    · intro u W hB _ hd _ K hK
      have HK := Lib.hid hK; clear hK
      have e23 : u 23 = .bool true := hd 23 (by decide +kernel)
      refine wpOp_of rfl (by rw [← u1_eq e23]; kernel_rfl) ?_
      go_simp
      exact k_of (HK.out (.slice A2 0 n2) _ rfl hB (Below.refl _ _)) (by rw [← u1_eq e23]; kernel_rfl)
    · intro u W hB _ hd _ K hK
      have HK := Lib.hid hK; clear hK
      have e23 : u 23 = .bool true := hd 23 (by decide +kernel)
      have e24 : u 24 = .slice A2 0 n2 := hd 24 (by decide +kernel)
      refine wpOp_of rfl (by rw [← u1_eq e23]; kernel_rfl) ?_
      go_simp
      exact k_of (HK.out (.int .i64 0) _ rfl hB (Below.refl _ _)) (by rw [← u1_eq e23, ← u1_eq e24]; kernel_rfl)
    · intro u W hB _ hd _ K hK
      have HK := Lib.hid hK; clear hK
      have e23 : u 23 = .bool true := hd 23 (by decide +kernel)
      have e25 : u 25 = .int .i64 0 := hd 25 (by decide +kernel)
      refine wpOp_of rfl (by rw [← u1_eq e23]; kernel_rfl) ?_
      go_simp
      exact k_of (HK.out (.bool true) _ rfl hB (Below.refl _ _)) (by rw [← u1_eq e23, ← u1_eq e25]; kernel_rfl)
    · intro u W hB _ hd _ K hK
      have HK := Lib.hid hK; clear hK
      have e23 : u 23 = .bool true := hd 23 (by decide +kernel)
      have e26 : u 26 = .bool true := hd 26 (by decide +kernel)
      refine wpOp_of rfl (by rfl) ?_
      go_simp
      exact k_of (HK.out (.bool true) _ rfl hB (Below.refl _ _)) (by rw [← u1_eq e23, ← u1_eq e26]; kernel_rfl)
    · intro u W hB _ hd _ K hK
      have HK := Lib.hid hK; clear hK
      have e27 : u 27 = .bool true := hd 27 (by decide +kernel)
      refine wpOp_of rfl (by rfl) ?_
      go_simp
      exact k_of (HK.out (.bool true) _ rfl hB (Below.refl _ _)) (by rw [← u1_eq e27]; kernel_rfl)
    · intro u W hB _ hd _ K hK
      have HK := Lib.hid hK; clear hK
      have e28 : u 28 = .bool true := hd 28 (by decide +kernel)
      refine wpOp_of rfl (by rw [← u1_eq e28]; kernel_rfl) ?_
      go_simp
      exact k_of (HK.out (.slice A3 1 n3) _ rfl hB (Below.refl _ _)) (by rw [← u1_eq e28]; kernel_rfl)
    · intro u W hB _ hd _ K hK
      have HK := Lib.hid hK; clear hK
      have e28 : u 28 = .bool true := hd 28 (by decide +kernel)
      refine wpOp_of rfl (by rw [← u1_eq e28]; kernel_rfl) ?_
      go_simp
      exact k_of (HK.out (.slice (some ⟨W.heap.size, 0, none⟩) 1 1) _ ⟨_, rfl, ints_blk (Blk.new _ _ _) rfl (by simp)⟩ (hon _ _ hB.out ((Below.refl _ W).alloc (Nat.le_refl _) _)) ((Below.refl _ W).alloc (Nat.le_refl _) _)) (by rw [← u1_eq e28]; kernel_rfl)
    · intro u W hB _ hd _ K hK
      have HK := Lib.hid hK; clear hK
      have e28 : u 28 = .bool true := hd 28 (by decide +kernel)
      have e29 : u 29 = .slice A3 1 n3 := hd 29 (by decide +kernel)
      obtain ⟨b_30, e30, f30_0⟩ : knwR N n1 n2 n3 A1 A2 A3 30 (u 30) W := hd 30 (by decide +kernel)
      refine wpOp_of rfl (by rw [← u1_eq e28]; kernel_rfl) ?_
      go_simp
      refine (ints_yes (l := [0]) rfl (hA3 W hB.out) f30_0).mono ?_
      rintro e w' ⟨rfl, hb⟩
      exact k_of (HK.out (.bool true) _ rfl (hon _ _ hB.out hb) hb) (by rw [← u1_eq e28, ← u1_eq e29, ← u1_eq e30]; kernel_rfl)
    · intro u W hB _ hd _ K hK
      have HK := Lib.hid hK; clear hK
      have e28 : u 28 = .bool true := hd 28 (by decide +kernel)
      have e31 : u 31 = .bool true := hd 31 (by decide +kernel)
      refine wpOp_of rfl (by rfl) ?_
      go_simp
      exact k_of (HK.out (.bool true) _ rfl hB (Below.refl _ _)) (by rw [← u1_eq e28, ← u1_eq e31]; kernel_rfl)
    · intro u W hB _ hd _ K hK
      have HK := Lib.hid hK; clear hK
      have e32 : u 32 = .bool true := hd 32 (by decide +kernel)
      refine wpOp_of rfl (by rfl) ?_
      go_simp
      exact k_of (HK.out (.bool true) _ rfl hB (Below.refl _ _)) (by rw [← u1_eq e32]; kernel_rfl)
    · intro u W hB _ hd _ K hK
      have HK := Lib.hid hK; clear hK
      have e33 : u 33 = .bool true := hd 33 (by decide +kernel)
      refine wpOp_of rfl (by rw [← u1_eq e33]; kernel_rfl) ?_
      have z0 := (hN W hB.out).cell 0; have z1 := (hN W hB.out).cell 1
      go_simp
      exact k_of (HK.out (.agg #[.int .i64 218, .int .i64 284]) _ rfl hB (Below.refl _ _)) (by rw [← u1_eq e33]; kernel_rfl)
    · intro u W hB _ hd _ K hK
      have HK := Lib.hid hK; clear hK
      have e33 : u 33 = .bool true := hd 33 (by decide +kernel)
      refine wpOp_of rfl (by rw [← u1_eq e33]; kernel_rfl) ?_
      go_simp
      refine (lspan_any 218 284 _).mono ?_
      rintro e w' ⟨rfl, hb⟩
      exact k_of (HK.out (.agg #[.int .i64 218, .int .i64 284]) _ rfl (hon _ _ hB.out hb) hb) (by rw [← u1_eq e33]; kernel_rfl)
    · intro u W hB _ hd _ K hK
      have HK := Lib.hid hK; clear hK
      have e33 : u 33 = .bool true := hd 33 (by decide +kernel)
      have e34 : u 34 = .agg #[.int .i64 218, .int .i64 284] := hd 34 (by decide +kernel)
      have e35 : u 35 = .agg #[.int .i64 218, .int .i64 284] := hd 35 (by decide +kernel)
      refine wpOp_of rfl (by rw [← u1_eq e33]; kernel_rfl) ?_
      have eq := eq_6 W
      go_simp
      exact k_of (HK.out (.bool true) _ rfl hB (Below.refl _ _)) (by rw [← u1_eq e33, ← u1_eq e34, ← u1_eq e35]; kernel_rfl)
    · intro u W hB _ hd _ K hK
      have HK := Lib.hid hK; clear hK
      have e33 : u 33 = .bool true := hd 33 (by decide +kernel)
      have e36 : u 36 = .bool true := hd 36 (by decide +kernel)
      refine wpOp_of rfl (by rfl) ?_
      go_simp
      exact k_of (HK.out (.bool true) _ rfl hB (Below.refl _ _)) (by rw [← u1_eq e33, ← u1_eq e36]; kernel_rfl)
    · intro u W hB _ hd _ K hK
      have HK := Lib.hid hK; clear hK
      have e37 : u 37 = .bool true := hd 37 (by decide +kernel)
      refine wpOp_of rfl (by rfl) ?_
      go_simp
      exact k_of (HK.out (.bool true) _ rfl hB (Below.refl _ _)) (by rw [← u1_eq e37]; kernel_rfl)
    · intro u W hB _ hd _ K hK
      have HK := Lib.hid hK; clear hK
      have e38 : u 38 = .bool true := hd 38 (by decide +kernel)
      refine wpOp_of rfl (by rw [← u1_eq e38]; kernel_rfl) ?_
      go_simp
      refine (lawake_any _).mono ?_
      rintro e w' ⟨rfl, hb⟩
      exact k_of (HK.out (.bool true) _ rfl (hon _ _ hB.out hb) hb) (by rw [← u1_eq e38]; kernel_rfl)
    · intro u W hB _ hd _ K hK
      have HK := Lib.hid hK; clear hK
      have e38 : u 38 = .bool true := hd 38 (by decide +kernel)
      have e39 : u 39 = .bool true := hd 39 (by decide +kernel)
      refine wpOp_of rfl (by rfl) ?_
      go_simp
      exact k_of (HK.out (.bool true) _ rfl hB (Below.refl _ _)) (by rw [← u1_eq e38, ← u1_eq e39]; kernel_rfl)
    · intro u W hB _ hd _ K hK
      have HK := Lib.hid hK; clear hK
      have e40 : u 40 = .bool true := hd 40 (by decide +kernel)
      refine wpOp_of rfl (by rfl) ?_
      go_simp
      exact k_of (HK.out (.bool true) _ rfl hB (Below.refl _ _)) (by rw [← u1_eq e40]; kernel_rfl)
  · intro u W hB hd
    have e41 : u 41 = .bool true := hd 41 (by decide)
    exact k_of (HQ.out u W hB.out) (by simp only [e41])

set_option maxRecDepth 100000 in
set_option maxHeartbeats 8000000 in
theorem lknown_any (w : World) :
    Calls Try.prog 6 #[] w fun e w' => e = .returned (.bool true) ∧ Below w.heap.size w w' := by
  have LAST := Lib.hid (Stn.new w)
  go_enter Try.func6, Try.ntmps6
  go_wp2_with (first
    | (go_at_call 32; (with_reducible refine (lshop_any _).mono ?_); rintro e wn ⟨K, X, rfl, hs, hb⟩; have HS := Lib.hid hs; have NEW := Lib.hid (LAST.out.on hb); clear LAST hs; have LAST := NEW; clear NEW; clear hb)
    | (go_at_call 33; (with_reducible refine (lcandle_any _).mono ?_); rintro e wn ⟨rfl, hb⟩; have NEW := Lib.hid (LAST.out.on hb); have HT := Lib.hid (HS.out.on hb); clear LAST HS; have LAST := NEW; have HS := HT; clear NEW HT; clear hb)
    | (go_at_call 34; (with_reducible refine (lsized_any _ _).mono ?_); rintro e wn ⟨rfl, hb⟩; have NEW := Lib.hid (LAST.out.on hb); have HT := Lib.hid (HS.out.on hb); clear LAST HS; have LAST := NEW; have HS := HT; clear NEW HT; clear hb)
    | (go_at_call 23; (with_reducible refine (aw_f0 HS.out).mono ?_); rintro e wn ⟨A1, n1, rfl, hi, hb⟩; have NEW := Lib.hid ((LAST.out.on hb).add hi (ints_st _ _)); clear LAST HS hi; have LAST := NEW; clear NEW; clear hb)
    | (go_at_call 23; (with_reducible refine (aw_f1 HS.out).mono ?_); rintro e wn ⟨A2, n2, rfl, hi, hb⟩; have NEW := Lib.hid ((LAST.out.on hb).add hi (ints_st _ _)); clear LAST HS hi; have LAST := NEW; clear NEW; clear hb)
    | (go_at_call 26; (with_reducible refine (aw_u25 HS.out).mono ?_); rintro e wn ⟨A3, n3, rfl, hi, hb⟩; have NEW := Lib.hid ((LAST.out.on hb).add hi (ints_st _ _)); clear LAST HS hi; have LAST := NEW; clear NEW; clear hb)
    | (go_at_call 30; (with_reducible refine (aw_z0 HS.out).mono ?_); rintro e wN ⟨rfl, hb⟩; have NEW := Lib.hid (LAST.out.on hb); clear LAST HS; have LAST := NEW; clear NEW; have NEW := Lib.hid ((LAST.out.alloc (.cells #[.int .i64 218, .int .i64 284] 25)).add (Blk.new _ _ _) (blk_st _ _ _)); clear LAST; have LAST := NEW; clear NEW; clear hb)
    | (go_at_call 30; (with_reducible refine (aw_z2 HS.out).mono ?_); rintro e wM ⟨rfl, hb⟩; have NEW := Lib.hid (LAST.out.on hb); clear LAST HS; have LAST := NEW; clear NEW; have NEW := Lib.hid ((LAST.out.alloc (.cells #[.int .i64 0, .int .i64 0] 25)).add (Blk.new _ _ _) (blk_st _ _ _)); clear LAST; have LAST := NEW; clear NEW; clear hb)
    | fail)
  refine wp_of_eq (knw_region (S := Stn w _) (fun W W' h hb => h.on hb) (N := wN.heap.size) (n1 := n1) (n2 := n2) (n3 := n3) (A1 := A1) (A2 := A2) (A3 := A3)
    (fun W h => h.p.1.2) (fun W h => h.p.1.1.1.1.2) (fun W h => h.p.1.1.2) LAST (Lib.hid fun u W h => ?_)) (by kernel_rfl)
  have HF := Lib.hid h.b
  clear h LAST
  go_wp2_with fail
  go_ret
  exact ⟨rfl, HF.out⟩
end Go.Proofs.Ytkjfommdeljefaa
