/- The law's Awake: its region that draws its order. -/
import Derived.Test.YtalghiecjhfflaaGr
namespace Go.Proofs.Ytalghiecjhfflaa
open Go.RowKit Go.Shelf Go.Maps
attribute [local go_sem] Oper.semAt_some

theorem eq_1 (W : World) : (binOp .eql 36 (.agg #[.int .i64 11470, .int .i64 12160]) (.agg #[.int .i64 11470, .int .i64 12160])).run Try.prog W = .ok (.bool true) W := by kernel_rfl
theorem eq_2 (W : World) : (binOp .eql 36 (.agg #[.int .i64 2070, .int .i64 2720]) (.agg #[.int .i64 2070, .int .i64 2720])).run Try.prog W = .ok (.bool true) W := by kernel_rfl
theorem eq_3 (W : World) : (binOp .eql 36 (.agg #[.int .i64 400, .int .i64 100000]) (.agg #[.int .i64 400, .int .i64 100000])).run Try.prog W = .ok (.bool true) W := by kernel_rfl

/-- What each operation leaves. -/
def awkR (_E _F _G n1 n2 : Nat) (A1 A2 : Option Addr) : Nat → Value → World → Prop
  | 0, v, _ => v = .int .i64 0
  | 1, v, _ => v = .bool true
  | 2, v, _ => v = .bool true
  | 3, v, _ => v = .int .i64 0
  | 4, v, _ => v = .bool true
  | 5, v, _ => v = .bool true
  | 6, v, _ => v = .bool true
  | 7, v, _ => v = .int .i64 0
  | 8, v, _ => v = .bool true
  | 9, v, _ => v = .bool true
  | 10, v, _ => v = .bool true
  | 11, v, _ => v = .int .i64 0
  | 12, v, _ => v = .bool true
  | 13, v, _ => v = .bool true
  | 14, v, _ => v = .bool true
  | 15, v, _ => v = .int .i64 0
  | 16, v, _ => v = .bool true
  | 17, v, _ => v = .bool true
  | 18, v, _ => v = .bool true
  | 19, v, _ => v = .int .i64 0
  | 20, v, _ => v = .bool true
  | 21, v, _ => v = .bool true
  | 22, v, _ => v = .bool true
  | 23, v, _ => v = .int .i64 0
  | 24, v, _ => v = .bool true
  | 25, v, _ => v = .bool true
  | 26, v, _ => v = .bool true
  | 27, v, _ => v = .int .i64 4
  | 28, v, _ => v = .bool true
  | 29, v, _ => v = .bool true
  | 30, v, _ => v = .bool true
  | 31, v, _ => v = .int .i64 25
  | 32, v, _ => v = .bool true
  | 33, v, _ => v = .bool true
  | 34, v, _ => v = .bool true
  | 35, v, _ => v = .agg #[.int .i64 11470, .int .i64 12160]
  | 36, v, _ => v = .agg #[.int .i64 11470, .int .i64 12160]
  | 37, v, _ => v = .bool true
  | 38, v, _ => v = .bool true
  | 39, v, _ => v = .bool true
  | 40, v, _ => v = .agg #[.int .i64 2070, .int .i64 2720]
  | 41, v, _ => v = .agg #[.int .i64 2070, .int .i64 2720]
  | 42, v, _ => v = .bool true
  | 43, v, _ => v = .bool true
  | 44, v, _ => v = .bool true
  | 45, v, _ => v = .int .i64 8200
  | 46, v, _ => v = .bool true
  | 47, v, _ => v = .bool true
  | 48, v, _ => v = .bool true
  | 49, v, _ => v = .int .i64 11820
  | 50, v, _ => v = .bool true
  | 51, v, _ => v = .bool true
  | 52, v, _ => v = .bool true
  | 53, v, _ => v = .int .i64 2370
  | 54, v, _ => v = .bool true
  | 55, v, _ => v = .bool true
  | 56, v, _ => v = .bool true
  | 57, v, _ => v = .int .i64 2
  | 58, v, _ => v = .bool true
  | 59, v, _ => v = .bool true
  | 60, v, _ => v = .bool true
  | 61, v, _ => v = .slice A1 3 n1
  | 62, v, W => ∃ b_62, v = .slice (some ⟨b_62, 0, none⟩) 3 3 ∧ IntsIn W (some ⟨b_62, 0, none⟩) [4, 15, 1]
  | 63, v, _ => v = .bool true
  | 64, v, _ => v = .bool true
  | 65, v, _ => v = .bool true
  | 66, v, _ => v = .int .i64 8200
  | 67, v, _ => v = .bool true
  | 68, v, _ => v = .bool true
  | 69, v, _ => v = .bool true
  | 70, v, _ => v = .agg #[.int .i64 400, .int .i64 100000]
  | 71, v, _ => v = .agg #[.int .i64 400, .int .i64 100000]
  | 72, v, _ => v = .bool true
  | 73, v, _ => v = .bool true
  | 74, v, _ => v = .bool true
  | 75, v, _ => v = .slice A2 3 n2
  | 76, v, W => ∃ b_76, v = .slice (some ⟨b_76, 0, none⟩) 3 3 ∧ IntsIn W (some ⟨b_76, 0, none⟩) [200, 750, 51]
  | 77, v, _ => v = .bool true
  | 78, v, _ => v = .bool true
  | 79, v, _ => v = .bool true
  | _, _, _ => True
theorem awkR_on (E F G n1 n2 : Nat) (A1 A2 : Option Addr) : ∀ i, i < 80 → ∀ v W W', awkR E F G n1 n2 A1 A2 i v W → Below W.heap.size W W' → awkR E F G n1 n2 A1 A2 i v W' := by
  iterate 80 (refine all_succ ?_ ?_)
  · exact all_zero
  · exact fun _ _ _ h _ => h
  · exact fun _ _ _ h _ => h
  · exact fun _ _ _ h _ => h
  · exact fun _ _ _ h _ => h
  · exact fun _ _ _ h _ => h
  · exact fun _ _ _ h _ => h
  · exact fun _ _ _ h _ => h
  · exact fun _ _ _ h _ => h
  · exact fun _ _ _ h _ => h
  · exact fun _ _ _ h _ => h
  · exact fun _ _ _ h _ => h
  · exact fun _ _ _ h _ => h
  · exact fun _ _ _ h _ => h
  · exact fun _ _ _ h _ => h
  · exact fun _ _ _ h _ => h
  · exact fun _ _ _ h _ => h
  · exact fun _ _ _ h _ => h
  · exact fun _ _ _ h _ => h
  · exact fun _ _ _ h _ => h
  · exact fun _ _ _ h _ => h
  · exact fun _ _ _ h _ => h
  · exact fun _ _ _ h _ => h
  · exact fun _ _ _ h _ => h
  · exact fun _ _ _ h _ => h
  · exact fun _ _ _ h _ => h
  · exact fun _ _ _ h _ => h
  · exact fun _ _ _ h _ => h
  · exact fun _ _ _ h _ => h
  · exact fun _ _ _ h _ => h
  · exact fun _ _ _ h _ => h
  · exact fun _ _ _ h _ => h
  · exact fun _ _ _ h _ => h
  · exact fun _ _ _ h _ => h
  · exact fun _ _ _ h _ => h
  · exact fun _ _ _ h _ => h
  · exact fun _ _ _ h _ => h
  · exact fun _ _ _ h _ => h
  · exact fun _ _ _ h _ => h
  · exact fun _ _ _ h _ => h
  · exact fun _ _ _ h _ => h
  · exact fun _ _ _ h _ => h
  · exact fun _ _ _ h _ => h
  · exact fun _ _ _ h _ => h
  · exact fun _ _ _ h _ => h
  · exact fun _ _ _ h _ => h
  · exact fun _ _ _ h _ => h
  · exact fun _ _ _ h _ => h
  · exact fun _ _ _ h _ => h
  · exact fun _ _ _ h _ => h
  · exact fun _ _ _ h _ => h
  · exact fun _ _ _ h _ => h
  · exact fun _ _ _ h _ => h
  · exact fun _ _ _ h _ => h
  · exact fun _ _ _ h _ => h
  · exact fun _ _ _ h _ => h
  · exact fun _ _ _ h _ => h
  · exact fun _ _ _ h _ => h
  · exact fun _ _ _ h _ => h
  · exact fun _ _ _ h _ => h
  · exact fun _ _ _ h _ => h
  · exact fun _ _ _ h _ => h
  · exact fun _ _ _ h _ => h
  · rintro v W W' ⟨b_62, e, h0⟩ hb; exact ⟨b_62, e, h0.on hb⟩
  · exact fun _ _ _ h _ => h
  · exact fun _ _ _ h _ => h
  · exact fun _ _ _ h _ => h
  · exact fun _ _ _ h _ => h
  · exact fun _ _ _ h _ => h
  · exact fun _ _ _ h _ => h
  · exact fun _ _ _ h _ => h
  · exact fun _ _ _ h _ => h
  · exact fun _ _ _ h _ => h
  · exact fun _ _ _ h _ => h
  · exact fun _ _ _ h _ => h
  · exact fun _ _ _ h _ => h
  · exact fun _ _ _ h _ => h
  · rintro v W W' ⟨b_76, e, h0⟩ hb; exact ⟨b_76, e, h0.on hb⟩
  · exact fun _ _ _ h _ => h
  · exact fun _ _ _ h _ => h
  · exact fun _ _ _ h _ => h
set_option maxRecDepth 100000 in
set_option maxHeartbeats 8000000 in
theorem awk_region {S : World → Prop} (hon : ∀ W W', S W → Below W.heap.size W W' → S W') {E F G n1 n2 : Nat} {A1 A2 : Option Addr} (hE : ∀ W, S W → Blk W E 36 #[.int .i64 11470, .int .i64 12160]) (hF : ∀ W, S W → Blk W F 36 #[.int .i64 2070, .int .i64 2720]) (hG : ∀ W, S W → Blk W G 36 #[.int .i64 400, .int .i64 100000]) (hA1 : ∀ W, S W → IntsIn W A1 [4, 15, 1]) (hA2 : ∀ W, S W → IntsIn W A2 [200, 750, 51]) {Q : Exit → Act → World → Prop} {s19 s21 s22 s23 s24 s25 s26 s27 s28 s29 s30 s31 s32 s33 s34 s35 s36 s37 s38 s39 s40 s41 s42 s43 s44 s45 s46 s47 s48 s49 s50 s51 s52 s53 s54 s55 s56 s57 s58 s59 s60 s61 s62 s63 s64 s65 s66 s67 s68 s69 s70 s71 s72 s73 s74 s75 s76 : Value} {W0 : World} (HL : Hid (S W0))
    (HQ : Hid (∀ (u : Nat → Value) (W : World), S W → Q .normal ⟨#[.bool true, .int .i64 25, .int .i64 0, .pointer (some ⟨E, 0, none⟩), .pointer (some ⟨F, 0, none⟩), .int .i64 8200, .int .i64 0, .int .i64 11820, .int .i64 2370, .int .i64 0, .int .i64 2, .int .i64 0, .slice A1 3 n1, .int .i64 8200, .int .i64 0, .pointer (some ⟨G, 0, none⟩), .int .i64 0, .slice A2 3 n2, .int .i64 0, s19, .int .i64 4, s21, s22, s23, s24, s25, s26, s27, s28, s29, s30, s31, s32, s33, s34, s35, s36, s37, s38, s39, s40, s41, s42, s43, s44, s45, s46, s47, s48, s49, s50, s51, s52, s53, s54, s55, s56, s57, s58, s59, s60, s61, s62, s63, s64, s65, s66, s67, s68, s69, s70, s71, s72, s73, s74, s75, s76, u 0, u 1, u 2, u 3, u 4, u 5, u 6, u 7, u 8, u 9, u 10, u 11, u 12, u 13, u 14, u 15, u 16, u 17, u 18, u 19, u 20, u 21, u 22, u 23, u 24, u 25, u 26, u 27, u 28, u 29, u 30, u 31, u 32, u 33, u 34, u 35, u 36, u 37, u 38, u 39, u 40, u 41, u 42, u 43, u 44, u 45, u 46, u 47, u 48, u 49, u 50, u 51, u 52, u 53, u 54, u 55, u 56, u 57, u 58, u 59, u 60, u 61, u 62, u 63, u 64, u 65, u 66, u 67, u 68, u 69, u 70, u 71, u 72, u 73, u 74, u 75, u 76, u 77, u 78], []⟩ W)) :
    Code.wp Try.prog ((Try.f19.body.bind (regionAt 9)).getD .skip) Q ⟨#[.bool false, .int .i64 25, .int .i64 0, .pointer (some ⟨E, 0, none⟩), .pointer (some ⟨F, 0, none⟩), .int .i64 8200, .int .i64 0, .int .i64 11820, .int .i64 2370, .int .i64 0, .int .i64 2, .int .i64 0, .slice A1 3 n1, .int .i64 8200, .int .i64 0, .pointer (some ⟨G, 0, none⟩), .int .i64 0, .slice A2 3 n2, .int .i64 0, s19, .int .i64 4, s21, s22, s23, s24, s25, s26, s27, s28, s29, s30, s31, s32, s33, s34, s35, s36, s37, s38, s39, s40, s41, s42, s43, s44, s45, s46, s47, s48, s49, s50, s51, s52, s53, s54, s55, s56, s57, s58, s59, s60, s61, s62, s63, s64, s65, s66, s67, s68, s69, s70, s71, s72, s73, s74, s75, s76, undef, undef, undef, undef, undef, undef, undef, undef, undef, undef, undef, undef, undef, undef, undef, undef, undef, undef, undef, undef, undef, undef, undef, undef, undef, undef, undef, undef, undef, undef, undef, undef, undef, undef, undef, undef, undef, undef, undef, undef, undef, undef, undef, undef, undef, undef, undef, undef, undef, undef, undef, undef, undef, undef, undef, undef, undef, undef, undef, undef, undef, undef, undef, undef, undef, undef, undef, undef, undef, undef, undef, undef, undef, undef, undef, undef, undef, undef, undef], []⟩ W0 := by
  conv => arg 2; whnf
  refine wp_region_spec (by kernel_rfl) 80 (by kernel_rfl) (fun u => ⟨#[u 79, .int .i64 25, .int .i64 0, .pointer (some ⟨E, 0, none⟩), .pointer (some ⟨F, 0, none⟩), .int .i64 8200, .int .i64 0, .int .i64 11820, .int .i64 2370, .int .i64 0, .int .i64 2, .int .i64 0, .slice A1 3 n1, .int .i64 8200, .int .i64 0, .pointer (some ⟨G, 0, none⟩), .int .i64 0, .slice A2 3 n2, .int .i64 0, s19, .int .i64 4, s21, s22, s23, s24, s25, s26, s27, s28, s29, s30, s31, s32, s33, s34, s35, s36, s37, s38, s39, s40, s41, s42, s43, s44, s45, s46, s47, s48, s49, s50, s51, s52, s53, s54, s55, s56, s57, s58, s59, s60, s61, s62, s63, s64, s65, s66, s67, s68, s69, s70, s71, s72, s73, s74, s75, s76, u 0, u 1, u 2, u 3, u 4, u 5, u 6, u 7, u 8, u 9, u 10, u 11, u 12, u 13, u 14, u 15, u 16, u 17, u 18, u 19, u 20, u 21, u 22, u 23, u 24, u 25, u 26, u 27, u 28, u 29, u 30, u 31, u 32, u 33, u 34, u 35, u 36, u 37, u 38, u 39, u 40, u 41, u 42, u 43, u 44, u 45, u 46, u 47, u 48, u 49, u 50, u 51, u 52, u 53, u 54, u 55, u 56, u 57, u 58, u 59, u 60, u 61, u 62, u 63, u 64, u 65, u 66, u 67, u 68, u 69, u 70, u 71, u 72, u 73, u 74, u 75, u 76, u 77, u 78], []⟩) (fun i => if i = 79 then .bool false else undef) (fun W => Hid (S W)) (awkR E F G n1 n2 A1 A2) (by kernel_rfl) (hon _ _ HL.out (Below.refl _ _).drew) (fun i v W W2 hi h hb => awkR_on E F G n1 n2 A1 A2 i hi v W W2 h hb) (by decide +kernel) ?_ ?_
  · iterate 80 (refine all_succ ?_ ?_)
    · exact all_zero
    · intro u W hB _ hd _ K hK
      have HK := Lib.hid hK; clear hK
      refine wpOp_of rfl (by rfl) ?_
      go_simp
      exact k_of (HK.out (.int .i64 0) _ rfl hB (Below.refl _ _)) (by kernel_rfl)
    · intro u W hB _ hd _ K hK
      have HK := Lib.hid hK; clear hK
      have e0 : u 0 = .int .i64 0 := hd 0 (by decide +kernel)
      refine wpOp_of rfl (by rfl) ?_
      go_simp
      exact k_of (HK.out (.bool true) _ rfl hB (Below.refl _ _)) (by rw [← u1_eq e0]; kernel_rfl)
    · intro u W hB _ hd _ K hK
      have HK := Lib.hid hK; clear hK
      have e1 : u 1 = .bool true := hd 1 (by decide +kernel)
      refine wpOp_of rfl (by rfl) ?_
      go_simp
      exact k_of (HK.out (.bool true) _ rfl hB (Below.refl _ _)) (by rw [← u1_eq e1]; kernel_rfl)
    · intro u W hB _ hd _ K hK
      have HK := Lib.hid hK; clear hK
      have e2 : u 2 = .bool true := hd 2 (by decide +kernel)
      refine wpOp_of rfl (by rw [← u1_eq e2]; kernel_rfl) ?_
      go_simp
      exact k_of (HK.out (.int .i64 0) _ rfl hB (Below.refl _ _)) (by rw [← u1_eq e2]; kernel_rfl)
    · intro u W hB _ hd _ K hK
      have HK := Lib.hid hK; clear hK
      have e2 : u 2 = .bool true := hd 2 (by decide +kernel)
      have e3 : u 3 = .int .i64 0 := hd 3 (by decide +kernel)
      refine wpOp_of rfl (by rw [← u1_eq e2]; kernel_rfl) ?_
      go_simp
      exact k_of (HK.out (.bool true) _ rfl hB (Below.refl _ _)) (by rw [← u1_eq e2, ← u1_eq e3]; kernel_rfl)
    · intro u W hB _ hd _ K hK
      have HK := Lib.hid hK; clear hK
      have e2 : u 2 = .bool true := hd 2 (by decide +kernel)
      have e4 : u 4 = .bool true := hd 4 (by decide +kernel)
      refine wpOp_of rfl (by rfl) ?_
      go_simp
      exact k_of (HK.out (.bool true) _ rfl hB (Below.refl _ _)) (by rw [← u1_eq e2, ← u1_eq e4]; kernel_rfl)
    · intro u W hB _ hd _ K hK
      have HK := Lib.hid hK; clear hK
      have e5 : u 5 = .bool true := hd 5 (by decide +kernel)
      refine wpOp_of rfl (by rfl) ?_
      go_simp
      exact k_of (HK.out (.bool true) _ rfl hB (Below.refl _ _)) (by rw [← u1_eq e5]; kernel_rfl)
    · intro u W hB _ hd _ K hK
      have HK := Lib.hid hK; clear hK
      have e6 : u 6 = .bool true := hd 6 (by decide +kernel)
      refine wpOp_of rfl (by rw [← u1_eq e6]; kernel_rfl) ?_
      go_simp
      exact k_of (HK.out (.int .i64 0) _ rfl hB (Below.refl _ _)) (by rw [← u1_eq e6]; kernel_rfl)
    · intro u W hB _ hd _ K hK
      have HK := Lib.hid hK; clear hK
      have e6 : u 6 = .bool true := hd 6 (by decide +kernel)
      have e7 : u 7 = .int .i64 0 := hd 7 (by decide +kernel)
      refine wpOp_of rfl (by rw [← u1_eq e6]; kernel_rfl) ?_
      go_simp
      exact k_of (HK.out (.bool true) _ rfl hB (Below.refl _ _)) (by rw [← u1_eq e6, ← u1_eq e7]; kernel_rfl)
    · intro u W hB _ hd _ K hK
      have HK := Lib.hid hK; clear hK
      have e6 : u 6 = .bool true := hd 6 (by decide +kernel)
      have e8 : u 8 = .bool true := hd 8 (by decide +kernel)
      refine wpOp_of rfl (by rfl) ?_
      go_simp
      exact k_of (HK.out (.bool true) _ rfl hB (Below.refl _ _)) (by rw [← u1_eq e6, ← u1_eq e8]; kernel_rfl)
    · intro u W hB _ hd _ K hK
      have HK := Lib.hid hK; clear hK
      have e9 : u 9 = .bool true := hd 9 (by decide +kernel)
      refine wpOp_of rfl (by rfl) ?_
      go_simp
      exact k_of (HK.out (.bool true) _ rfl hB (Below.refl _ _)) (by rw [← u1_eq e9]; kernel_rfl)
    · intro u W hB _ hd _ K hK
      have HK := Lib.hid hK; clear hK
      have e10 : u 10 = .bool true := hd 10 (by decide +kernel)
      refine wpOp_of rfl (by rw [← u1_eq e10]; kernel_rfl) ?_
      go_simp
      exact k_of (HK.out (.int .i64 0) _ rfl hB (Below.refl _ _)) (by rw [← u1_eq e10]; kernel_rfl)
    · intro u W hB _ hd _ K hK
      have HK := Lib.hid hK; clear hK
      have e10 : u 10 = .bool true := hd 10 (by decide +kernel)
      have e11 : u 11 = .int .i64 0 := hd 11 (by decide +kernel)
      refine wpOp_of rfl (by rw [← u1_eq e10]; kernel_rfl) ?_
      go_simp
      exact k_of (HK.out (.bool true) _ rfl hB (Below.refl _ _)) (by rw [← u1_eq e10, ← u1_eq e11]; kernel_rfl)
    · intro u W hB _ hd _ K hK
      have HK := Lib.hid hK; clear hK
      have e10 : u 10 = .bool true := hd 10 (by decide +kernel)
      have e12 : u 12 = .bool true := hd 12 (by decide +kernel)
      refine wpOp_of rfl (by rfl) ?_
      go_simp
      exact k_of (HK.out (.bool true) _ rfl hB (Below.refl _ _)) (by rw [← u1_eq e10, ← u1_eq e12]; kernel_rfl)
    · intro u W hB _ hd _ K hK
      have HK := Lib.hid hK; clear hK
      have e13 : u 13 = .bool true := hd 13 (by decide +kernel)
      refine wpOp_of rfl (by rfl) ?_
      go_simp
      exact k_of (HK.out (.bool true) _ rfl hB (Below.refl _ _)) (by rw [← u1_eq e13]; kernel_rfl)
    · intro u W hB _ hd _ K hK
      have HK := Lib.hid hK; clear hK
      have e14 : u 14 = .bool true := hd 14 (by decide +kernel)
      refine wpOp_of rfl (by rw [← u1_eq e14]; kernel_rfl) ?_
      go_simp
      exact k_of (HK.out (.int .i64 0) _ rfl hB (Below.refl _ _)) (by rw [← u1_eq e14]; kernel_rfl)
    · intro u W hB _ hd _ K hK
      have HK := Lib.hid hK; clear hK
      have e14 : u 14 = .bool true := hd 14 (by decide +kernel)
      have e15 : u 15 = .int .i64 0 := hd 15 (by decide +kernel)
      refine wpOp_of rfl (by rw [← u1_eq e14]; kernel_rfl) ?_
      go_simp
      exact k_of (HK.out (.bool true) _ rfl hB (Below.refl _ _)) (by rw [← u1_eq e14, ← u1_eq e15]; kernel_rfl)
    · intro u W hB _ hd _ K hK
      have HK := Lib.hid hK; clear hK
      have e14 : u 14 = .bool true := hd 14 (by decide +kernel)
      have e16 : u 16 = .bool true := hd 16 (by decide +kernel)
      refine wpOp_of rfl (by rfl) ?_
      go_simp
      exact k_of (HK.out (.bool true) _ rfl hB (Below.refl _ _)) (by rw [← u1_eq e14, ← u1_eq e16]; kernel_rfl)
    · intro u W hB _ hd _ K hK
      have HK := Lib.hid hK; clear hK
      have e17 : u 17 = .bool true := hd 17 (by decide +kernel)
      refine wpOp_of rfl (by rfl) ?_
      go_simp
      exact k_of (HK.out (.bool true) _ rfl hB (Below.refl _ _)) (by rw [← u1_eq e17]; kernel_rfl)
    · intro u W hB _ hd _ K hK
      have HK := Lib.hid hK; clear hK
      have e18 : u 18 = .bool true := hd 18 (by decide +kernel)
      refine wpOp_of rfl (by rw [← u1_eq e18]; kernel_rfl) ?_
      go_simp
      exact k_of (HK.out (.int .i64 0) _ rfl hB (Below.refl _ _)) (by rw [← u1_eq e18]; kernel_rfl)
    · intro u W hB _ hd _ K hK
      have HK := Lib.hid hK; clear hK
      have e18 : u 18 = .bool true := hd 18 (by decide +kernel)
      have e19 : u 19 = .int .i64 0 := hd 19 (by decide +kernel)
      refine wpOp_of rfl (by rw [← u1_eq e18]; kernel_rfl) ?_
      go_simp
      exact k_of (HK.out (.bool true) _ rfl hB (Below.refl _ _)) (by rw [← u1_eq e18, ← u1_eq e19]; kernel_rfl)
    · intro u W hB _ hd _ K hK
      have HK := Lib.hid hK; clear hK
      have e18 : u 18 = .bool true := hd 18 (by decide +kernel)
      have e20 : u 20 = .bool true := hd 20 (by decide +kernel)
      refine wpOp_of rfl (by rfl) ?_
      go_simp
      exact k_of (HK.out (.bool true) _ rfl hB (Below.refl _ _)) (by rw [← u1_eq e18, ← u1_eq e20]; kernel_rfl)
    · intro u W hB _ hd _ K hK
      have HK := Lib.hid hK; clear hK
      have e21 : u 21 = .bool true := hd 21 (by decide +kernel)
      refine wpOp_of rfl (by rfl) ?_
      go_simp
      exact k_of (HK.out (.bool true) _ rfl hB (Below.refl _ _)) (by rw [← u1_eq e21]; kernel_rfl)
    · intro u W hB _ hd _ K hK
      have HK := Lib.hid hK; clear hK
      have e22 : u 22 = .bool true := hd 22 (by decide +kernel)
      refine wpOp_of rfl (by rw [← u1_eq e22]; kernel_rfl) ?_
      go_simp
      exact k_of (HK.out (.int .i64 0) _ rfl hB (Below.refl _ _)) (by rw [← u1_eq e22]; kernel_rfl)
    · intro u W hB _ hd _ K hK
      have HK := Lib.hid hK; clear hK
      have e22 : u 22 = .bool true := hd 22 (by decide +kernel)
      have e23 : u 23 = .int .i64 0 := hd 23 (by decide +kernel)
      refine wpOp_of rfl (by rw [← u1_eq e22]; kernel_rfl) ?_
      go_simp
      exact k_of (HK.out (.bool true) _ rfl hB (Below.refl _ _)) (by rw [← u1_eq e22, ← u1_eq e23]; kernel_rfl)
    · intro u W hB _ hd _ K hK
      have HK := Lib.hid hK; clear hK
      have e22 : u 22 = .bool true := hd 22 (by decide +kernel)
      have e24 : u 24 = .bool true := hd 24 (by decide +kernel)
      refine wpOp_of rfl (by rfl) ?_
      go_simp
      exact k_of (HK.out (.bool true) _ rfl hB (Below.refl _ _)) (by rw [← u1_eq e22, ← u1_eq e24]; kernel_rfl)
    · intro u W hB _ hd _ K hK
      have HK := Lib.hid hK; clear hK
      have e25 : u 25 = .bool true := hd 25 (by decide +kernel)
      refine wpOp_of rfl (by rfl) ?_
      go_simp
      exact k_of (HK.out (.bool true) _ rfl hB (Below.refl _ _)) (by rw [← u1_eq e25]; kernel_rfl)
    · intro u W hB _ hd _ K hK
      have HK := Lib.hid hK; clear hK
      have e26 : u 26 = .bool true := hd 26 (by decide +kernel)
      refine wpOp_of rfl (by rw [← u1_eq e26]; kernel_rfl) ?_
      go_simp
      exact k_of (HK.out (.int .i64 4) _ rfl hB (Below.refl _ _)) (by rw [← u1_eq e26]; kernel_rfl)
    · intro u W hB _ hd _ K hK
      have HK := Lib.hid hK; clear hK
      have e26 : u 26 = .bool true := hd 26 (by decide +kernel)
      have e27 : u 27 = .int .i64 4 := hd 27 (by decide +kernel)
      refine wpOp_of rfl (by rw [← u1_eq e26]; kernel_rfl) ?_
      go_simp
      exact k_of (HK.out (.bool true) _ rfl hB (Below.refl _ _)) (by rw [← u1_eq e26, ← u1_eq e27]; kernel_rfl)
    · intro u W hB _ hd _ K hK
      have HK := Lib.hid hK; clear hK
      have e26 : u 26 = .bool true := hd 26 (by decide +kernel)
      have e28 : u 28 = .bool true := hd 28 (by decide +kernel)
      refine wpOp_of rfl (by rfl) ?_
      go_simp
      exact k_of (HK.out (.bool true) _ rfl hB (Below.refl _ _)) (by rw [← u1_eq e26, ← u1_eq e28]; kernel_rfl)
    · intro u W hB _ hd _ K hK
      have HK := Lib.hid hK; clear hK
      have e29 : u 29 = .bool true := hd 29 (by decide +kernel)
      refine wpOp_of rfl (by rfl) ?_
      go_simp
      exact k_of (HK.out (.bool true) _ rfl hB (Below.refl _ _)) (by rw [← u1_eq e29]; kernel_rfl)
    · intro u W hB _ hd _ K hK
      have HK := Lib.hid hK; clear hK
      have e30 : u 30 = .bool true := hd 30 (by decide +kernel)
      refine wpOp_of rfl (by rw [← u1_eq e30]; kernel_rfl) ?_
      go_simp
      exact k_of (HK.out (.int .i64 25) _ rfl hB (Below.refl _ _)) (by rw [← u1_eq e30]; kernel_rfl)
    · intro u W hB _ hd _ K hK
      have HK := Lib.hid hK; clear hK
      have e30 : u 30 = .bool true := hd 30 (by decide +kernel)
      have e31 : u 31 = .int .i64 25 := hd 31 (by decide +kernel)
      refine wpOp_of rfl (by rw [← u1_eq e30]; kernel_rfl) ?_
      go_simp
      exact k_of (HK.out (.bool true) _ rfl hB (Below.refl _ _)) (by rw [← u1_eq e30, ← u1_eq e31]; kernel_rfl)
    · intro u W hB _ hd _ K hK
      have HK := Lib.hid hK; clear hK
      have e30 : u 30 = .bool true := hd 30 (by decide +kernel)
      have e32 : u 32 = .bool true := hd 32 (by decide +kernel)
      refine wpOp_of rfl (by rfl) ?_
      go_simp
      exact k_of (HK.out (.bool true) _ rfl hB (Below.refl _ _)) (by rw [← u1_eq e30, ← u1_eq e32]; kernel_rfl)
    · intro u W hB _ hd _ K hK
      have HK := Lib.hid hK; clear hK
      have e33 : u 33 = .bool true := hd 33 (by decide +kernel)
      refine wpOp_of rfl (by rfl) ?_
      go_simp
      exact k_of (HK.out (.bool true) _ rfl hB (Below.refl _ _)) (by rw [← u1_eq e33]; kernel_rfl)
    · intro u W hB _ hd _ K hK
      have HK := Lib.hid hK; clear hK
      have e34 : u 34 = .bool true := hd 34 (by decide +kernel)
      refine wpOp_of rfl (by rw [← u1_eq e34]; kernel_rfl) ?_
      have z0 := (hE W hB.out).cell 0; have z1 := (hE W hB.out).cell 1
      go_simp
      exact k_of (HK.out (.agg #[.int .i64 11470, .int .i64 12160]) _ rfl hB (Below.refl _ _)) (by rw [← u1_eq e34]; kernel_rfl)
    · intro u W hB _ hd _ K hK
      have HK := Lib.hid hK; clear hK
      have e34 : u 34 = .bool true := hd 34 (by decide +kernel)
      refine wpOp_of rfl (by rw [← u1_eq e34]; kernel_rfl) ?_
      go_simp
      refine (lspan_any 11470 12160 _).mono ?_
      rintro e w' ⟨rfl, hb⟩
      exact k_of (HK.out (.agg #[.int .i64 11470, .int .i64 12160]) _ rfl (hon _ _ hB.out hb) hb) (by rw [← u1_eq e34]; kernel_rfl)
    · intro u W hB _ hd _ K hK
      have HK := Lib.hid hK; clear hK
      have e34 : u 34 = .bool true := hd 34 (by decide +kernel)
      have e35 : u 35 = .agg #[.int .i64 11470, .int .i64 12160] := hd 35 (by decide +kernel)
      have e36 : u 36 = .agg #[.int .i64 11470, .int .i64 12160] := hd 36 (by decide +kernel)
      refine wpOp_of rfl (by rw [← u1_eq e34]; kernel_rfl) ?_
      have eq := eq_1 W
      go_simp
      exact k_of (HK.out (.bool true) _ rfl hB (Below.refl _ _)) (by rw [← u1_eq e34, ← u1_eq e35, ← u1_eq e36]; kernel_rfl)
    · intro u W hB _ hd _ K hK
      have HK := Lib.hid hK; clear hK
      have e34 : u 34 = .bool true := hd 34 (by decide +kernel)
      have e37 : u 37 = .bool true := hd 37 (by decide +kernel)
      refine wpOp_of rfl (by rfl) ?_
      go_simp
      exact k_of (HK.out (.bool true) _ rfl hB (Below.refl _ _)) (by rw [← u1_eq e34, ← u1_eq e37]; kernel_rfl)
    · intro u W hB _ hd _ K hK
      have HK := Lib.hid hK; clear hK
      have e38 : u 38 = .bool true := hd 38 (by decide +kernel)
      refine wpOp_of rfl (by rfl) ?_
      go_simp
      exact k_of (HK.out (.bool true) _ rfl hB (Below.refl _ _)) (by rw [← u1_eq e38]; kernel_rfl)
    · intro u W hB _ hd _ K hK
      have HK := Lib.hid hK; clear hK
      have e39 : u 39 = .bool true := hd 39 (by decide +kernel)
      refine wpOp_of rfl (by rw [← u1_eq e39]; kernel_rfl) ?_
      have z0 := (hF W hB.out).cell 0; have z1 := (hF W hB.out).cell 1
      go_simp
      exact k_of (HK.out (.agg #[.int .i64 2070, .int .i64 2720]) _ rfl hB (Below.refl _ _)) (by rw [← u1_eq e39]; kernel_rfl)
    · intro u W hB _ hd _ K hK
      have HK := Lib.hid hK; clear hK
      have e39 : u 39 = .bool true := hd 39 (by decide +kernel)
      refine wpOp_of rfl (by rw [← u1_eq e39]; kernel_rfl) ?_
      go_simp
      refine (lspan_any 2070 2720 _).mono ?_
      rintro e w' ⟨rfl, hb⟩
      exact k_of (HK.out (.agg #[.int .i64 2070, .int .i64 2720]) _ rfl (hon _ _ hB.out hb) hb) (by rw [← u1_eq e39]; kernel_rfl)
    · intro u W hB _ hd _ K hK
      have HK := Lib.hid hK; clear hK
      have e39 : u 39 = .bool true := hd 39 (by decide +kernel)
      have e40 : u 40 = .agg #[.int .i64 2070, .int .i64 2720] := hd 40 (by decide +kernel)
      have e41 : u 41 = .agg #[.int .i64 2070, .int .i64 2720] := hd 41 (by decide +kernel)
      refine wpOp_of rfl (by rw [← u1_eq e39]; kernel_rfl) ?_
      have eq := eq_2 W
      go_simp
      exact k_of (HK.out (.bool true) _ rfl hB (Below.refl _ _)) (by rw [← u1_eq e39, ← u1_eq e40, ← u1_eq e41]; kernel_rfl)
    · intro u W hB _ hd _ K hK
      have HK := Lib.hid hK; clear hK
      have e39 : u 39 = .bool true := hd 39 (by decide +kernel)
      have e42 : u 42 = .bool true := hd 42 (by decide +kernel)
      refine wpOp_of rfl (by rfl) ?_
      go_simp
      exact k_of (HK.out (.bool true) _ rfl hB (Below.refl _ _)) (by rw [← u1_eq e39, ← u1_eq e42]; kernel_rfl)
    · intro u W hB _ hd _ K hK
      have HK := Lib.hid hK; clear hK
      have e43 : u 43 = .bool true := hd 43 (by decide +kernel)
      refine wpOp_of rfl (by rfl) ?_
      go_simp
      exact k_of (HK.out (.bool true) _ rfl hB (Below.refl _ _)) (by rw [← u1_eq e43]; kernel_rfl)
    · intro u W hB _ hd _ K hK
      have HK := Lib.hid hK; clear hK
      have e44 : u 44 = .bool true := hd 44 (by decide +kernel)
      refine wpOp_of rfl (by rw [← u1_eq e44]; kernel_rfl) ?_
      go_simp
      exact k_of (HK.out (.int .i64 8200) _ rfl hB (Below.refl _ _)) (by rw [← u1_eq e44]; kernel_rfl)
    · intro u W hB _ hd _ K hK
      have HK := Lib.hid hK; clear hK
      have e44 : u 44 = .bool true := hd 44 (by decide +kernel)
      have e45 : u 45 = .int .i64 8200 := hd 45 (by decide +kernel)
      refine wpOp_of rfl (by rw [← u1_eq e44]; kernel_rfl) ?_
      go_simp
      exact k_of (HK.out (.bool true) _ rfl hB (Below.refl _ _)) (by rw [← u1_eq e44, ← u1_eq e45]; kernel_rfl)
    · intro u W hB _ hd _ K hK
      have HK := Lib.hid hK; clear hK
      have e44 : u 44 = .bool true := hd 44 (by decide +kernel)
      have e46 : u 46 = .bool true := hd 46 (by decide +kernel)
      refine wpOp_of rfl (by rfl) ?_
      go_simp
      exact k_of (HK.out (.bool true) _ rfl hB (Below.refl _ _)) (by rw [← u1_eq e44, ← u1_eq e46]; kernel_rfl)
    · intro u W hB _ hd _ K hK
      have HK := Lib.hid hK; clear hK
      have e47 : u 47 = .bool true := hd 47 (by decide +kernel)
      refine wpOp_of rfl (by rfl) ?_
      go_simp
      exact k_of (HK.out (.bool true) _ rfl hB (Below.refl _ _)) (by rw [← u1_eq e47]; kernel_rfl)
    · intro u W hB _ hd _ K hK
      have HK := Lib.hid hK; clear hK
      have e48 : u 48 = .bool true := hd 48 (by decide +kernel)
      refine wpOp_of rfl (by rw [← u1_eq e48]; kernel_rfl) ?_
      go_simp
      exact k_of (HK.out (.int .i64 11820) _ rfl hB (Below.refl _ _)) (by rw [← u1_eq e48]; kernel_rfl)
    · intro u W hB _ hd _ K hK
      have HK := Lib.hid hK; clear hK
      have e48 : u 48 = .bool true := hd 48 (by decide +kernel)
      have e49 : u 49 = .int .i64 11820 := hd 49 (by decide +kernel)
      refine wpOp_of rfl (by rw [← u1_eq e48]; kernel_rfl) ?_
      go_simp
      exact k_of (HK.out (.bool true) _ rfl hB (Below.refl _ _)) (by rw [← u1_eq e48, ← u1_eq e49]; kernel_rfl)
    · intro u W hB _ hd _ K hK
      have HK := Lib.hid hK; clear hK
      have e48 : u 48 = .bool true := hd 48 (by decide +kernel)
      have e50 : u 50 = .bool true := hd 50 (by decide +kernel)
      refine wpOp_of rfl (by rfl) ?_
      go_simp
      exact k_of (HK.out (.bool true) _ rfl hB (Below.refl _ _)) (by rw [← u1_eq e48, ← u1_eq e50]; kernel_rfl)
    · intro u W hB _ hd _ K hK
      have HK := Lib.hid hK; clear hK
      have e51 : u 51 = .bool true := hd 51 (by decide +kernel)
      refine wpOp_of rfl (by rfl) ?_
      go_simp
      exact k_of (HK.out (.bool true) _ rfl hB (Below.refl _ _)) (by rw [← u1_eq e51]; kernel_rfl)
    · intro u W hB _ hd _ K hK
      have HK := Lib.hid hK; clear hK
      have e52 : u 52 = .bool true := hd 52 (by decide +kernel)
      refine wpOp_of rfl (by rw [← u1_eq e52]; kernel_rfl) ?_
      go_simp
      exact k_of (HK.out (.int .i64 2370) _ rfl hB (Below.refl _ _)) (by rw [← u1_eq e52]; kernel_rfl)
    · intro u W hB _ hd _ K hK
      have HK := Lib.hid hK; clear hK
      have e52 : u 52 = .bool true := hd 52 (by decide +kernel)
      have e53 : u 53 = .int .i64 2370 := hd 53 (by decide +kernel)
      refine wpOp_of rfl (by rw [← u1_eq e52]; kernel_rfl) ?_
      go_simp
      exact k_of (HK.out (.bool true) _ rfl hB (Below.refl _ _)) (by rw [← u1_eq e52, ← u1_eq e53]; kernel_rfl)
    · intro u W hB _ hd _ K hK
      have HK := Lib.hid hK; clear hK
      have e52 : u 52 = .bool true := hd 52 (by decide +kernel)
      have e54 : u 54 = .bool true := hd 54 (by decide +kernel)
      refine wpOp_of rfl (by rfl) ?_
      go_simp
      exact k_of (HK.out (.bool true) _ rfl hB (Below.refl _ _)) (by rw [← u1_eq e52, ← u1_eq e54]; kernel_rfl)
    · intro u W hB _ hd _ K hK
      have HK := Lib.hid hK; clear hK
      have e55 : u 55 = .bool true := hd 55 (by decide +kernel)
      refine wpOp_of rfl (by rfl) ?_
      go_simp
      exact k_of (HK.out (.bool true) _ rfl hB (Below.refl _ _)) (by rw [← u1_eq e55]; kernel_rfl)
    · intro u W hB _ hd _ K hK
      have HK := Lib.hid hK; clear hK
      have e56 : u 56 = .bool true := hd 56 (by decide +kernel)
      refine wpOp_of rfl (by rw [← u1_eq e56]; kernel_rfl) ?_
      go_simp
      exact k_of (HK.out (.int .i64 2) _ rfl hB (Below.refl _ _)) (by rw [← u1_eq e56]; kernel_rfl)
    · intro u W hB _ hd _ K hK
      have HK := Lib.hid hK; clear hK
      have e56 : u 56 = .bool true := hd 56 (by decide +kernel)
      have e57 : u 57 = .int .i64 2 := hd 57 (by decide +kernel)
      refine wpOp_of rfl (by rw [← u1_eq e56]; kernel_rfl) ?_
      go_simp
      exact k_of (HK.out (.bool true) _ rfl hB (Below.refl _ _)) (by rw [← u1_eq e56, ← u1_eq e57]; kernel_rfl)
    · intro u W hB _ hd _ K hK
      have HK := Lib.hid hK; clear hK
      have e56 : u 56 = .bool true := hd 56 (by decide +kernel)
      have e58 : u 58 = .bool true := hd 58 (by decide +kernel)
      refine wpOp_of rfl (by rfl) ?_
      go_simp
      exact k_of (HK.out (.bool true) _ rfl hB (Below.refl _ _)) (by rw [← u1_eq e56, ← u1_eq e58]; kernel_rfl)
    · intro u W hB _ hd _ K hK
      have HK := Lib.hid hK; clear hK
      have e59 : u 59 = .bool true := hd 59 (by decide +kernel)
      refine wpOp_of rfl (by rfl) ?_
      go_simp
      exact k_of (HK.out (.bool true) _ rfl hB (Below.refl _ _)) (by rw [← u1_eq e59]; kernel_rfl)
    · intro u W hB _ hd _ K hK
      have HK := Lib.hid hK; clear hK
      have e60 : u 60 = .bool true := hd 60 (by decide +kernel)
      refine wpOp_of rfl (by rw [← u1_eq e60]; kernel_rfl) ?_
      go_simp
      exact k_of (HK.out (.slice A1 3 n1) _ rfl hB (Below.refl _ _)) (by rw [← u1_eq e60]; kernel_rfl)
    · intro u W hB _ hd _ K hK
      have HK := Lib.hid hK; clear hK
      have e60 : u 60 = .bool true := hd 60 (by decide +kernel)
      refine wpOp_of rfl (by rw [← u1_eq e60]; kernel_rfl) ?_
      go_simp
      exact k_of (HK.out (.slice (some ⟨W.heap.size, 0, none⟩) 3 3) _ ⟨_, rfl, ints_blk (Blk.new _ _ _) rfl (by simp)⟩ (hon _ _ hB.out ((Below.refl _ W).alloc (Nat.le_refl _) _)) ((Below.refl _ W).alloc (Nat.le_refl _) _)) (by rw [← u1_eq e60]; kernel_rfl)
    · intro u W hB _ hd _ K hK
      have HK := Lib.hid hK; clear hK
      have e60 : u 60 = .bool true := hd 60 (by decide +kernel)
      have e61 : u 61 = .slice A1 3 n1 := hd 61 (by decide +kernel)
      obtain ⟨b_62, e62, f62_0⟩ : awkR E F G n1 n2 A1 A2 62 (u 62) W := hd 62 (by decide +kernel)
      refine wpOp_of rfl (by rw [← u1_eq e60]; kernel_rfl) ?_
      go_simp
      refine (ints_yes (l := [4, 15, 1]) rfl (hA1 W hB.out) f62_0).mono ?_
      rintro e w' ⟨rfl, hb⟩
      exact k_of (HK.out (.bool true) _ rfl (hon _ _ hB.out hb) hb) (by rw [← u1_eq e60, ← u1_eq e61, ← u1_eq e62]; kernel_rfl)
    · intro u W hB _ hd _ K hK
      have HK := Lib.hid hK; clear hK
      have e60 : u 60 = .bool true := hd 60 (by decide +kernel)
      have e63 : u 63 = .bool true := hd 63 (by decide +kernel)
      refine wpOp_of rfl (by rfl) ?_
      go_simp
      exact k_of (HK.out (.bool true) _ rfl hB (Below.refl _ _)) (by rw [← u1_eq e60, ← u1_eq e63]; kernel_rfl)
    · intro u W hB _ hd _ K hK
      have HK := Lib.hid hK; clear hK
      have e64 : u 64 = .bool true := hd 64 (by decide +kernel)
      refine wpOp_of rfl (by rfl) ?_
      go_simp
      exact k_of (HK.out (.bool true) _ rfl hB (Below.refl _ _)) (by rw [← u1_eq e64]; kernel_rfl)
    · intro u W hB _ hd _ K hK
      have HK := Lib.hid hK; clear hK
      have e65 : u 65 = .bool true := hd 65 (by decide +kernel)
      refine wpOp_of rfl (by rw [← u1_eq e65]; kernel_rfl) ?_
      go_simp
      exact k_of (HK.out (.int .i64 8200) _ rfl hB (Below.refl _ _)) (by rw [← u1_eq e65]; kernel_rfl)
    · intro u W hB _ hd _ K hK
      have HK := Lib.hid hK; clear hK
      have e65 : u 65 = .bool true := hd 65 (by decide +kernel)
      have e66 : u 66 = .int .i64 8200 := hd 66 (by decide +kernel)
      refine wpOp_of rfl (by rw [← u1_eq e65]; kernel_rfl) ?_
      go_simp
      exact k_of (HK.out (.bool true) _ rfl hB (Below.refl _ _)) (by rw [← u1_eq e65, ← u1_eq e66]; kernel_rfl)
    · intro u W hB _ hd _ K hK
      have HK := Lib.hid hK; clear hK
      have e65 : u 65 = .bool true := hd 65 (by decide +kernel)
      have e67 : u 67 = .bool true := hd 67 (by decide +kernel)
      refine wpOp_of rfl (by rfl) ?_
      go_simp
      exact k_of (HK.out (.bool true) _ rfl hB (Below.refl _ _)) (by rw [← u1_eq e65, ← u1_eq e67]; kernel_rfl)
    · intro u W hB _ hd _ K hK
      have HK := Lib.hid hK; clear hK
      have e68 : u 68 = .bool true := hd 68 (by decide +kernel)
      refine wpOp_of rfl (by rfl) ?_
      go_simp
      exact k_of (HK.out (.bool true) _ rfl hB (Below.refl _ _)) (by rw [← u1_eq e68]; kernel_rfl)
    · intro u W hB _ hd _ K hK
      have HK := Lib.hid hK; clear hK
      have e69 : u 69 = .bool true := hd 69 (by decide +kernel)
      refine wpOp_of rfl (by rw [← u1_eq e69]; kernel_rfl) ?_
      have z0 := (hG W hB.out).cell 0; have z1 := (hG W hB.out).cell 1
      go_simp
      exact k_of (HK.out (.agg #[.int .i64 400, .int .i64 100000]) _ rfl hB (Below.refl _ _)) (by rw [← u1_eq e69]; kernel_rfl)
    · intro u W hB _ hd _ K hK
      have HK := Lib.hid hK; clear hK
      have e69 : u 69 = .bool true := hd 69 (by decide +kernel)
      refine wpOp_of rfl (by rw [← u1_eq e69]; kernel_rfl) ?_
      go_simp
      refine (lspan_any 400 100000 _).mono ?_
      rintro e w' ⟨rfl, hb⟩
      exact k_of (HK.out (.agg #[.int .i64 400, .int .i64 100000]) _ rfl (hon _ _ hB.out hb) hb) (by rw [← u1_eq e69]; kernel_rfl)
    · intro u W hB _ hd _ K hK
      have HK := Lib.hid hK; clear hK
      have e69 : u 69 = .bool true := hd 69 (by decide +kernel)
      have e70 : u 70 = .agg #[.int .i64 400, .int .i64 100000] := hd 70 (by decide +kernel)
      have e71 : u 71 = .agg #[.int .i64 400, .int .i64 100000] := hd 71 (by decide +kernel)
      refine wpOp_of rfl (by rw [← u1_eq e69]; kernel_rfl) ?_
      have eq := eq_3 W
      go_simp
      exact k_of (HK.out (.bool true) _ rfl hB (Below.refl _ _)) (by rw [← u1_eq e69, ← u1_eq e70, ← u1_eq e71]; kernel_rfl)
    · intro u W hB _ hd _ K hK
      have HK := Lib.hid hK; clear hK
      have e69 : u 69 = .bool true := hd 69 (by decide +kernel)
      have e72 : u 72 = .bool true := hd 72 (by decide +kernel)
      refine wpOp_of rfl (by rfl) ?_
      go_simp
      exact k_of (HK.out (.bool true) _ rfl hB (Below.refl _ _)) (by rw [← u1_eq e69, ← u1_eq e72]; kernel_rfl)
    · intro u W hB _ hd _ K hK
      have HK := Lib.hid hK; clear hK
      have e73 : u 73 = .bool true := hd 73 (by decide +kernel)
      refine wpOp_of rfl (by rfl) ?_
      go_simp
      exact k_of (HK.out (.bool true) _ rfl hB (Below.refl _ _)) (by rw [← u1_eq e73]; kernel_rfl)
    · intro u W hB _ hd _ K hK
      have HK := Lib.hid hK; clear hK
      have e74 : u 74 = .bool true := hd 74 (by decide +kernel)
      refine wpOp_of rfl (by rw [← u1_eq e74]; kernel_rfl) ?_
      go_simp
      exact k_of (HK.out (.slice A2 3 n2) _ rfl hB (Below.refl _ _)) (by rw [← u1_eq e74]; kernel_rfl)
    · intro u W hB _ hd _ K hK
      have HK := Lib.hid hK; clear hK
      have e74 : u 74 = .bool true := hd 74 (by decide +kernel)
      refine wpOp_of rfl (by rw [← u1_eq e74]; kernel_rfl) ?_
      go_simp
      exact k_of (HK.out (.slice (some ⟨W.heap.size, 0, none⟩) 3 3) _ ⟨_, rfl, ints_blk (Blk.new _ _ _) rfl (by simp)⟩ (hon _ _ hB.out ((Below.refl _ W).alloc (Nat.le_refl _) _)) ((Below.refl _ W).alloc (Nat.le_refl _) _)) (by rw [← u1_eq e74]; kernel_rfl)
    · intro u W hB _ hd _ K hK
      have HK := Lib.hid hK; clear hK
      have e74 : u 74 = .bool true := hd 74 (by decide +kernel)
      have e75 : u 75 = .slice A2 3 n2 := hd 75 (by decide +kernel)
      obtain ⟨b_76, e76, f76_0⟩ : awkR E F G n1 n2 A1 A2 76 (u 76) W := hd 76 (by decide +kernel)
      refine wpOp_of rfl (by rw [← u1_eq e74]; kernel_rfl) ?_
      go_simp
      refine (ints_yes (l := [200, 750, 51]) rfl (hA2 W hB.out) f76_0).mono ?_
      rintro e w' ⟨rfl, hb⟩
      exact k_of (HK.out (.bool true) _ rfl (hon _ _ hB.out hb) hb) (by rw [← u1_eq e74, ← u1_eq e75, ← u1_eq e76]; kernel_rfl)
    · intro u W hB _ hd _ K hK
      have HK := Lib.hid hK; clear hK
      have e74 : u 74 = .bool true := hd 74 (by decide +kernel)
      have e77 : u 77 = .bool true := hd 77 (by decide +kernel)
      refine wpOp_of rfl (by rfl) ?_
      go_simp
      exact k_of (HK.out (.bool true) _ rfl hB (Below.refl _ _)) (by rw [← u1_eq e74, ← u1_eq e77]; kernel_rfl)
    · intro u W hB _ hd _ K hK
      have HK := Lib.hid hK; clear hK
      have e78 : u 78 = .bool true := hd 78 (by decide +kernel)
      refine wpOp_of rfl (by rfl) ?_
      go_simp
      exact k_of (HK.out (.bool true) _ rfl hB (Below.refl _ _)) (by rw [← u1_eq e78]; kernel_rfl)
  · intro u W hB hd
    have e79 : u 79 = .bool true := hd 79 (by decide)
    exact k_of (HQ.out u W hB.out) (by simp only [e79])
end Go.Proofs.Ytalghiecjhfflaa
