/- The law's Awake: its region that draws its order. -/
import Derived.Test.YtkjfommdeljefaaQS
namespace Go.Proofs.Ytkjfommdeljefaa
open Go.RowKit Go.Shelf Go.Maps
attribute [local go_sem] Oper.semAt_some

theorem eq_1 (W : World) : (binOp .eql 40 (.agg #[.int .i64 22000000, .int .i64 33000000, .int .i64 219000000]) (.agg #[.int .i64 22000000, .int .i64 33000000, .int .i64 219000000])).run Try.prog W = .ok (.bool true) W := by kernel_rfl
theorem eq_2 (W : World) : (binOp .eql 40 (.agg #[.int .i64 18000000, .int .i64 27000000, .int .i64 178000000]) (.agg #[.int .i64 18000000, .int .i64 27000000, .int .i64 178000000])).run Try.prog W = .ok (.bool true) W := by kernel_rfl
theorem eq_3 (W : World) : (binOp .eql 40 (.agg #[.int .i64 26400000, .int .i64 42240000, .int .i64 290400000]) (.agg #[.int .i64 26400000, .int .i64 42240000, .int .i64 290400000])).run Try.prog W = .ok (.bool true) W := by kernel_rfl
theorem eq_4 (W : World) : (binOp .eql 25 (.agg #[.int .i64 291, .int .i64 356]) (.agg #[.int .i64 291, .int .i64 356])).run Try.prog W = .ok (.bool true) W := by kernel_rfl
theorem eq_5 (W : World) : (binOp .eql 25 (.agg #[.int .i64 2272, .int .i64 3334]) (.agg #[.int .i64 2272, .int .i64 3334])).run Try.prog W = .ok (.bool true) W := by kernel_rfl

/-- What each operation leaves. -/
def awkR (_E _L _M _N _P n1 n2 : Nat) (A1 A2 : Option Addr) : Nat → Value → World → Prop
  | 0, v, _ => v = .int .i64 0
  | 1, v, _ => v = .bool true
  | 2, v, _ => v = .bool true
  | 3, v, _ => v = .int .i64 0
  | 4, v, _ => v = .bool true
  | 5, v, _ => v = .bool true
  | 6, v, _ => v = .bool true
  | 7, v, _ => v = .int .i64 0
  | 8, v, _ => v = .bool true
  | 9, v, _ => v = .bool true
  | 10, v, _ => v = .bool true
  | 11, v, _ => v = .int .i64 0
  | 12, v, _ => v = .bool true
  | 13, v, _ => v = .bool true
  | 14, v, _ => v = .bool true
  | 15, v, _ => v = .int .i64 0
  | 16, v, _ => v = .bool true
  | 17, v, _ => v = .bool true
  | 18, v, _ => v = .bool true
  | 19, v, _ => v = .int .i64 9
  | 20, v, _ => v = .bool true
  | 21, v, _ => v = .bool true
  | 22, v, _ => v = .bool true
  | 23, v, _ => v = .int .i64 0
  | 24, v, _ => v = .bool true
  | 25, v, _ => v = .bool true
  | 26, v, _ => v = .bool true
  | 27, v, _ => v = .int .i64 0
  | 28, v, _ => v = .bool true
  | 29, v, _ => v = .bool true
  | 30, v, _ => v = .bool true
  | 31, v, _ => v = .agg #[.int .i64 22000000, .int .i64 33000000, .int .i64 219000000]
  | 32, v, _ => v = .agg #[.int .i64 22000000, .int .i64 33000000, .int .i64 219000000]
  | 33, v, _ => v = .bool true
  | 34, v, _ => v = .bool true
  | 35, v, _ => v = .bool true
  | 36, v, _ => v = .agg #[.int .i64 18000000, .int .i64 27000000, .int .i64 178000000]
  | 37, v, _ => v = .agg #[.int .i64 18000000, .int .i64 27000000, .int .i64 178000000]
  | 38, v, _ => v = .bool true
  | 39, v, _ => v = .bool true
  | 40, v, _ => v = .bool true
  | 41, v, _ => v = .agg #[.int .i64 26400000, .int .i64 42240000, .int .i64 290400000]
  | 42, v, _ => v = .agg #[.int .i64 26400000, .int .i64 42240000, .int .i64 290400000]
  | 43, v, _ => v = .bool true
  | 44, v, _ => v = .bool true
  | 45, v, _ => v = .bool true
  | 46, v, _ => v = .slice A1 2 n1
  | 47, v, W => ∃ b_47, v = .slice (some ⟨b_47, 0, none⟩) 2 2 ∧ IntsIn W (some ⟨b_47, 0, none⟩) [1, 4]
  | 48, v, _ => v = .bool true
  | 49, v, _ => v = .bool true
  | 50, v, _ => v = .bool true
  | 51, v, _ => v = .slice A2 1 n2
  | 52, v, W => ∃ b_52, v = .slice (some ⟨b_52, 0, none⟩) 1 1 ∧ IntsIn W (some ⟨b_52, 0, none⟩) [1]
  | 53, v, _ => v = .bool true
  | 54, v, _ => v = .bool true
  | 55, v, _ => v = .bool true
  | 56, v, _ => v = .int .i64 1
  | 57, v, _ => v = .bool true
  | 58, v, _ => v = .bool true
  | 59, v, _ => v = .bool true
  | 60, v, _ => v = .agg #[.int .i64 291, .int .i64 356]
  | 61, v, _ => v = .agg #[.int .i64 291, .int .i64 356]
  | 62, v, _ => v = .bool true
  | 63, v, _ => v = .bool true
  | 64, v, _ => v = .bool true
  | 65, v, _ => v = .agg #[.int .i64 2272, .int .i64 3334]
  | 66, v, _ => v = .agg #[.int .i64 2272, .int .i64 3334]
  | 67, v, _ => v = .bool true
  | 68, v, _ => v = .bool true
  | 69, v, _ => v = .bool true
  | _, _, _ => True
theorem awkR_on (E L M N P n1 n2 : Nat) (A1 A2 : Option Addr) : ∀ i, i < 70 → ∀ v W W', awkR E L M N P n1 n2 A1 A2 i v W → Below W.heap.size W W' → awkR E L M N P n1 n2 A1 A2 i v W' := by
  iterate 70 (refine all_succ ?_ ?_)
  · exact all_zero
  · exact fun _ _ _ h _ => h
  · exact fun _ _ _ h _ => h
  · exact fun _ _ _ h _ => h
  · exact fun _ _ _ h _ => h
  · exact fun _ _ _ h _ => h
  · exact fun _ _ _ h _ => h
  · exact fun _ _ _ h _ => h
  · exact fun _ _ _ h _ => h
  · exact fun _ _ _ h _ => h
  · exact fun _ _ _ h _ => h
  · exact fun _ _ _ h _ => h
  · exact fun _ _ _ h _ => h
  · exact fun _ _ _ h _ => h
  · exact fun _ _ _ h _ => h
  · exact fun _ _ _ h _ => h
  · exact fun _ _ _ h _ => h
  · exact fun _ _ _ h _ => h
  · exact fun _ _ _ h _ => h
  · exact fun _ _ _ h _ => h
  · exact fun _ _ _ h _ => h
  · exact fun _ _ _ h _ => h
  · exact fun _ _ _ h _ => h
  · exact fun _ _ _ h _ => h
  · exact fun _ _ _ h _ => h
  · exact fun _ _ _ h _ => h
  · exact fun _ _ _ h _ => h
  · exact fun _ _ _ h _ => h
  · exact fun _ _ _ h _ => h
  · exact fun _ _ _ h _ => h
  · exact fun _ _ _ h _ => h
  · exact fun _ _ _ h _ => h
  · exact fun _ _ _ h _ => h
  · exact fun _ _ _ h _ => h
  · exact fun _ _ _ h _ => h
  · exact fun _ _ _ h _ => h
  · exact fun _ _ _ h _ => h
  · exact fun _ _ _ h _ => h
  · exact fun _ _ _ h _ => h
  · exact fun _ _ _ h _ => h
  · exact fun _ _ _ h _ => h
  · exact fun _ _ _ h _ => h
  · exact fun _ _ _ h _ => h
  · exact fun _ _ _ h _ => h
  · exact fun _ _ _ h _ => h
  · exact fun _ _ _ h _ => h
  · exact fun _ _ _ h _ => h
  · exact fun _ _ _ h _ => h
  · rintro v W W' ⟨b_47, e, h0⟩ hb; exact ⟨b_47, e, h0.on hb⟩
  · exact fun _ _ _ h _ => h
  · exact fun _ _ _ h _ => h
  · exact fun _ _ _ h _ => h
  · exact fun _ _ _ h _ => h
  · rintro v W W' ⟨b_52, e, h0⟩ hb; exact ⟨b_52, e, h0.on hb⟩
  · exact fun _ _ _ h _ => h
  · exact fun _ _ _ h _ => h
  · exact fun _ _ _ h _ => h
  · exact fun _ _ _ h _ => h
  · exact fun _ _ _ h _ => h
  · exact fun _ _ _ h _ => h
  · exact fun _ _ _ h _ => h
  · exact fun _ _ _ h _ => h
  · exact fun _ _ _ h _ => h
  · exact fun _ _ _ h _ => h
  · exact fun _ _ _ h _ => h
  · exact fun _ _ _ h _ => h
  · exact fun _ _ _ h _ => h
  · exact fun _ _ _ h _ => h
  · exact fun _ _ _ h _ => h
  · exact fun _ _ _ h _ => h
  · exact fun _ _ _ h _ => h
set_option maxRecDepth 100000 in
set_option maxHeartbeats 8000000 in
theorem awk_region {S : World → Prop} (hon : ∀ W W', S W → Below W.heap.size W W' → S W') {E L M N P n1 n2 : Nat} {A1 A2 : Option Addr} (hE : ∀ W, S W → Blk W E 40 #[.int .i64 22000000, .int .i64 33000000, .int .i64 219000000]) (hL : ∀ W, S W → Blk W L 40 #[.int .i64 18000000, .int .i64 27000000, .int .i64 178000000]) (hM : ∀ W, S W → Blk W M 40 #[.int .i64 26400000, .int .i64 42240000, .int .i64 290400000]) (hN : ∀ W, S W → Blk W N 25 #[.int .i64 291, .int .i64 356]) (hP : ∀ W, S W → Blk W P 25 #[.int .i64 2272, .int .i64 3334]) (hA1 : ∀ W, S W → IntsIn W A1 [1, 4]) (hA2 : ∀ W, S W → IntsIn W A2 [1]) {Q : Exit → Act → World → Prop} {s12 s18 s19 s20 s21 s22 s23 s24 s25 s26 s27 s28 s29 s30 s31 s32 s33 s34 s35 s36 s37 s38 s39 s40 s41 s42 s43 s44 s45 s46 s47 s48 s49 s50 s51 s52 s53 s54 s55 s56 s57 s58 s59 s60 s61 s62 s63 s64 s65 s66 s67 : Value} {W0 : World} (HL : Hid (S W0))
    (HQ : Hid (∀ (u : Nat → Value) (W : World), S W → Q .normal ⟨#[.bool true, .pointer (some ⟨E, 0, none⟩), .int .i64 0, .pointer (some ⟨L, 0, none⟩), .pointer (some ⟨M, 0, none⟩), .int .i64 0, .slice A1 2 n1, .int .i64 0, .slice A2 1 n2, .int .i64 0, .int .i64 1, .int .i64 0, s12, .int .i64 9, .pointer (some ⟨N, 0, none⟩), .int .i64 0, .pointer (some ⟨P, 0, none⟩), .int .i64 0, s18, s19, s20, s21, s22, s23, s24, s25, s26, s27, s28, s29, s30, s31, s32, s33, s34, s35, s36, s37, s38, s39, s40, s41, s42, s43, s44, s45, s46, s47, s48, s49, s50, s51, s52, s53, s54, s55, s56, s57, s58, s59, s60, s61, s62, s63, s64, s65, s66, s67, u 0, u 1, u 2, u 3, u 4, u 5, u 6, u 7, u 8, u 9, u 10, u 11, u 12, u 13, u 14, u 15, u 16, u 17, u 18, u 19, u 20, u 21, u 22, u 23, u 24, u 25, u 26, u 27, u 28, u 29, u 30, u 31, u 32, u 33, u 34, u 35, u 36, u 37, u 38, u 39, u 40, u 41, u 42, u 43, u 44, u 45, u 46, u 47, u 48, u 49, u 50, u 51, u 52, u 53, u 54, u 55, u 56, u 57, u 58, u 59, u 60, u 61, u 62, u 63, u 64, u 65, u 66, u 67, u 68], []⟩ W)) :
    Code.wp Try.prog ((Try.f16.body.bind (regionAt 9)).getD .skip) Q ⟨#[.bool false, .pointer (some ⟨E, 0, none⟩), .int .i64 0, .pointer (some ⟨L, 0, none⟩), .pointer (some ⟨M, 0, none⟩), .int .i64 0, .slice A1 2 n1, .int .i64 0, .slice A2 1 n2, .int .i64 0, .int .i64 1, .int .i64 0, s12, .int .i64 9, .pointer (some ⟨N, 0, none⟩), .int .i64 0, .pointer (some ⟨P, 0, none⟩), .int .i64 0, s18, s19, s20, s21, s22, s23, s24, s25, s26, s27, s28, s29, s30, s31, s32, s33, s34, s35, s36, s37, s38, s39, s40, s41, s42, s43, s44, s45, s46, s47, s48, s49, s50, s51, s52, s53, s54, s55, s56, s57, s58, s59, s60, s61, s62, s63, s64, s65, s66, s67, undef, undef, undef, undef, undef, undef, undef, undef, undef, undef, undef, undef, undef, undef, undef, undef, undef, undef, undef, undef, undef, undef, undef, undef, undef, undef, undef, undef, undef, undef, undef, undef, undef, undef, undef, undef, undef, undef, undef, undef, undef, undef, undef, undef, undef, undef, undef, undef, undef, undef, undef, undef, undef, undef, undef, undef, undef, undef, undef, undef, undef, undef, undef, undef, undef, undef, undef, undef, undef], []⟩ W0 := by
  conv => arg 2; whnf
  refine wp_region_spec (by kernel_rfl) 70 (by kernel_rfl) (fun u => ⟨#[u 69, .pointer (some ⟨E, 0, none⟩), .int .i64 0, .pointer (some ⟨L, 0, none⟩), .pointer (some ⟨M, 0, none⟩), .int .i64 0, .slice A1 2 n1, .int .i64 0, .slice A2 1 n2, .int .i64 0, .int .i64 1, .int .i64 0, s12, .int .i64 9, .pointer (some ⟨N, 0, none⟩), .int .i64 0, .pointer (some ⟨P, 0, none⟩), .int .i64 0, s18, s19, s20, s21, s22, s23, s24, s25, s26, s27, s28, s29, s30, s31, s32, s33, s34, s35, s36, s37, s38, s39, s40, s41, s42, s43, s44, s45, s46, s47, s48, s49, s50, s51, s52, s53, s54, s55, s56, s57, s58, s59, s60, s61, s62, s63, s64, s65, s66, s67, u 0, u 1, u 2, u 3, u 4, u 5, u 6, u 7, u 8, u 9, u 10, u 11, u 12, u 13, u 14, u 15, u 16, u 17, u 18, u 19, u 20, u 21, u 22, u 23, u 24, u 25, u 26, u 27, u 28, u 29, u 30, u 31, u 32, u 33, u 34, u 35, u 36, u 37, u 38, u 39, u 40, u 41, u 42, u 43, u 44, u 45, u 46, u 47, u 48, u 49, u 50, u 51, u 52, u 53, u 54, u 55, u 56, u 57, u 58, u 59, u 60, u 61, u 62, u 63, u 64, u 65, u 66, u 67, u 68], []⟩) (fun i => if i = 69 then .bool false else undef) (fun W => Hid (S W)) (awkR E L M N P n1 n2 A1 A2) (by kernel_rfl) (hon _ _ HL.out (Below.refl _ _).drew) (fun i v W W2 hi h hb => awkR_on E L M N P n1 n2 A1 A2 i hi v W W2 h hb) (by decide +kernel) ?_ ?_
  · iterate 70 (refine all_succ ?_ ?_)
    · exact all_zero
    · intro u W hB _ hd _ K hK
      have HK := Lib.hid hK; clear hK
      refine wpOp_of rfl (by rfl) ?_
      go_simp
      exact k_of (HK.out (.int .i64 0) _ rfl hB (Below.refl _ _)) (by kernel_rfl)
    · intro u W hB _ hd _ K hK
      have HK := Lib.hid hK; clear hK
      have e0 : u 0 = .int .i64 0 := hd 0 (by decide +kernel)
      refine wpOp_of rfl (by rfl) ?_
      go_simp
      exact k_of (HK.out (.bool true) _ rfl hB (Below.refl _ _)) (by rw [← u1_eq e0]; kernel_rfl)
    · intro u W hB _ hd _ K hK
      have HK := Lib.hid hK; clear hK
      have e1 : u 1 = .bool true := hd 1 (by decide +kernel)
      refine wpOp_of rfl (by rfl) ?_
      go_simp
      exact k_of (HK.out (.bool true) _ rfl hB (Below.refl _ _)) (by rw [← u1_eq e1]; kernel_rfl)
    · intro u W hB _ hd _ K hK
      have HK := Lib.hid hK; clear hK
      have e2 : u 2 = .bool true := hd 2 (by decide +kernel)
      refine wpOp_of rfl (by rw [← u1_eq e2]; kernel_rfl) ?_
      go_simp
      exact k_of (HK.out (.int .i64 0) _ rfl hB (Below.refl _ _)) (by rw [← u1_eq e2]; kernel_rfl)
    · intro u W hB _ hd _ K hK
      have HK := Lib.hid hK; clear hK
      have e2 : u 2 = .bool true := hd 2 (by decide +kernel)
      have e3 : u 3 = .int .i64 0 := hd 3 (by decide +kernel)
      refine wpOp_of rfl (by rw [← u1_eq e2]; kernel_rfl) ?_
      go_simp
      exact k_of (HK.out (.bool true) _ rfl hB (Below.refl _ _)) (by rw [← u1_eq e2, ← u1_eq e3]; kernel_rfl)
    · intro u W hB _ hd _ K hK
      have HK := Lib.hid hK; clear hK
      have e2 : u 2 = .bool true := hd 2 (by decide +kernel)
      have e4 : u 4 = .bool true := hd 4 (by decide +kernel)
      refine wpOp_of rfl (by rfl) ?_
      go_simp
      exact k_of (HK.out (.bool true) _ rfl hB (Below.refl _ _)) (by rw [← u1_eq e2, ← u1_eq e4]; kernel_rfl)
    · intro u W hB _ hd _ K hK
      have HK := Lib.hid hK; clear hK
      have e5 : u 5 = .bool true := hd 5 (by decide +kernel)
      refine wpOp_of rfl (by rfl) ?_
      go_simp
      exact k_of (HK.out (.bool true) _ rfl hB (Below.refl _ _)) (by rw [← u1_eq e5]; kernel_rfl)
    · intro u W hB _ hd _ K hK
      have HK := Lib.hid hK; clear hK
      have e6 : u 6 = .bool true := hd 6 (by decide +kernel)
      refine wpOp_of rfl (by rw [← u1_eq e6]; kernel_rfl) ?_
      go_simp
      exact k_of (HK.out (.int .i64 0) _ rfl hB (Below.refl _ _)) (by rw [← u1_eq e6]; kernel_rfl)
    · intro u W hB _ hd _ K hK
      have HK := Lib.hid hK; clear hK
      have e6 : u 6 = .bool true := hd 6 (by decide +kernel)
      have e7 : u 7 = .int .i64 0 := hd 7 (by decide +kernel)
      refine wpOp_of rfl (by rw [← u1_eq e6]; kernel_rfl) ?_
      go_simp
      exact k_of (HK.out (.bool true) _ rfl hB (Below.refl _ _)) (by rw [← u1_eq e6, ← u1_eq e7]; kernel_rfl)
    · intro u W hB _ hd _ K hK
      have HK := Lib.hid hK; clear hK
      have e6 : u 6 = .bool true := hd 6 (by decide +kernel)
      have e8 : u 8 = .bool true := hd 8 (by decide +kernel)
      refine wpOp_of rfl (by rfl) ?_
      go_simp
      exact k_of (HK.out (.bool true) _ rfl hB (Below.refl _ _)) (by rw [← u1_eq e6, ← u1_eq e8]; kernel_rfl)
    · intro u W hB _ hd _ K hK
      have HK := Lib.hid hK; clear hK
      have e9 : u 9 = .bool true := hd 9 (by decide +kernel)
      refine wpOp_of rfl (by rfl) ?_
      go_simp
      exact k_of (HK.out (.bool true) _ rfl hB (Below.refl _ _)) (by rw [← u1_eq e9]; kernel_rfl)
    · intro u W hB _ hd _ K hK
      have HK := Lib.hid hK; clear hK
      have e10 : u 10 = .bool true := hd 10 (by decide +kernel)
      refine wpOp_of rfl (by rw [← u1_eq e10]; kernel_rfl) ?_
      go_simp
      exact k_of (HK.out (.int .i64 0) _ rfl hB (Below.refl _ _)) (by rw [← u1_eq e10]; kernel_rfl)
    · intro u W hB _ hd _ K hK
      have HK := Lib.hid hK; clear hK
      have e10 : u 10 = .bool true := hd 10 (by decide +kernel)
      have e11 : u 11 = .int .i64 0 := hd 11 (by decide +kernel)
      refine wpOp_of rfl (by rw [← u1_eq e10]; kernel_rfl) ?_
      go_simp
      exact k_of (HK.out (.bool true) _ rfl hB (Below.refl _ _)) (by rw [← u1_eq e10, ← u1_eq e11]; kernel_rfl)
    · intro u W hB _ hd _ K hK
      have HK := Lib.hid hK; clear hK
      have e10 : u 10 = .bool true := hd 10 (by decide +kernel)
      have e12 : u 12 = .bool true := hd 12 (by decide +kernel)
      refine wpOp_of rfl (by rfl) ?_
      go_simp
      exact k_of (HK.out (.bool true) _ rfl hB (Below.refl _ _)) (by rw [← u1_eq e10, ← u1_eq e12]; kernel_rfl)
    · intro u W hB _ hd _ K hK
      have HK := Lib.hid hK; clear hK
      have e13 : u 13 = .bool true := hd 13 (by decide +kernel)
      refine wpOp_of rfl (by rfl) ?_
      go_simp
      exact k_of (HK.out (.bool true) _ rfl hB (Below.refl _ _)) (by rw [← u1_eq e13]; kernel_rfl)
    · intro u W hB _ hd _ K hK
      have HK := Lib.hid hK; clear hK
      have e14 : u 14 = .bool true := hd 14 (by decide +kernel)
      refine wpOp_of rfl (by rw [← u1_eq e14]; kernel_rfl) ?_
      go_simp
      exact k_of (HK.out (.int .i64 0) _ rfl hB (Below.refl _ _)) (by rw [← u1_eq e14]; kernel_rfl)
    · intro u W hB _ hd _ K hK
      have HK := Lib.hid hK; clear hK
      have e14 : u 14 = .bool true := hd 14 (by decide +kernel)
      have e15 : u 15 = .int .i64 0 := hd 15 (by decide +kernel)
      refine wpOp_of rfl (by rw [← u1_eq e14]; kernel_rfl) ?_
      go_simp
      exact k_of (HK.out (.bool true) _ rfl hB (Below.refl _ _)) (by rw [← u1_eq e14, ← u1_eq e15]; kernel_rfl)
    · intro u W hB _ hd _ K hK
      have HK := Lib.hid hK; clear hK
      have e14 : u 14 = .bool true := hd 14 (by decide +kernel)
      have e16 : u 16 = .bool true := hd 16 (by decide +kernel)
      refine wpOp_of rfl (by rfl) ?_
      go_simp
      exact k_of (HK.out (.bool true) _ rfl hB (Below.refl _ _)) (by rw [← u1_eq e14, ← u1_eq e16]; kernel_rfl)
    · intro u W hB _ hd _ K hK
      have HK := Lib.hid hK; clear hK
      have e17 : u 17 = .bool true := hd 17 (by decide +kernel)
      refine wpOp_of rfl (by rfl) ?_
      go_simp
      exact k_of (HK.out (.bool true) _ rfl hB (Below.refl _ _)) (by rw [← u1_eq e17]; kernel_rfl)
    · intro u W hB _ hd _ K hK
      have HK := Lib.hid hK; clear hK
      have e18 : u 18 = .bool true := hd 18 (by decide +kernel)
      refine wpOp_of rfl (by rw [← u1_eq e18]; kernel_rfl) ?_
      go_simp
      exact k_of (HK.out (.int .i64 9) _ rfl hB (Below.refl _ _)) (by rw [← u1_eq e18]; kernel_rfl)
    · intro u W hB _ hd _ K hK
      have HK := Lib.hid hK; clear hK
      have e18 : u 18 = .bool true := hd 18 (by decide +kernel)
      have e19 : u 19 = .int .i64 9 := hd 19 (by decide +kernel)
      refine wpOp_of rfl (by rw [← u1_eq e18]; kernel_rfl) ?_
      go_simp
      exact k_of (HK.out (.bool true) _ rfl hB (Below.refl _ _)) (by rw [← u1_eq e18, ← u1_eq e19]; kernel_rfl)
    · intro u W hB _ hd _ K hK
      have HK := Lib.hid hK; clear hK
      have e18 : u 18 = .bool true := hd 18 (by decide +kernel)
      have e20 : u 20 = .bool true := hd 20 (by decide +kernel)
      refine wpOp_of rfl (by rfl) ?_
      go_simp
      exact k_of (HK.out (.bool true) _ rfl hB (Below.refl _ _)) (by rw [← u1_eq e18, ← u1_eq e20]; kernel_rfl)
    · intro u W hB _ hd _ K hK
      have HK := Lib.hid hK; clear hK
      have e21 : u 21 = .bool true := hd 21 (by decide +kernel)
      refine wpOp_of rfl (by rfl) ?_
      go_simp
      exact k_of (HK.out (.bool true) _ rfl hB (Below.refl _ _)) (by rw [← u1_eq e21]; kernel_rfl)
    · intro u W hB _ hd _ K hK
      have HK := Lib.hid hK; clear hK
      have e22 : u 22 = .bool true := hd 22 (by decide +kernel)
      refine wpOp_of rfl (by rw [← u1_eq e22]; kernel_rfl) ?_
      go_simp
      exact k_of (HK.out (.int .i64 0) _ rfl hB (Below.refl _ _)) (by rw [← u1_eq e22]; kernel_rfl)
    · intro u W hB _ hd _ K hK
      have HK := Lib.hid hK; clear hK
      have e22 : u 22 = .bool true := hd 22 (by decide +kernel)
      have e23 : u 23 = .int .i64 0 := hd 23 (by decide +kernel)
      refine wpOp_of rfl (by rw [← u1_eq e22]; kernel_rfl) ?_
      go_simp
      exact k_of (HK.out (.bool true) _ rfl hB (Below.refl _ _)) (by rw [← u1_eq e22, ← u1_eq e23]; kernel_rfl)
    · intro u W hB _ hd _ K hK
      have HK := Lib.hid hK; clear hK
      have e22 : u 22 = .bool true := hd 22 (by decide +kernel)
      have e24 : u 24 = .bool true := hd 24 (by decide +kernel)
      refine wpOp_of rfl (by rfl) ?_
      go_simp
      exact k_of (HK.out (.bool true) _ rfl hB (Below.refl _ _)) (by rw [← u1_eq e22, ← u1_eq e24]; kernel_rfl)
    · intro u W hB _ hd _ K hK
      have HK := Lib.hid hK; clear hK
      have e25 : u 25 = .bool true := hd 25 (by decide +kernel)
      refine wpOp_of rfl (by rfl) ?_
      go_simp
      exact k_of (HK.out (.bool true) _ rfl hB (Below.refl _ _)) (by rw [← u1_eq e25]; kernel_rfl)
    · intro u W hB _ hd _ K hK
      have HK := Lib.hid hK; clear hK
      have e26 : u 26 = .bool true := hd 26 (by decide +kernel)
      refine wpOp_of rfl (by rw [← u1_eq e26]; kernel_rfl) ?_
      go_simp
      exact k_of (HK.out (.int .i64 0) _ rfl hB (Below.refl _ _)) (by rw [← u1_eq e26]; kernel_rfl)
    · intro u W hB _ hd _ K hK
      have HK := Lib.hid hK; clear hK
      have e26 : u 26 = .bool true := hd 26 (by decide +kernel)
      have e27 : u 27 = .int .i64 0 := hd 27 (by decide +kernel)
      refine wpOp_of rfl (by rw [← u1_eq e26]; kernel_rfl) ?_
      go_simp
      exact k_of (HK.out (.bool true) _ rfl hB (Below.refl _ _)) (by rw [← u1_eq e26, ← u1_eq e27]; kernel_rfl)
    · intro u W hB _ hd _ K hK
      have HK := Lib.hid hK; clear hK
      have e26 : u 26 = .bool true := hd 26 (by decide +kernel)
      have e28 : u 28 = .bool true := hd 28 (by decide +kernel)
      refine wpOp_of rfl (by rfl) ?_
      go_simp
      exact k_of (HK.out (.bool true) _ rfl hB (Below.refl _ _)) (by rw [← u1_eq e26, ← u1_eq e28]; kernel_rfl)
    · intro u W hB _ hd _ K hK
      have HK := Lib.hid hK; clear hK
      have e29 : u 29 = .bool true := hd 29 (by decide +kernel)
      refine wpOp_of rfl (by rfl) ?_
      go_simp
      exact k_of (HK.out (.bool true) _ rfl hB (Below.refl _ _)) (by rw [← u1_eq e29]; kernel_rfl)
    · intro u W hB _ hd _ K hK
      have HK := Lib.hid hK; clear hK
      have e30 : u 30 = .bool true := hd 30 (by decide +kernel)
      refine wpOp_of rfl (by rw [← u1_eq e30]; kernel_rfl) ?_
      have z0 := (hE W hB.out).cell 0; have z1 := (hE W hB.out).cell 1; have z2 := (hE W hB.out).cell 2
      go_simp
      exact k_of (HK.out (.agg #[.int .i64 22000000, .int .i64 33000000, .int .i64 219000000]) _ rfl hB (Below.refl _ _)) (by rw [← u1_eq e30]; kernel_rfl)
    · intro u W hB _ hd _ K hK
      have HK := Lib.hid hK; clear hK
      have e30 : u 30 = .bool true := hd 30 (by decide +kernel)
      refine wpOp_of rfl (by rw [← u1_eq e30]; kernel_rfl) ?_
      go_simp
      exact k_of (HK.out (.agg #[.int .i64 22000000, .int .i64 33000000, .int .i64 219000000]) _ rfl hB (Below.refl _ _)) (by rw [← u1_eq e30]; kernel_rfl)
    · intro u W hB _ hd _ K hK
      have HK := Lib.hid hK; clear hK
      have e30 : u 30 = .bool true := hd 30 (by decide +kernel)
      have e31 : u 31 = .agg #[.int .i64 22000000, .int .i64 33000000, .int .i64 219000000] := hd 31 (by decide +kernel)
      have e32 : u 32 = .agg #[.int .i64 22000000, .int .i64 33000000, .int .i64 219000000] := hd 32 (by decide +kernel)
      refine wpOp_of rfl (by rw [← u1_eq e30]; kernel_rfl) ?_
      have eq := eq_1 W
      go_simp
      exact k_of (HK.out (.bool true) _ rfl hB (Below.refl _ _)) (by rw [← u1_eq e30, ← u1_eq e31, ← u1_eq e32]; kernel_rfl)
    · intro u W hB _ hd _ K hK
      have HK := Lib.hid hK; clear hK
      have e30 : u 30 = .bool true := hd 30 (by decide +kernel)
      have e33 : u 33 = .bool true := hd 33 (by decide +kernel)
      refine wpOp_of rfl (by rfl) ?_
      go_simp
      exact k_of (HK.out (.bool true) _ rfl hB (Below.refl _ _)) (by rw [← u1_eq e30, ← u1_eq e33]; kernel_rfl)
    · intro u W hB _ hd _ K hK
      have HK := Lib.hid hK; clear hK
      have e34 : u 34 = .bool true := hd 34 (by decide +kernel)
      refine wpOp_of rfl (by rfl) ?_
      go_simp
      exact k_of (HK.out (.bool true) _ rfl hB (Below.refl _ _)) (by rw [← u1_eq e34]; kernel_rfl)
    · intro u W hB _ hd _ K hK
      have HK := Lib.hid hK; clear hK
      have e35 : u 35 = .bool true := hd 35 (by decide +kernel)
      refine wpOp_of rfl (by rw [← u1_eq e35]; kernel_rfl) ?_
      have z0 := (hL W hB.out).cell 0; have z1 := (hL W hB.out).cell 1; have z2 := (hL W hB.out).cell 2
      go_simp
      exact k_of (HK.out (.agg #[.int .i64 18000000, .int .i64 27000000, .int .i64 178000000]) _ rfl hB (Below.refl _ _)) (by rw [← u1_eq e35]; kernel_rfl)
    · intro u W hB _ hd _ K hK
      have HK := Lib.hid hK; clear hK
      have e35 : u 35 = .bool true := hd 35 (by decide +kernel)
      refine wpOp_of rfl (by rw [← u1_eq e35]; kernel_rfl) ?_
      go_simp
      exact k_of (HK.out (.agg #[.int .i64 18000000, .int .i64 27000000, .int .i64 178000000]) _ rfl hB (Below.refl _ _)) (by rw [← u1_eq e35]; kernel_rfl)
    · intro u W hB _ hd _ K hK
      have HK := Lib.hid hK; clear hK
      have e35 : u 35 = .bool true := hd 35 (by decide +kernel)
      have e36 : u 36 = .agg #[.int .i64 18000000, .int .i64 27000000, .int .i64 178000000] := hd 36 (by decide +kernel)
      have e37 : u 37 = .agg #[.int .i64 18000000, .int .i64 27000000, .int .i64 178000000] := hd 37 (by decide +kernel)
      refine wpOp_of rfl (by rw [← u1_eq e35]; kernel_rfl) ?_
      have eq := eq_2 W
      go_simp
      exact k_of (HK.out (.bool true) _ rfl hB (Below.refl _ _)) (by rw [← u1_eq e35, ← u1_eq e36, ← u1_eq e37]; kernel_rfl)
    · intro u W hB _ hd _ K hK
      have HK := Lib.hid hK; clear hK
      have e35 : u 35 = .bool true := hd 35 (by decide +kernel)
      have e38 : u 38 = .bool true := hd 38 (by decide +kernel)
      refine wpOp_of rfl (by rfl) ?_
      go_simp
      exact k_of (HK.out (.bool true) _ rfl hB (Below.refl _ _)) (by rw [← u1_eq e35, ← u1_eq e38]; kernel_rfl)
    · intro u W hB _ hd _ K hK
      have HK := Lib.hid hK; clear hK
      have e39 : u 39 = .bool true := hd 39 (by decide +kernel)
      refine wpOp_of rfl (by rfl) ?_
      go_simp
      exact k_of (HK.out (.bool true) _ rfl hB (Below.refl _ _)) (by rw [← u1_eq e39]; kernel_rfl)
    · intro u W hB _ hd _ K hK
      have HK := Lib.hid hK; clear hK
      have e40 : u 40 = .bool true := hd 40 (by decide +kernel)
      refine wpOp_of rfl (by rw [← u1_eq e40]; kernel_rfl) ?_
      have z0 := (hM W hB.out).cell 0; have z1 := (hM W hB.out).cell 1; have z2 := (hM W hB.out).cell 2
      go_simp
      exact k_of (HK.out (.agg #[.int .i64 26400000, .int .i64 42240000, .int .i64 290400000]) _ rfl hB (Below.refl _ _)) (by rw [← u1_eq e40]; kernel_rfl)
    · intro u W hB _ hd _ K hK
      have HK := Lib.hid hK; clear hK
      have e40 : u 40 = .bool true := hd 40 (by decide +kernel)
      refine wpOp_of rfl (by rw [← u1_eq e40]; kernel_rfl) ?_
      go_simp
      exact k_of (HK.out (.agg #[.int .i64 26400000, .int .i64 42240000, .int .i64 290400000]) _ rfl hB (Below.refl _ _)) (by rw [← u1_eq e40]; kernel_rfl)
    · intro u W hB _ hd _ K hK
      have HK := Lib.hid hK; clear hK
      have e40 : u 40 = .bool true := hd 40 (by decide +kernel)
      have e41 : u 41 = .agg #[.int .i64 26400000, .int .i64 42240000, .int .i64 290400000] := hd 41 (by decide +kernel)
      have e42 : u 42 = .agg #[.int .i64 26400000, .int .i64 42240000, .int .i64 290400000] := hd 42 (by decide +kernel)
      refine wpOp_of rfl (by rw [← u1_eq e40]; kernel_rfl) ?_
      have eq := eq_3 W
      go_simp
      exact k_of (HK.out (.bool true) _ rfl hB (Below.refl _ _)) (by rw [← u1_eq e40, ← u1_eq e41, ← u1_eq e42]; kernel_rfl)
    · intro u W hB _ hd _ K hK
      have HK := Lib.hid hK; clear hK
      have e40 : u 40 = .bool true := hd 40 (by decide +kernel)
      have e43 : u 43 = .bool true := hd 43 (by decide +kernel)
      refine wpOp_of rfl (by rfl) ?_
      go_simp
      exact k_of (HK.out (.bool true) _ rfl hB (Below.refl _ _)) (by rw [← u1_eq e40, ← u1_eq e43]; kernel_rfl)
    · intro u W hB _ hd _ K hK
      have HK := Lib.hid hK; clear hK
      have e44 : u 44 = .bool true := hd 44 (by decide +kernel)
      refine wpOp_of rfl (by rfl) ?_
      go_simp
      exact k_of (HK.out (.bool true) _ rfl hB (Below.refl _ _)) (by rw [← u1_eq e44]; kernel_rfl)
    · intro u W hB _ hd _ K hK
      have HK := Lib.hid hK; clear hK
      have e45 : u 45 = .bool true := hd 45 (by decide +kernel)
      refine wpOp_of rfl (by rw [← u1_eq e45]; kernel_rfl) ?_
      go_simp
      exact k_of (HK.out (.slice A1 2 n1) _ rfl hB (Below.refl _ _)) (by rw [← u1_eq e45]; kernel_rfl)
    · intro u W hB _ hd _ K hK
      have HK := Lib.hid hK; clear hK
      have e45 : u 45 = .bool true := hd 45 (by decide +kernel)
      refine wpOp_of rfl (by rw [← u1_eq e45]; kernel_rfl) ?_
      go_simp
      exact k_of (HK.out (.slice (some ⟨W.heap.size, 0, none⟩) 2 2) _ ⟨_, rfl, ints_blk (Blk.new _ _ _) rfl (by simp)⟩ (hon _ _ hB.out ((Below.refl _ W).alloc (Nat.le_refl _) _)) ((Below.refl _ W).alloc (Nat.le_refl _) _)) (by rw [← u1_eq e45]; kernel_rfl)
    · intro u W hB _ hd _ K hK
      have HK := Lib.hid hK; clear hK
      have e45 : u 45 = .bool true := hd 45 (by decide +kernel)
      have e46 : u 46 = .slice A1 2 n1 := hd 46 (by decide +kernel)
      obtain ⟨b_47, e47, f47_0⟩ : awkR E L M N P n1 n2 A1 A2 47 (u 47) W := hd 47 (by decide +kernel)
      refine wpOp_of rfl (by rw [← u1_eq e45]; kernel_rfl) ?_
      go_simp
      refine (ints_yes (l := [1, 4]) rfl (hA1 W hB.out) f47_0).mono ?_
      rintro e w' ⟨rfl, hb⟩
      exact k_of (HK.out (.bool true) _ rfl (hon _ _ hB.out hb) hb) (by rw [← u1_eq e45, ← u1_eq e46, ← u1_eq e47]; kernel_rfl)
    · intro u W hB _ hd _ K hK
      have HK := Lib.hid hK; clear hK
      have e45 : u 45 = .bool true := hd 45 (by decide +kernel)
      have e48 : u 48 = .bool true := hd 48 (by decide +kernel)
      refine wpOp_of rfl (by rfl) ?_
      go_simp
      exact k_of (HK.out (.bool true) _ rfl hB (Below.refl _ _)) (by rw [← u1_eq e45, ← u1_eq e48]; kernel_rfl)
    · intro u W hB _ hd _ K hK
      have HK := Lib.hid hK; clear hK
      have e49 : u 49 = .bool true := hd 49 (by decide +kernel)
      refine wpOp_of rfl (by rfl) ?_
      go_simp
      exact k_of (HK.out (.bool true) _ rfl hB (Below.refl _ _)) (by rw [← u1_eq e49]; kernel_rfl)
    · intro u W hB _ hd _ K hK
      have HK := Lib.hid hK; clear hK
      have e50 : u 50 = .bool true := hd 50 (by decide +kernel)
      refine wpOp_of rfl (by rw [← u1_eq e50]; kernel_rfl) ?_
      go_simp
      exact k_of (HK.out (.slice A2 1 n2) _ rfl hB (Below.refl _ _)) (by rw [← u1_eq e50]; kernel_rfl)
    · intro u W hB _ hd _ K hK
      have HK := Lib.hid hK; clear hK
      have e50 : u 50 = .bool true := hd 50 (by decide +kernel)
      refine wpOp_of rfl (by rw [← u1_eq e50]; kernel_rfl) ?_
      go_simp
      exact k_of (HK.out (.slice (some ⟨W.heap.size, 0, none⟩) 1 1) _ ⟨_, rfl, ints_blk (Blk.new _ _ _) rfl (by simp)⟩ (hon _ _ hB.out ((Below.refl _ W).alloc (Nat.le_refl _) _)) ((Below.refl _ W).alloc (Nat.le_refl _) _)) (by rw [← u1_eq e50]; kernel_rfl)
    · intro u W hB _ hd _ K hK
      have HK := Lib.hid hK; clear hK
      have e50 : u 50 = .bool true := hd 50 (by decide +kernel)
      have e51 : u 51 = .slice A2 1 n2 := hd 51 (by decide +kernel)
      obtain ⟨b_52, e52, f52_0⟩ : awkR E L M N P n1 n2 A1 A2 52 (u 52) W := hd 52 (by decide +kernel)
      refine wpOp_of rfl (by rw [← u1_eq e50]; kernel_rfl) ?_
      go_simp
      refine (ints_yes (l := [1]) rfl (hA2 W hB.out) f52_0).mono ?_
      rintro e w' ⟨rfl, hb⟩
      exact k_of (HK.out (.bool true) _ rfl (hon _ _ hB.out hb) hb) (by rw [← u1_eq e50, ← u1_eq e51, ← u1_eq e52]; kernel_rfl)
    · intro u W hB _ hd _ K hK
      have HK := Lib.hid hK; clear hK
      have e50 : u 50 = .bool true := hd 50 (by decide +kernel)
      have e53 : u 53 = .bool true := hd 53 (by decide +kernel)
      refine wpOp_of rfl (by rfl) ?_
      go_simp
      exact k_of (HK.out (.bool true) _ rfl hB (Below.refl _ _)) (by rw [← u1_eq e50, ← u1_eq e53]; kernel_rfl)
    · intro u W hB _ hd _ K hK
      have HK := Lib.hid hK; clear hK
      have e54 : u 54 = .bool true := hd 54 (by decide +kernel)
      refine wpOp_of rfl (by rfl) ?_
      go_simp
      exact k_of (HK.out (.bool true) _ rfl hB (Below.refl _ _)) (by rw [← u1_eq e54]; kernel_rfl)
    · intro u W hB _ hd _ K hK
      have HK := Lib.hid hK; clear hK
      have e55 : u 55 = .bool true := hd 55 (by decide +kernel)
      refine wpOp_of rfl (by rw [← u1_eq e55]; kernel_rfl) ?_
      go_simp
      exact k_of (HK.out (.int .i64 1) _ rfl hB (Below.refl _ _)) (by rw [← u1_eq e55]; kernel_rfl)
    · intro u W hB _ hd _ K hK
      have HK := Lib.hid hK; clear hK
      have e55 : u 55 = .bool true := hd 55 (by decide +kernel)
      have e56 : u 56 = .int .i64 1 := hd 56 (by decide +kernel)
      refine wpOp_of rfl (by rw [← u1_eq e55]; kernel_rfl) ?_
      go_simp
      exact k_of (HK.out (.bool true) _ rfl hB (Below.refl _ _)) (by rw [← u1_eq e55, ← u1_eq e56]; kernel_rfl)
    · intro u W hB _ hd _ K hK
      have HK := Lib.hid hK; clear hK
      have e55 : u 55 = .bool true := hd 55 (by decide +kernel)
      have e57 : u 57 = .bool true := hd 57 (by decide +kernel)
      refine wpOp_of rfl (by rfl) ?_
      go_simp
      exact k_of (HK.out (.bool true) _ rfl hB (Below.refl _ _)) (by rw [← u1_eq e55, ← u1_eq e57]; kernel_rfl)
    · intro u W hB _ hd _ K hK
      have HK := Lib.hid hK; clear hK
      have e58 : u 58 = .bool true := hd 58 (by decide +kernel)
      refine wpOp_of rfl (by rfl) ?_
      go_simp
      exact k_of (HK.out (.bool true) _ rfl hB (Below.refl _ _)) (by rw [← u1_eq e58]; kernel_rfl)
    · intro u W hB _ hd _ K hK
      have HK := Lib.hid hK; clear hK
      have e59 : u 59 = .bool true := hd 59 (by decide +kernel)
      refine wpOp_of rfl (by rw [← u1_eq e59]; kernel_rfl) ?_
      have z0 := (hN W hB.out).cell 0; have z1 := (hN W hB.out).cell 1
      go_simp
      exact k_of (HK.out (.agg #[.int .i64 291, .int .i64 356]) _ rfl hB (Below.refl _ _)) (by rw [← u1_eq e59]; kernel_rfl)
    · intro u W hB _ hd _ K hK
      have HK := Lib.hid hK; clear hK
      have e59 : u 59 = .bool true := hd 59 (by decide +kernel)
      refine wpOp_of rfl (by rw [← u1_eq e59]; kernel_rfl) ?_
      go_simp
      refine (lspan_any 291 356 _).mono ?_
      rintro e w' ⟨rfl, hb⟩
      exact k_of (HK.out (.agg #[.int .i64 291, .int .i64 356]) _ rfl (hon _ _ hB.out hb) hb) (by rw [← u1_eq e59]; kernel_rfl)
    · intro u W hB _ hd _ K hK
      have HK := Lib.hid hK; clear hK
      have e59 : u 59 = .bool true := hd 59 (by decide +kernel)
      have e60 : u 60 = .agg #[.int .i64 291, .int .i64 356] := hd 60 (by decide +kernel)
      have e61 : u 61 = .agg #[.int .i64 291, .int .i64 356] := hd 61 (by decide +kernel)
      refine wpOp_of rfl (by rw [← u1_eq e59]; kernel_rfl) ?_
      have eq := eq_4 W
      go_simp
      exact k_of (HK.out (.bool true) _ rfl hB (Below.refl _ _)) (by rw [← u1_eq e59, ← u1_eq e60, ← u1_eq e61]; kernel_rfl)
    · intro u W hB _ hd _ K hK
      have HK := Lib.hid hK; clear hK
      have e59 : u 59 = .bool true := hd 59 (by decide +kernel)
      have e62 : u 62 = .bool true := hd 62 (by decide +kernel)
      refine wpOp_of rfl (by rfl) ?_
      go_simp
      exact k_of (HK.out (.bool true) _ rfl hB (Below.refl _ _)) (by rw [← u1_eq e59, ← u1_eq e62]; kernel_rfl)
    · intro u W hB _ hd _ K hK
      have HK := Lib.hid hK; clear hK
      have e63 : u 63 = .bool true := hd 63 (by decide +kernel)
      refine wpOp_of rfl (by rfl) ?_
      go_simp
      exact k_of (HK.out (.bool true) _ rfl hB (Below.refl _ _)) (by rw [← u1_eq e63]; kernel_rfl)
    · intro u W hB _ hd _ K hK
      have HK := Lib.hid hK; clear hK
      have e64 : u 64 = .bool true := hd 64 (by decide +kernel)
      refine wpOp_of rfl (by rw [← u1_eq e64]; kernel_rfl) ?_
      have z0 := (hP W hB.out).cell 0; have z1 := (hP W hB.out).cell 1
      go_simp
      exact k_of (HK.out (.agg #[.int .i64 2272, .int .i64 3334]) _ rfl hB (Below.refl _ _)) (by rw [← u1_eq e64]; kernel_rfl)
    · intro u W hB _ hd _ K hK
      have HK := Lib.hid hK; clear hK
      have e64 : u 64 = .bool true := hd 64 (by decide +kernel)
      refine wpOp_of rfl (by rw [← u1_eq e64]; kernel_rfl) ?_
      go_simp
      refine (lspan_any 2272 3334 _).mono ?_
      rintro e w' ⟨rfl, hb⟩
      exact k_of (HK.out (.agg #[.int .i64 2272, .int .i64 3334]) _ rfl (hon _ _ hB.out hb) hb) (by rw [← u1_eq e64]; kernel_rfl)
    · intro u W hB _ hd _ K hK
      have HK := Lib.hid hK; clear hK
      have e64 : u 64 = .bool true := hd 64 (by decide +kernel)
      have e65 : u 65 = .agg #[.int .i64 2272, .int .i64 3334] := hd 65 (by decide +kernel)
      have e66 : u 66 = .agg #[.int .i64 2272, .int .i64 3334] := hd 66 (by decide +kernel)
      refine wpOp_of rfl (by rw [← u1_eq e64]; kernel_rfl) ?_
      have eq := eq_5 W
      go_simp
      exact k_of (HK.out (.bool true) _ rfl hB (Below.refl _ _)) (by rw [← u1_eq e64, ← u1_eq e65, ← u1_eq e66]; kernel_rfl)
    · intro u W hB _ hd _ K hK
      have HK := Lib.hid hK; clear hK
      have e64 : u 64 = .bool true := hd 64 (by decide +kernel)
      have e67 : u 67 = .bool true := hd 67 (by decide +kernel)
      refine wpOp_of rfl (by rfl) ?_
      go_simp
      exact k_of (HK.out (.bool true) _ rfl hB (Below.refl _ _)) (by rw [← u1_eq e64, ← u1_eq e67]; kernel_rfl)
    · intro u W hB _ hd _ K hK
      have HK := Lib.hid hK; clear hK
      have e68 : u 68 = .bool true := hd 68 (by decide +kernel)
      refine wpOp_of rfl (by rfl) ?_
      go_simp
      exact k_of (HK.out (.bool true) _ rfl hB (Below.refl _ _)) (by rw [← u1_eq e68]; kernel_rfl)
  · intro u W hB hd
    have e69 : u 69 = .bool true := hd 69 (by decide)
    exact k_of (HQ.out u W hB.out) (by simp only [e69])
end Go.Proofs.Ytkjfommdeljefaa
