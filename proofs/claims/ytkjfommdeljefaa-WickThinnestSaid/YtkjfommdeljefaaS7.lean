/- WickThinnest: its region that draws its order. -/
import Derived.Test.YtkjfommdeljefaaS6
namespace Go.Proofs.Ytkjfommdeljefaa
open Go.RowKit Go.Shelf Go.Maps
attribute [local go_sem] Oper.semAt_some

/-- What each operation leaves. -/
def thdR (_P _b _o _m _kc n g _ii _jj : Nat) (A : Option Addr) (_ti _tj : Int) (_p : Sp) : Nat → Value → World → Prop
  | 0, v, _ => v = .int .i64 0
  | 1, v, _ => v = .bool false
  | 2, v, _ => v = .bool false
  | 3, v, _ => v = .int .i64 9
  | 4, v, _ => v = .bool true
  | 5, v, _ => v = .bool true
  | 6, v, _ => v = .slice A n g
  | 7, v, _ => v = .int .i64 (n : Int)
  | 8, v, _ => v = .bool false
  | 9, v, _ => v = .bool false
  | 10, v, _ => v = .bool false
  | 11, v, _ => v = .bool false
  | 12, v, _ => v = .int .i64 9
  | 13, v, _ => v = .bool false
  | 14, v, _ => v = .bool false
  | 15, v, _ => v = undef
  | 16, v, _ => v = undef
  | 17, v, _ => v = undef
  | 18, v, _ => v = undef
  | 19, v, _ => v = undef
  | 20, v, _ => v = undef
  | 21, v, _ => v = undef
  | 22, v, _ => v = undef
  | 23, v, _ => v = undef
  | 24, v, _ => v = undef
  | 25, v, _ => v = undef
  | 26, v, _ => v = undef
  | 27, v, _ => v = undef
  | 28, v, _ => v = undef
  | 29, v, _ => v = undef
  | 30, v, _ => v = undef
  | 31, v, _ => v = undef
  | 32, v, _ => v = undef
  | 33, v, _ => v = undef
  | 34, v, _ => v = undef
  | 35, v, _ => v = undef
  | 36, v, _ => v = undef
  | 37, v, _ => v = undef
  | 38, v, _ => v = undef
  | 39, v, _ => v = undef
  | 40, v, _ => v = undef
  | 41, v, _ => v = undef
  | 42, v, _ => v = undef
  | 43, v, _ => v = .bool false
  | 44, v, _ => v = .bool false
  | _, _, _ => True
theorem thdR_on (P b o m kc n g ii jj : Nat) (A : Option Addr) (ti tj : Int) (p : Sp) : ∀ i, i < 45 → ∀ v W W', thdR P b o m kc n g ii jj A ti tj p i v W → Below W.heap.size W W' → thdR P b o m kc n g ii jj A ti tj p i v W' := by
  iterate 45 (refine all_succ ?_ ?_)
  · exact all_zero
  · exact fun _ _ _ h _ => h
  · exact fun _ _ _ h _ => h
  · exact fun _ _ _ h _ => h
  · exact fun _ _ _ h _ => h
  · exact fun _ _ _ h _ => h
  · exact fun _ _ _ h _ => h
  · exact fun _ _ _ h _ => h
  · exact fun _ _ _ h _ => h
  · exact fun _ _ _ h _ => h
  · exact fun _ _ _ h _ => h
  · exact fun _ _ _ h _ => h
  · exact fun _ _ _ h _ => h
  · exact fun _ _ _ h _ => h
  · exact fun _ _ _ h _ => h
  · exact fun _ _ _ h _ => h
  · exact fun _ _ _ h _ => h
  · exact fun _ _ _ h _ => h
  · exact fun _ _ _ h _ => h
  · exact fun _ _ _ h _ => h
  · exact fun _ _ _ h _ => h
  · exact fun _ _ _ h _ => h
  · exact fun _ _ _ h _ => h
  · exact fun _ _ _ h _ => h
  · exact fun _ _ _ h _ => h
  · exact fun _ _ _ h _ => h
  · exact fun _ _ _ h _ => h
  · exact fun _ _ _ h _ => h
  · exact fun _ _ _ h _ => h
  · exact fun _ _ _ h _ => h
  · exact fun _ _ _ h _ => h
  · exact fun _ _ _ h _ => h
  · exact fun _ _ _ h _ => h
  · exact fun _ _ _ h _ => h
  · exact fun _ _ _ h _ => h
  · exact fun _ _ _ h _ => h
  · exact fun _ _ _ h _ => h
  · exact fun _ _ _ h _ => h
  · exact fun _ _ _ h _ => h
  · exact fun _ _ _ h _ => h
  · exact fun _ _ _ h _ => h
  · exact fun _ _ _ h _ => h
  · exact fun _ _ _ h _ => h
  · exact fun _ _ _ h _ => h
  · exact fun _ _ _ h _ => h
  · exact fun _ _ _ h _ => h
set_option maxRecDepth 100000 in
set_option maxHeartbeats 8000000 in
theorem thd_region {S : World → Prop} (hon : ∀ W W', S W → Below W.heap.size W W' → S W') {P b o m kc n g ii jj : Nat} {A : Option Addr} {ti tj : Int} {p : Sp} (_hP : ∀ W, S W → Blk W P 27 #[.slice (some ⟨b, o, none⟩) m kc, .slice p.xa p.s.xs.length p.xc, .int .i64 p.s.flo, .int .i64 p.s.fhi, .int .i64 p.s.plo, .int .i64 p.s.phi]) (hn : ((n : Int) == 0) = false) {Q : Exit → Act → World → Prop} {s0 s1 s3 s4 s7 s11 s12 s13 s14 s15 s16 s17 s18 s19 s20 s21 s22 s23 s24 s25 s26 s27 s28 s29 s30 s31 s32 s33 s34 s35 s36 s37 s38 s39 s40 s41 s42 s43 s44 s45 s46 s47 s48 s49 s50 s51 s52 s53 s54 s55 s56 s57 s58 s59 s60 s61 s62 s63 s64 s65 s66 s112 s67 s68 s69 s70 s71 s72 s73 s74 s75 s76 s77 s78 s79 s80 s81 s82 s83 s84 s85 s86 s87 s88 s89 s90 s91 s92 s93 s94 s95 s96 s97 s98 s99 s100 s101 s102 s103 s104 s105 s106 s107 s108 s109 s110 s111 : Value} {W0 : World} (HL : Hid (S W0))
    (HQ : Hid (∀ (u : Nat → Value) (W : World), S W → Q .normal ⟨#[s0, s1, .pointer (some ⟨P, 0, none⟩), s3, s4, .int .i64 0, .int .i64 9, s7, .int .i64 (ii : Int), .slice A n g, .int .i64 0, s11, s12, s13, s14, s15, s16, s17, s18, s19, s20, s21, s22, s23, s24, s25, s26, s27, s28, s29, s30, s31, s32, s33, s34, s35, s36, s37, s38, s39, s40, s41, s42, s43, s44, s45, s46, s47, s48, s49, s50, s51, s52, s53, s54, s55, s56, s57, s58, s59, s60, s61, s62, s63, s64, s65, s66, u 0, u 1, u 2, u 3, u 4, u 5, u 6, u 7, u 8, u 9, u 10, u 11, u 12, u 13, u 14, u 15, u 16, u 17, u 18, u 19, u 20, u 21, u 22, u 23, u 24, u 25, u 26, u 27, u 28, u 29, u 30, u 31, u 32, u 33, u 34, u 35, u 36, u 37, u 38, u 39, u 40, u 41, u 42, u 43, .bool false, s112], []⟩ W)) :
    Code.wp Try.prog ((Try.f9.body.bind (regionAt 11)).getD .skip) Q ⟨#[s0, s1, .pointer (some ⟨P, 0, none⟩), s3, s4, .int .i64 0, .int .i64 9, s7, .int .i64 (ii : Int), .slice A n g, .int .i64 0, s11, s12, s13, s14, s15, s16, s17, s18, s19, s20, s21, s22, s23, s24, s25, s26, s27, s28, s29, s30, s31, s32, s33, s34, s35, s36, s37, s38, s39, s40, s41, s42, s43, s44, s45, s46, s47, s48, s49, s50, s51, s52, s53, s54, s55, s56, s57, s58, s59, s60, s61, s62, s63, s64, s65, s66, s67, s68, s69, s70, s71, s72, s73, s74, s75, s76, s77, s78, s79, s80, s81, s82, s83, s84, s85, s86, s87, s88, s89, s90, s91, s92, s93, s94, s95, s96, s97, s98, s99, s100, s101, s102, s103, s104, s105, s106, s107, s108, s109, s110, s111, s112], []⟩ W0 := by
  conv => arg 2; whnf
  refine wp_region_spec (by kernel_rfl) 45 (by kernel_rfl) (fun u => ⟨#[s0, s1, .pointer (some ⟨P, 0, none⟩), s3, s4, .int .i64 0, .int .i64 9, s7, .int .i64 (ii : Int), .slice A n g, .int .i64 0, s11, s12, s13, s14, s15, s16, s17, s18, s19, s20, s21, s22, s23, s24, s25, s26, s27, s28, s29, s30, s31, s32, s33, s34, s35, s36, s37, s38, s39, s40, s41, s42, s43, s44, s45, s46, s47, s48, s49, s50, s51, s52, s53, s54, s55, s56, s57, s58, s59, s60, s61, s62, s63, s64, s65, s66, u 0, u 1, u 2, u 3, u 4, u 5, u 6, u 7, u 8, u 9, u 10, u 11, u 12, u 13, u 14, u 15, u 16, u 17, u 18, u 19, u 20, u 21, u 22, u 23, u 24, u 25, u 26, u 27, u 28, u 29, u 30, u 31, u 32, u 33, u 34, u 35, u 36, u 37, u 38, u 39, u 40, u 41, u 42, u 43, u 44, s112], []⟩) (fun i => if i = 0 then s67 else if i = 1 then s68 else if i = 2 then s69 else if i = 3 then s70 else if i = 4 then s71 else if i = 5 then s72 else if i = 6 then s73 else if i = 7 then s74 else if i = 8 then s75 else if i = 9 then s76 else if i = 10 then s77 else if i = 11 then s78 else if i = 12 then s79 else if i = 13 then s80 else if i = 14 then s81 else if i = 15 then s82 else if i = 16 then s83 else if i = 17 then s84 else if i = 18 then s85 else if i = 19 then s86 else if i = 20 then s87 else if i = 21 then s88 else if i = 22 then s89 else if i = 23 then s90 else if i = 24 then s91 else if i = 25 then s92 else if i = 26 then s93 else if i = 27 then s94 else if i = 28 then s95 else if i = 29 then s96 else if i = 30 then s97 else if i = 31 then s98 else if i = 32 then s99 else if i = 33 then s100 else if i = 34 then s101 else if i = 35 then s102 else if i = 36 then s103 else if i = 37 then s104 else if i = 38 then s105 else if i = 39 then s106 else if i = 40 then s107 else if i = 41 then s108 else if i = 42 then s109 else if i = 43 then s110 else if i = 44 then s111 else undef) (fun W => Hid (S W)) (thdR P b o m kc n g ii jj A ti tj p) (by kernel_rfl) (hon _ _ HL.out (Below.refl _ _).drew) (fun i v W W2 hi h hb => thdR_on P b o m kc n g ii jj A ti tj p i hi v W W2 h hb) (by decide +kernel) ?_ ?_
  · iterate 45 (refine all_succ ?_ ?_)
    · exact all_zero
    · intro u W hB _ hd _ K hK
      have HK := Lib.hid hK; clear hK
      refine wpOp_of rfl (by rfl) ?_
      go_simp
      exact k_of (HK.out (.int .i64 0) _ rfl hB (Below.refl _ _)) (by kernel_rfl)
    · intro u W hB _ hd _ K hK
      have HK := Lib.hid hK; clear hK
      have e0 : u 0 = .int .i64 0 := hd 0 (by decide +kernel)
      refine wpOp_of rfl (by rfl) ?_
      go_simp
      exact k_of (HK.out (.bool false) _ rfl hB (Below.refl _ _)) (by rw [← u1_eq e0]; kernel_rfl)
    · intro u W hB _ hd _ K hK
      have HK := Lib.hid hK; clear hK
      have e1 : u 1 = .bool false := hd 1 (by decide +kernel)
      refine wpOp_of rfl (by rfl) ?_
      go_simp
      exact k_of (HK.out (.bool false) _ rfl hB (Below.refl _ _)) (by rw [← u1_eq e1]; kernel_rfl)
    · intro u W hB _ hd _ K hK
      have HK := Lib.hid hK; clear hK
      have e2 : u 2 = .bool false := hd 2 (by decide +kernel)
      refine wpOp_of rfl (by rw [← u1_eq e2]; kernel_rfl) ?_
      go_simp
      exact k_of (HK.out (.int .i64 9) _ rfl hB (Below.refl _ _)) (by rw [← u1_eq e2]; kernel_rfl)
    · intro u W hB _ hd _ K hK
      have HK := Lib.hid hK; clear hK
      have e2 : u 2 = .bool false := hd 2 (by decide +kernel)
      have e3 : u 3 = .int .i64 9 := hd 3 (by decide +kernel)
      refine wpOp_of rfl (by rw [← u1_eq e2]; kernel_rfl) ?_
      go_simp
      exact k_of (HK.out (.bool true) _ rfl hB (Below.refl _ _)) (by rw [← u1_eq e2, ← u1_eq e3]; kernel_rfl)
    · intro u W hB _ hd _ K hK
      have HK := Lib.hid hK; clear hK
      have e2 : u 2 = .bool false := hd 2 (by decide +kernel)
      have e4 : u 4 = .bool true := hd 4 (by decide +kernel)
      refine wpOp_of rfl (by rw [← u1_eq e2]; kernel_rfl) ?_
      go_simp
      exact k_of (HK.out (.bool true) _ rfl hB (Below.refl _ _)) (by rw [← u1_eq e2, ← u1_eq e4]; kernel_rfl)
    · intro u W hB _ hd _ K hK
      have HK := Lib.hid hK; clear hK
      have e5 : u 5 = .bool true := hd 5 (by decide +kernel)
      refine wpOp_of rfl (by rw [← u1_eq e5]; kernel_rfl) ?_
      go_simp
      exact k_of (HK.out (.slice A n g) _ rfl hB (Below.refl _ _)) (by rw [← u1_eq e5]; kernel_rfl)
    · intro u W hB _ hd _ K hK
      have HK := Lib.hid hK; clear hK
      have e5 : u 5 = .bool true := hd 5 (by decide +kernel)
      have e6 : u 6 = .slice A n g := hd 6 (by decide +kernel)
      refine wpOp_of rfl (by rw [← u1_eq e5]; kernel_rfl) ?_
      go_simp
      exact k_of (HK.out (.int .i64 (n : Int)) _ rfl hB (Below.refl _ _)) (by rw [← u1_eq e5, ← u1_eq e6]; kernel_rfl)
    · intro u W hB _ hd _ K hK
      have HK := Lib.hid hK; clear hK
      have e5 : u 5 = .bool true := hd 5 (by decide +kernel)
      have e7 : u 7 = .int .i64 (n : Int) := hd 7 (by decide +kernel)
      refine wpOp_of rfl (by rw [← u1_eq e5]; kernel_rfl) ?_
      go_simp
      exact k_of (HK.out (.bool false) _ rfl hB (Below.refl _ _)) (by rw [← u1_eq e5, ← u1_eq e7]; kernel_rfl)
    · intro u W hB _ hd _ K hK
      have HK := Lib.hid hK; clear hK
      have e2 : u 2 = .bool false := hd 2 (by decide +kernel)
      have e5 : u 5 = .bool true := hd 5 (by decide +kernel)
      have e8 : u 8 = .bool false := hd 8 (by decide +kernel)
      refine wpOp_of rfl (by rw [← u1_eq e2]; kernel_rfl) ?_
      go_simp
      exact k_of (HK.out (.bool false) _ rfl hB (Below.refl _ _)) (by rw [← u1_eq e2, ← u1_eq e5, ← u1_eq e8]; kernel_rfl)
    · intro u W hB _ hd _ K hK
      have HK := Lib.hid hK; clear hK
      have e2 : u 2 = .bool false := hd 2 (by decide +kernel)
      have e9 : u 9 = .bool false := hd 9 (by decide +kernel)
      refine wpOp_of rfl (by rfl) ?_
      go_simp
      exact k_of (HK.out (.bool false) _ rfl hB (Below.refl _ _)) (by rw [← u1_eq e2, ← u1_eq e9]; kernel_rfl)
    · intro u W hB _ hd _ K hK
      have HK := Lib.hid hK; clear hK
      have e10 : u 10 = .bool false := hd 10 (by decide +kernel)
      refine wpOp_of rfl (by rfl) ?_
      go_simp
      exact k_of (HK.out (.bool false) _ rfl hB (Below.refl _ _)) (by rw [← u1_eq e10]; kernel_rfl)
    · intro u W hB _ hd _ K hK
      have HK := Lib.hid hK; clear hK
      have e11 : u 11 = .bool false := hd 11 (by decide +kernel)
      refine wpOp_of rfl (by rw [← u1_eq e11]; kernel_rfl) ?_
      go_simp
      exact k_of (HK.out (.int .i64 9) _ rfl hB (Below.refl _ _)) (by rw [← u1_eq e11]; kernel_rfl)
    · intro u W hB _ hd _ K hK
      have HK := Lib.hid hK; clear hK
      have e11 : u 11 = .bool false := hd 11 (by decide +kernel)
      have e12 : u 12 = .int .i64 9 := hd 12 (by decide +kernel)
      refine wpOp_of rfl (by rw [← u1_eq e11]; kernel_rfl) ?_
      go_simp
      exact k_of (HK.out (.bool false) _ rfl hB (Below.refl _ _)) (by rw [← u1_eq e11, ← u1_eq e12]; kernel_rfl)
    · intro u W hB _ hd _ K hK
      have HK := Lib.hid hK; clear hK
      have e11 : u 11 = .bool false := hd 11 (by decide +kernel)
      have e13 : u 13 = .bool false := hd 13 (by decide +kernel)
      refine wpOp_of rfl (by rw [← u1_eq e11]; kernel_rfl) ?_
      go_simp
      exact k_of (HK.out (.bool false) _ rfl hB (Below.refl _ _)) (by rw [← u1_eq e11, ← u1_eq e13]; kernel_rfl)
    · intro u W hB _ hd _ K hK
      have HK := Lib.hid hK; clear hK
      have e14 : u 14 = .bool false := hd 14 (by decide +kernel)
      refine wpOp_skip rfl (by rw [← u1_eq e14]; kernel_rfl) ?_
      exact k_of (HK.out undef _ rfl hB (Below.refl _ _)) (by rw [← u1_eq e14]; kernel_rfl)
    · intro u W hB _ hd _ K hK
      have HK := Lib.hid hK; clear hK
      have e14 : u 14 = .bool false := hd 14 (by decide +kernel)
      refine wpOp_skip rfl (by rw [← u1_eq e14]; kernel_rfl) ?_
      exact k_of (HK.out undef _ rfl hB (Below.refl _ _)) (by rw [← u1_eq e14]; kernel_rfl)
    · intro u W hB _ hd _ K hK
      have HK := Lib.hid hK; clear hK
      have e14 : u 14 = .bool false := hd 14 (by decide +kernel)
      refine wpOp_skip rfl (by rw [← u1_eq e14]; kernel_rfl) ?_
      exact k_of (HK.out undef _ rfl hB (Below.refl _ _)) (by rw [← u1_eq e14]; kernel_rfl)
    · intro u W hB _ hd _ K hK
      have HK := Lib.hid hK; clear hK
      have e14 : u 14 = .bool false := hd 14 (by decide +kernel)
      refine wpOp_skip rfl (by rw [← u1_eq e14]; kernel_rfl) ?_
      exact k_of (HK.out undef _ rfl hB (Below.refl _ _)) (by rw [← u1_eq e14]; kernel_rfl)
    · intro u W hB _ hd _ K hK
      have HK := Lib.hid hK; clear hK
      have e18 : u 18 = undef := hd 18 (by decide +kernel)
      refine wpOp_skip rfl (by rw [← u1_eq e18]; kernel_rfl) ?_
      exact k_of (HK.out undef _ rfl hB (Below.refl _ _)) (by rw [← u1_eq e18]; kernel_rfl)
    · intro u W hB _ hd _ K hK
      have HK := Lib.hid hK; clear hK
      have e18 : u 18 = undef := hd 18 (by decide +kernel)
      refine wpOp_skip rfl (by rw [← u1_eq e18]; kernel_rfl) ?_
      exact k_of (HK.out undef _ rfl hB (Below.refl _ _)) (by rw [← u1_eq e18]; kernel_rfl)
    · intro u W hB _ hd _ K hK
      have HK := Lib.hid hK; clear hK
      have e18 : u 18 = undef := hd 18 (by decide +kernel)
      refine wpOp_skip rfl (by rw [← u1_eq e18]; kernel_rfl) ?_
      exact k_of (HK.out undef _ rfl hB (Below.refl _ _)) (by rw [← u1_eq e18]; kernel_rfl)
    · intro u W hB _ hd _ K hK
      have HK := Lib.hid hK; clear hK
      have e14 : u 14 = .bool false := hd 14 (by decide +kernel)
      refine wpOp_skip rfl (by rw [← u1_eq e14]; kernel_rfl) ?_
      exact k_of (HK.out undef _ rfl hB (Below.refl _ _)) (by rw [← u1_eq e14]; kernel_rfl)
    · intro u W hB _ hd _ K hK
      have HK := Lib.hid hK; clear hK
      have e14 : u 14 = .bool false := hd 14 (by decide +kernel)
      refine wpOp_skip rfl (by rw [← u1_eq e14]; kernel_rfl) ?_
      exact k_of (HK.out undef _ rfl hB (Below.refl _ _)) (by rw [← u1_eq e14]; kernel_rfl)
    · intro u W hB _ hd _ K hK
      have HK := Lib.hid hK; clear hK
      have e23 : u 23 = undef := hd 23 (by decide +kernel)
      refine wpOp_skip rfl (by rw [← u1_eq e23]; kernel_rfl) ?_
      exact k_of (HK.out undef _ rfl hB (Below.refl _ _)) (by rw [← u1_eq e23]; kernel_rfl)
    · intro u W hB _ hd _ K hK
      have HK := Lib.hid hK; clear hK
      have e23 : u 23 = undef := hd 23 (by decide +kernel)
      refine wpOp_skip rfl (by rw [← u1_eq e23]; kernel_rfl) ?_
      exact k_of (HK.out undef _ rfl hB (Below.refl _ _)) (by rw [← u1_eq e23]; kernel_rfl)
    · intro u W hB _ hd _ K hK
      have HK := Lib.hid hK; clear hK
      have e23 : u 23 = undef := hd 23 (by decide +kernel)
      refine wpOp_skip rfl (by rw [← u1_eq e23]; kernel_rfl) ?_
      exact k_of (HK.out undef _ rfl hB (Below.refl _ _)) (by rw [← u1_eq e23]; kernel_rfl)
    · intro u W hB _ hd _ K hK
      have HK := Lib.hid hK; clear hK
      have e23 : u 23 = undef := hd 23 (by decide +kernel)
      refine wpOp_skip rfl (by rw [← u1_eq e23]; kernel_rfl) ?_
      exact k_of (HK.out undef _ rfl hB (Below.refl _ _)) (by rw [← u1_eq e23]; kernel_rfl)
    · intro u W hB _ hd _ K hK
      have HK := Lib.hid hK; clear hK
      have e23 : u 23 = undef := hd 23 (by decide +kernel)
      refine wpOp_skip rfl (by rw [← u1_eq e23]; kernel_rfl) ?_
      exact k_of (HK.out undef _ rfl hB (Below.refl _ _)) (by rw [← u1_eq e23]; kernel_rfl)
    · intro u W hB _ hd _ K hK
      have HK := Lib.hid hK; clear hK
      have e23 : u 23 = undef := hd 23 (by decide +kernel)
      refine wpOp_skip rfl (by rw [← u1_eq e23]; kernel_rfl) ?_
      exact k_of (HK.out undef _ rfl hB (Below.refl _ _)) (by rw [← u1_eq e23]; kernel_rfl)
    · intro u W hB _ hd _ K hK
      have HK := Lib.hid hK; clear hK
      have e23 : u 23 = undef := hd 23 (by decide +kernel)
      refine wpOp_skip rfl (by rw [← u1_eq e23]; kernel_rfl) ?_
      exact k_of (HK.out undef _ rfl hB (Below.refl _ _)) (by rw [← u1_eq e23]; kernel_rfl)
    · intro u W hB _ hd _ K hK
      have HK := Lib.hid hK; clear hK
      have e23 : u 23 = undef := hd 23 (by decide +kernel)
      refine wpOp_skip rfl (by rw [← u1_eq e23]; kernel_rfl) ?_
      exact k_of (HK.out undef _ rfl hB (Below.refl _ _)) (by rw [← u1_eq e23]; kernel_rfl)
    · intro u W hB _ hd _ K hK
      have HK := Lib.hid hK; clear hK
      have e23 : u 23 = undef := hd 23 (by decide +kernel)
      refine wpOp_skip rfl (by rw [← u1_eq e23]; kernel_rfl) ?_
      exact k_of (HK.out undef _ rfl hB (Below.refl _ _)) (by rw [← u1_eq e23]; kernel_rfl)
    · intro u W hB _ hd _ K hK
      have HK := Lib.hid hK; clear hK
      have e23 : u 23 = undef := hd 23 (by decide +kernel)
      refine wpOp_skip rfl (by rw [← u1_eq e23]; kernel_rfl) ?_
      exact k_of (HK.out undef _ rfl hB (Below.refl _ _)) (by rw [← u1_eq e23]; kernel_rfl)
    · intro u W hB _ hd _ K hK
      have HK := Lib.hid hK; clear hK
      have e23 : u 23 = undef := hd 23 (by decide +kernel)
      refine wpOp_skip rfl (by rw [← u1_eq e23]; kernel_rfl) ?_
      exact k_of (HK.out undef _ rfl hB (Below.refl _ _)) (by rw [← u1_eq e23]; kernel_rfl)
    · intro u W hB _ hd _ K hK
      have HK := Lib.hid hK; clear hK
      have e23 : u 23 = undef := hd 23 (by decide +kernel)
      refine wpOp_skip rfl (by rw [← u1_eq e23]; kernel_rfl) ?_
      exact k_of (HK.out undef _ rfl hB (Below.refl _ _)) (by rw [← u1_eq e23]; kernel_rfl)
    · intro u W hB _ hd _ K hK
      have HK := Lib.hid hK; clear hK
      have e23 : u 23 = undef := hd 23 (by decide +kernel)
      refine wpOp_skip rfl (by rw [← u1_eq e23]; kernel_rfl) ?_
      exact k_of (HK.out undef _ rfl hB (Below.refl _ _)) (by rw [← u1_eq e23]; kernel_rfl)
    · intro u W hB _ hd _ K hK
      have HK := Lib.hid hK; clear hK
      have e23 : u 23 = undef := hd 23 (by decide +kernel)
      refine wpOp_skip rfl (by rw [← u1_eq e23]; kernel_rfl) ?_
      exact k_of (HK.out undef _ rfl hB (Below.refl _ _)) (by rw [← u1_eq e23]; kernel_rfl)
    · intro u W hB _ hd _ K hK
      have HK := Lib.hid hK; clear hK
      have e37 : u 37 = undef := hd 37 (by decide +kernel)
      refine wpOp_skip rfl (by rw [← u1_eq e37]; kernel_rfl) ?_
      exact k_of (HK.out undef _ rfl hB (Below.refl _ _)) (by rw [← u1_eq e37]; kernel_rfl)
    · intro u W hB _ hd _ K hK
      have HK := Lib.hid hK; clear hK
      have e37 : u 37 = undef := hd 37 (by decide +kernel)
      refine wpOp_skip rfl (by rw [← u1_eq e37]; kernel_rfl) ?_
      exact k_of (HK.out undef _ rfl hB (Below.refl _ _)) (by rw [← u1_eq e37]; kernel_rfl)
    · intro u W hB _ hd _ K hK
      have HK := Lib.hid hK; clear hK
      have e37 : u 37 = undef := hd 37 (by decide +kernel)
      refine wpOp_skip rfl (by rw [← u1_eq e37]; kernel_rfl) ?_
      exact k_of (HK.out undef _ rfl hB (Below.refl _ _)) (by rw [← u1_eq e37]; kernel_rfl)
    · intro u W hB _ hd _ K hK
      have HK := Lib.hid hK; clear hK
      have e23 : u 23 = undef := hd 23 (by decide +kernel)
      refine wpOp_skip rfl (by rw [← u1_eq e23]; kernel_rfl) ?_
      exact k_of (HK.out undef _ rfl hB (Below.refl _ _)) (by rw [← u1_eq e23]; kernel_rfl)
    · intro u W hB _ hd _ K hK
      have HK := Lib.hid hK; clear hK
      have e14 : u 14 = .bool false := hd 14 (by decide +kernel)
      refine wpOp_skip rfl (by rw [← u1_eq e14]; kernel_rfl) ?_
      exact k_of (HK.out undef _ rfl hB (Below.refl _ _)) (by rw [← u1_eq e14]; kernel_rfl)
    · intro u W hB _ hd _ K hK
      have HK := Lib.hid hK; clear hK
      have e11 : u 11 = .bool false := hd 11 (by decide +kernel)
      have e14 : u 14 = .bool false := hd 14 (by decide +kernel)
      have e42 : u 42 = undef := hd 42 (by decide +kernel)
      refine wpOp_of rfl (by rw [← u1_eq e11]; kernel_rfl) ?_
      go_simp
      exact k_of (HK.out (.bool false) _ rfl hB (Below.refl _ _)) (by rw [← u1_eq e11, ← u1_eq e14, ← u1_eq e42]; kernel_rfl)
    · intro u W hB _ hd _ K hK
      have HK := Lib.hid hK; clear hK
      have e11 : u 11 = .bool false := hd 11 (by decide +kernel)
      have e43 : u 43 = .bool false := hd 43 (by decide +kernel)
      refine wpOp_of rfl (by rfl) ?_
      go_simp
      exact k_of (HK.out (.bool false) _ rfl hB (Below.refl _ _)) (by rw [← u1_eq e11, ← u1_eq e43]; kernel_rfl)
  · intro u W hB hd
    have e44 : u 44 = .bool false := hd 44 (by decide)
    exact k_of (HQ.out u W hB.out) (by simp only [e44])

/-- What each operation leaves. -/
def thsR (P b o m kc _n g ii _jj : Nat) (A : Option Addr) (ti _tj : Int) (_p : Sp) : Nat → Value → World → Prop
  | 0, v, _ => v = .int .i64 0
  | 1, v, _ => v = .bool false
  | 2, v, _ => v = .bool false
  | 3, v, _ => v = .int .i64 0
  | 4, v, _ => v = .bool false
  | 5, v, _ => v = .bool false
  | 6, v, _ => v = undef
  | 7, v, _ => v = undef
  | 8, v, _ => v = undef
  | 9, v, _ => v = .bool false
  | 10, v, _ => v = .bool false
  | 11, v, _ => v = .bool false
  | 12, v, _ => v = .int .i64 0
  | 13, v, _ => v = .bool true
  | 14, v, _ => v = .bool true
  | 15, v, _ => v = .int .i64 (ii : Int)
  | 16, v, _ => v = .int .i64 (ii : Int)
  | 17, v, _ => v = .bool true
  | 18, v, _ => v = .bool true
  | 19, v, _ => v = .slice A 0 g
  | 20, v, _ => v = .int .i64 0
  | 21, v, _ => v = .bool false
  | 22, v, _ => v = .bool false
  | 23, v, _ => v = .bool false
  | 24, v, _ => v = .pointer (some ⟨P, 0, none⟩)
  | 25, v, _ => v = .slice (some ⟨b, o, none⟩) m kc
  | 26, v, _ => v = .int .i64 (ii : Int)
  | 27, v, _ => v = .pointer (some ⟨b, o + ii * 4, none⟩)
  | 28, v, _ => v = .pointer (some ⟨b, o + ii * 4 + 1, none⟩)
  | 29, v, _ => v = .int .i64 ti
  | 30, v, _ => v = .pointer (some ⟨P, 0, none⟩)
  | 31, v, _ => v = .slice (some ⟨b, o, none⟩) m kc
  | 32, v, _ => v = .int .i64 (ii : Int)
  | 33, v, _ => v = .pointer (some ⟨b, o + ii * 4, none⟩)
  | 34, v, _ => v = .pointer (some ⟨b, o + ii * 4 + 1, none⟩)
  | 35, v, _ => v = .int .i64 ti
  | 36, v, _ => v = .bool false
  | 37, v, _ => v = .bool false
  | 38, v, _ => v = undef
  | 39, v, _ => v = undef
  | 40, v, _ => v = undef
  | 41, v, _ => v = .bool false
  | 42, v, _ => v = .bool false
  | 43, v, _ => v = .bool false
  | 44, v, _ => v = .bool false
  | _, _, _ => True
theorem thsR_on (P b o m kc n g ii jj : Nat) (A : Option Addr) (ti tj : Int) (p : Sp) : ∀ i, i < 45 → ∀ v W W', thsR P b o m kc n g ii jj A ti tj p i v W → Below W.heap.size W W' → thsR P b o m kc n g ii jj A ti tj p i v W' := by
  iterate 45 (refine all_succ ?_ ?_)
  · exact all_zero
  · exact fun _ _ _ h _ => h
  · exact fun _ _ _ h _ => h
  · exact fun _ _ _ h _ => h
  · exact fun _ _ _ h _ => h
  · exact fun _ _ _ h _ => h
  · exact fun _ _ _ h _ => h
  · exact fun _ _ _ h _ => h
  · exact fun _ _ _ h _ => h
  · exact fun _ _ _ h _ => h
  · exact fun _ _ _ h _ => h
  · exact fun _ _ _ h _ => h
  · exact fun _ _ _ h _ => h
  · exact fun _ _ _ h _ => h
  · exact fun _ _ _ h _ => h
  · exact fun _ _ _ h _ => h
  · exact fun _ _ _ h _ => h
  · exact fun _ _ _ h _ => h
  · exact fun _ _ _ h _ => h
  · exact fun _ _ _ h _ => h
  · exact fun _ _ _ h _ => h
  · exact fun _ _ _ h _ => h
  · exact fun _ _ _ h _ => h
  · exact fun _ _ _ h _ => h
  · exact fun _ _ _ h _ => h
  · exact fun _ _ _ h _ => h
  · exact fun _ _ _ h _ => h
  · exact fun _ _ _ h _ => h
  · exact fun _ _ _ h _ => h
  · exact fun _ _ _ h _ => h
  · exact fun _ _ _ h _ => h
  · exact fun _ _ _ h _ => h
  · exact fun _ _ _ h _ => h
  · exact fun _ _ _ h _ => h
  · exact fun _ _ _ h _ => h
  · exact fun _ _ _ h _ => h
  · exact fun _ _ _ h _ => h
  · exact fun _ _ _ h _ => h
  · exact fun _ _ _ h _ => h
  · exact fun _ _ _ h _ => h
  · exact fun _ _ _ h _ => h
  · exact fun _ _ _ h _ => h
  · exact fun _ _ _ h _ => h
  · exact fun _ _ _ h _ => h
  · exact fun _ _ _ h _ => h
  · exact fun _ _ _ h _ => h
set_option maxRecDepth 100000 in
set_option maxHeartbeats 8000000 in
theorem ths_region {S : World → Prop} (hon : ∀ W W', S W → Below W.heap.size W W' → S W') {P b o m kc n g ii jj : Nat} {A : Option Addr} {ti tj : Int} {p : Sp} (hP : ∀ W, S W → Blk W P 27 #[.slice (some ⟨b, o, none⟩) m kc, .slice p.xa p.s.xs.length p.xc, .int .i64 p.s.flo, .int .i64 p.s.fhi, .int .i64 p.s.plo, .int .i64 p.s.phi]) (him : (ii : Int) < m) (hti : ∀ W, S W → W.cell? ⟨b, o + ii * 4 + 1, none⟩ = some (.int .i64 ti))  (_hl : decide (ti < ti) = false) {Q : Exit → Act → World → Prop} {s0 s1 s3 s4 s7 s11 s12 s13 s14 s15 s16 s17 s18 s19 s20 s21 s22 s23 s24 s25 s26 s27 s28 s29 s30 s31 s32 s33 s34 s35 s36 s37 s38 s39 s40 s41 s42 s43 s44 s45 s46 s47 s48 s49 s50 s51 s52 s53 s54 s55 s56 s57 s58 s59 s60 s61 s62 s63 s64 s65 s66 s112 s67 s68 s69 s70 s71 s72 s73 s74 s75 s76 s77 s78 s79 s80 s81 s82 s83 s84 s85 s86 s87 s88 s89 s90 s91 s92 s93 s94 s95 s96 s97 s98 s99 s100 s101 s102 s103 s104 s105 s106 s107 s108 s109 s110 s111 : Value} {W0 : World} (HL : Hid (S W0))
    (HQ : Hid (∀ (u : Nat → Value) (W : World), S W → Q .normal ⟨#[s0, s1, .pointer (some ⟨P, 0, none⟩), s3, s4, .int .i64 (ii : Int), .int .i64 0, s7, .int .i64 (ii : Int), .slice A 0 g, .int .i64 0, s11, s12, s13, s14, s15, s16, s17, s18, s19, s20, s21, s22, s23, s24, s25, s26, s27, s28, s29, s30, s31, s32, s33, s34, s35, s36, s37, s38, s39, s40, s41, s42, s43, s44, s45, s46, s47, s48, s49, s50, s51, s52, s53, s54, s55, s56, s57, s58, s59, s60, s61, s62, s63, s64, s65, s66, u 0, u 1, u 2, u 3, u 4, u 5, u 6, u 7, u 8, u 9, u 10, u 11, u 12, u 13, u 14, u 15, u 16, u 17, u 18, u 19, u 20, u 21, u 22, u 23, u 24, u 25, u 26, u 27, u 28, u 29, u 30, u 31, u 32, u 33, u 34, u 35, u 36, u 37, u 38, u 39, u 40, u 41, u 42, u 43, .bool false, s112], []⟩ W)) :
    Code.wp Try.prog ((Try.f9.body.bind (regionAt 11)).getD .skip) Q ⟨#[s0, s1, .pointer (some ⟨P, 0, none⟩), s3, s4, .int .i64 (ii : Int), .int .i64 0, s7, .int .i64 (ii : Int), .slice A 0 g, .int .i64 0, s11, s12, s13, s14, s15, s16, s17, s18, s19, s20, s21, s22, s23, s24, s25, s26, s27, s28, s29, s30, s31, s32, s33, s34, s35, s36, s37, s38, s39, s40, s41, s42, s43, s44, s45, s46, s47, s48, s49, s50, s51, s52, s53, s54, s55, s56, s57, s58, s59, s60, s61, s62, s63, s64, s65, s66, s67, s68, s69, s70, s71, s72, s73, s74, s75, s76, s77, s78, s79, s80, s81, s82, s83, s84, s85, s86, s87, s88, s89, s90, s91, s92, s93, s94, s95, s96, s97, s98, s99, s100, s101, s102, s103, s104, s105, s106, s107, s108, s109, s110, s111, s112], []⟩ W0 := by
  conv => arg 2; whnf
  refine wp_region_spec (by kernel_rfl) 45 (by kernel_rfl) (fun u => ⟨#[s0, s1, .pointer (some ⟨P, 0, none⟩), s3, s4, .int .i64 (ii : Int), .int .i64 0, s7, .int .i64 (ii : Int), .slice A 0 g, .int .i64 0, s11, s12, s13, s14, s15, s16, s17, s18, s19, s20, s21, s22, s23, s24, s25, s26, s27, s28, s29, s30, s31, s32, s33, s34, s35, s36, s37, s38, s39, s40, s41, s42, s43, s44, s45, s46, s47, s48, s49, s50, s51, s52, s53, s54, s55, s56, s57, s58, s59, s60, s61, s62, s63, s64, s65, s66, u 0, u 1, u 2, u 3, u 4, u 5, u 6, u 7, u 8, u 9, u 10, u 11, u 12, u 13, u 14, u 15, u 16, u 17, u 18, u 19, u 20, u 21, u 22, u 23, u 24, u 25, u 26, u 27, u 28, u 29, u 30, u 31, u 32, u 33, u 34, u 35, u 36, u 37, u 38, u 39, u 40, u 41, u 42, u 43, u 44, s112], []⟩) (fun i => if i = 0 then s67 else if i = 1 then s68 else if i = 2 then s69 else if i = 3 then s70 else if i = 4 then s71 else if i = 5 then s72 else if i = 6 then s73 else if i = 7 then s74 else if i = 8 then s75 else if i = 9 then s76 else if i = 10 then s77 else if i = 11 then s78 else if i = 12 then s79 else if i = 13 then s80 else if i = 14 then s81 else if i = 15 then s82 else if i = 16 then s83 else if i = 17 then s84 else if i = 18 then s85 else if i = 19 then s86 else if i = 20 then s87 else if i = 21 then s88 else if i = 22 then s89 else if i = 23 then s90 else if i = 24 then s91 else if i = 25 then s92 else if i = 26 then s93 else if i = 27 then s94 else if i = 28 then s95 else if i = 29 then s96 else if i = 30 then s97 else if i = 31 then s98 else if i = 32 then s99 else if i = 33 then s100 else if i = 34 then s101 else if i = 35 then s102 else if i = 36 then s103 else if i = 37 then s104 else if i = 38 then s105 else if i = 39 then s106 else if i = 40 then s107 else if i = 41 then s108 else if i = 42 then s109 else if i = 43 then s110 else if i = 44 then s111 else undef) (fun W => Hid (S W)) (thsR P b o m kc n g ii jj A ti tj p) (by kernel_rfl) (hon _ _ HL.out (Below.refl _ _).drew) (fun i v W W2 hi h hb => thsR_on P b o m kc n g ii jj A ti tj p i hi v W W2 h hb) (by decide +kernel) ?_ ?_
  · iterate 45 (refine all_succ ?_ ?_)
    · exact all_zero
    · intro u W hB _ hd _ K hK
      have HK := Lib.hid hK; clear hK
      refine wpOp_of rfl (by rfl) ?_
      go_simp
      exact k_of (HK.out (.int .i64 0) _ rfl hB (Below.refl _ _)) (by kernel_rfl)
    · intro u W hB _ hd _ K hK
      have HK := Lib.hid hK; clear hK
      have e0 : u 0 = .int .i64 0 := hd 0 (by decide +kernel)
      refine wpOp_of rfl (by rfl) ?_
      go_simp
      exact k_of (HK.out (.bool false) _ rfl hB (Below.refl _ _)) (by rw [← u1_eq e0]; kernel_rfl)
    · intro u W hB _ hd _ K hK
      have HK := Lib.hid hK; clear hK
      have e1 : u 1 = .bool false := hd 1 (by decide +kernel)
      refine wpOp_of rfl (by rfl) ?_
      go_simp
      exact k_of (HK.out (.bool false) _ rfl hB (Below.refl _ _)) (by rw [← u1_eq e1]; kernel_rfl)
    · intro u W hB _ hd _ K hK
      have HK := Lib.hid hK; clear hK
      have e2 : u 2 = .bool false := hd 2 (by decide +kernel)
      refine wpOp_of rfl (by rw [← u1_eq e2]; kernel_rfl) ?_
      go_simp
      exact k_of (HK.out (.int .i64 0) _ rfl hB (Below.refl _ _)) (by rw [← u1_eq e2]; kernel_rfl)
    · intro u W hB _ hd _ K hK
      have HK := Lib.hid hK; clear hK
      have e2 : u 2 = .bool false := hd 2 (by decide +kernel)
      have e3 : u 3 = .int .i64 0 := hd 3 (by decide +kernel)
      refine wpOp_of rfl (by rw [← u1_eq e2]; kernel_rfl) ?_
      go_simp
      exact k_of (HK.out (.bool false) _ rfl hB (Below.refl _ _)) (by rw [← u1_eq e2, ← u1_eq e3]; kernel_rfl)
    · intro u W hB _ hd _ K hK
      have HK := Lib.hid hK; clear hK
      have e2 : u 2 = .bool false := hd 2 (by decide +kernel)
      have e4 : u 4 = .bool false := hd 4 (by decide +kernel)
      refine wpOp_of rfl (by rw [← u1_eq e2]; kernel_rfl) ?_
      go_simp
      exact k_of (HK.out (.bool false) _ rfl hB (Below.refl _ _)) (by rw [← u1_eq e2, ← u1_eq e4]; kernel_rfl)
    · intro u W hB _ hd _ K hK
      have HK := Lib.hid hK; clear hK
      have e5 : u 5 = .bool false := hd 5 (by decide +kernel)
      refine wpOp_skip rfl (by rw [← u1_eq e5]; kernel_rfl) ?_
      exact k_of (HK.out undef _ rfl hB (Below.refl _ _)) (by rw [← u1_eq e5]; kernel_rfl)
    · intro u W hB _ hd _ K hK
      have HK := Lib.hid hK; clear hK
      have e5 : u 5 = .bool false := hd 5 (by decide +kernel)
      refine wpOp_skip rfl (by rw [← u1_eq e5]; kernel_rfl) ?_
      exact k_of (HK.out undef _ rfl hB (Below.refl _ _)) (by rw [← u1_eq e5]; kernel_rfl)
    · intro u W hB _ hd _ K hK
      have HK := Lib.hid hK; clear hK
      have e5 : u 5 = .bool false := hd 5 (by decide +kernel)
      refine wpOp_skip rfl (by rw [← u1_eq e5]; kernel_rfl) ?_
      exact k_of (HK.out undef _ rfl hB (Below.refl _ _)) (by rw [← u1_eq e5]; kernel_rfl)
    · intro u W hB _ hd _ K hK
      have HK := Lib.hid hK; clear hK
      have e2 : u 2 = .bool false := hd 2 (by decide +kernel)
      have e5 : u 5 = .bool false := hd 5 (by decide +kernel)
      have e8 : u 8 = undef := hd 8 (by decide +kernel)
      refine wpOp_of rfl (by rw [← u1_eq e2]; kernel_rfl) ?_
      go_simp
      exact k_of (HK.out (.bool false) _ rfl hB (Below.refl _ _)) (by rw [← u1_eq e2, ← u1_eq e5, ← u1_eq e8]; kernel_rfl)
    · intro u W hB _ hd _ K hK
      have HK := Lib.hid hK; clear hK
      have e2 : u 2 = .bool false := hd 2 (by decide +kernel)
      have e9 : u 9 = .bool false := hd 9 (by decide +kernel)
      refine wpOp_of rfl (by rfl) ?_
      go_simp
      exact k_of (HK.out (.bool false) _ rfl hB (Below.refl _ _)) (by rw [← u1_eq e2, ← u1_eq e9]; kernel_rfl)
    · intro u W hB _ hd _ K hK
      have HK := Lib.hid hK; clear hK
      have e10 : u 10 = .bool false := hd 10 (by decide +kernel)
      refine wpOp_of rfl (by rfl) ?_
      go_simp
      exact k_of (HK.out (.bool false) _ rfl hB (Below.refl _ _)) (by rw [← u1_eq e10]; kernel_rfl)
    · intro u W hB _ hd _ K hK
      have HK := Lib.hid hK; clear hK
      have e11 : u 11 = .bool false := hd 11 (by decide +kernel)
      refine wpOp_of rfl (by rw [← u1_eq e11]; kernel_rfl) ?_
      go_simp
      exact k_of (HK.out (.int .i64 0) _ rfl hB (Below.refl _ _)) (by rw [← u1_eq e11]; kernel_rfl)
    · intro u W hB _ hd _ K hK
      have HK := Lib.hid hK; clear hK
      have e11 : u 11 = .bool false := hd 11 (by decide +kernel)
      have e12 : u 12 = .int .i64 0 := hd 12 (by decide +kernel)
      refine wpOp_of rfl (by rw [← u1_eq e11]; kernel_rfl) ?_
      go_simp
      exact k_of (HK.out (.bool true) _ rfl hB (Below.refl _ _)) (by rw [← u1_eq e11, ← u1_eq e12]; kernel_rfl)
    · intro u W hB _ hd _ K hK
      have HK := Lib.hid hK; clear hK
      have e11 : u 11 = .bool false := hd 11 (by decide +kernel)
      have e13 : u 13 = .bool true := hd 13 (by decide +kernel)
      refine wpOp_of rfl (by rw [← u1_eq e11]; kernel_rfl) ?_
      go_simp
      exact k_of (HK.out (.bool true) _ rfl hB (Below.refl _ _)) (by rw [← u1_eq e11, ← u1_eq e13]; kernel_rfl)
    · intro u W hB _ hd _ K hK
      have HK := Lib.hid hK; clear hK
      have e14 : u 14 = .bool true := hd 14 (by decide +kernel)
      refine wpOp_of rfl (by rw [← u1_eq e14]; kernel_rfl) ?_
      go_simp
      exact k_of (HK.out (.int .i64 (ii : Int)) _ rfl hB (Below.refl _ _)) (by rw [← u1_eq e14]; kernel_rfl)
    · intro u W hB _ hd _ K hK
      have HK := Lib.hid hK; clear hK
      have e14 : u 14 = .bool true := hd 14 (by decide +kernel)
      refine wpOp_of rfl (by rw [← u1_eq e14]; kernel_rfl) ?_
      go_simp
      exact k_of (HK.out (.int .i64 (ii : Int)) _ rfl hB (Below.refl _ _)) (by rw [← u1_eq e14]; kernel_rfl)
    · intro u W hB _ hd _ K hK
      have HK := Lib.hid hK; clear hK
      have e14 : u 14 = .bool true := hd 14 (by decide +kernel)
      have e15 : u 15 = .int .i64 (ii : Int) := hd 15 (by decide +kernel)
      have e16 : u 16 = .int .i64 (ii : Int) := hd 16 (by decide +kernel)
      refine wpOp_of rfl (by rw [← u1_eq e14]; kernel_rfl) ?_
      go_simp
      exact k_of (HK.out (.bool true) _ rfl hB (Below.refl _ _)) (by rw [← u1_eq e14, ← u1_eq e15, ← u1_eq e16]; kernel_rfl)
    · intro u W hB _ hd _ K hK
      have HK := Lib.hid hK; clear hK
      have e14 : u 14 = .bool true := hd 14 (by decide +kernel)
      have e17 : u 17 = .bool true := hd 17 (by decide +kernel)
      refine wpOp_of rfl (by rw [← u1_eq e14]; kernel_rfl) ?_
      go_simp
      exact k_of (HK.out (.bool true) _ rfl hB (Below.refl _ _)) (by rw [← u1_eq e14, ← u1_eq e17]; kernel_rfl)
    · intro u W hB _ hd _ K hK
      have HK := Lib.hid hK; clear hK
      have e18 : u 18 = .bool true := hd 18 (by decide +kernel)
      refine wpOp_of rfl (by rw [← u1_eq e18]; kernel_rfl) ?_
      go_simp
      exact k_of (HK.out (.slice A 0 g) _ rfl hB (Below.refl _ _)) (by rw [← u1_eq e18]; kernel_rfl)
    · intro u W hB _ hd _ K hK
      have HK := Lib.hid hK; clear hK
      have e18 : u 18 = .bool true := hd 18 (by decide +kernel)
      have e19 : u 19 = .slice A 0 g := hd 19 (by decide +kernel)
      refine wpOp_of rfl (by rw [← u1_eq e18]; kernel_rfl) ?_
      go_simp
      exact k_of (HK.out (.int .i64 0) _ rfl hB (Below.refl _ _)) (by rw [← u1_eq e18, ← u1_eq e19]; kernel_rfl)
    · intro u W hB _ hd _ K hK
      have HK := Lib.hid hK; clear hK
      have e18 : u 18 = .bool true := hd 18 (by decide +kernel)
      have e20 : u 20 = .int .i64 0 := hd 20 (by decide +kernel)
      refine wpOp_of rfl (by rw [← u1_eq e18]; kernel_rfl) ?_
      go_simp
      exact k_of (HK.out (.bool false) _ rfl hB (Below.refl _ _)) (by rw [← u1_eq e18, ← u1_eq e20]; kernel_rfl)
    · intro u W hB _ hd _ K hK
      have HK := Lib.hid hK; clear hK
      have e14 : u 14 = .bool true := hd 14 (by decide +kernel)
      have e18 : u 18 = .bool true := hd 18 (by decide +kernel)
      have e21 : u 21 = .bool false := hd 21 (by decide +kernel)
      refine wpOp_of rfl (by rw [← u1_eq e14]; kernel_rfl) ?_
      go_simp
      exact k_of (HK.out (.bool false) _ rfl hB (Below.refl _ _)) (by rw [← u1_eq e14, ← u1_eq e18, ← u1_eq e21]; kernel_rfl)
    · intro u W hB _ hd _ K hK
      have HK := Lib.hid hK; clear hK
      have e14 : u 14 = .bool true := hd 14 (by decide +kernel)
      have e22 : u 22 = .bool false := hd 22 (by decide +kernel)
      refine wpOp_of rfl (by rw [← u1_eq e14]; kernel_rfl) ?_
      go_simp
      exact k_of (HK.out (.bool false) _ rfl hB (Below.refl _ _)) (by rw [← u1_eq e14, ← u1_eq e22]; kernel_rfl)
    · intro u W hB _ hd _ K hK
      have HK := Lib.hid hK; clear hK
      have e23 : u 23 = .bool false := hd 23 (by decide +kernel)
      refine wpOp_of rfl (by rw [← u1_eq e23]; kernel_rfl) ?_
      go_simp
      exact k_of (HK.out (.pointer (some ⟨P, 0, none⟩)) _ rfl hB (Below.refl _ _)) (by rw [← u1_eq e23]; kernel_rfl)
    · intro u W hB _ hd _ K hK
      have HK := Lib.hid hK; clear hK
      have e23 : u 23 = .bool false := hd 23 (by decide +kernel)
      have e24 : u 24 = .pointer (some ⟨P, 0, none⟩) := hd 24 (by decide +kernel)
      refine wpOp_of rfl (by rw [← u1_eq e23]; kernel_rfl) ?_
      have z0 := (hP W hB.out).cell 0
      go_simp
      exact k_of (HK.out (.slice (some ⟨b, o, none⟩) m kc) _ rfl hB (Below.refl _ _)) (by rw [← u1_eq e23, ← u1_eq e24]; kernel_rfl)
    · intro u W hB _ hd _ K hK
      have HK := Lib.hid hK; clear hK
      have e23 : u 23 = .bool false := hd 23 (by decide +kernel)
      refine wpOp_of rfl (by rw [← u1_eq e23]; kernel_rfl) ?_
      go_simp
      exact k_of (HK.out (.int .i64 (ii : Int)) _ rfl hB (Below.refl _ _)) (by rw [← u1_eq e23]; kernel_rfl)
    · intro u W hB _ hd _ K hK
      have HK := Lib.hid hK; clear hK
      have e23 : u 23 = .bool false := hd 23 (by decide +kernel)
      have e25 : u 25 = .slice (some ⟨b, o, none⟩) m kc := hd 25 (by decide +kernel)
      have e26 : u 26 = .int .i64 (ii : Int) := hd 26 (by decide +kernel)
      refine wpOp_of rfl (by rw [← u1_eq e23]; kernel_rfl) ?_
      go_simp
      exact k_of (HK.out (.pointer (some ⟨b, o + ii * 4, none⟩)) _ rfl hB (Below.refl _ _)) (by rw [← u1_eq e23, ← u1_eq e25, ← u1_eq e26]; kernel_rfl)
    · intro u W hB _ hd _ K hK
      have HK := Lib.hid hK; clear hK
      have e23 : u 23 = .bool false := hd 23 (by decide +kernel)
      have e27 : u 27 = .pointer (some ⟨b, o + ii * 4, none⟩) := hd 27 (by decide +kernel)
      refine wpOp_of rfl (by rw [← u1_eq e23]; kernel_rfl) ?_
      go_simp
      exact k_of (HK.out (.pointer (some ⟨b, o + ii * 4 + 1, none⟩)) _ rfl hB (Below.refl _ _)) (by rw [← u1_eq e23, ← u1_eq e27]; kernel_rfl)
    · intro u W hB _ hd _ K hK
      have HK := Lib.hid hK; clear hK
      have e23 : u 23 = .bool false := hd 23 (by decide +kernel)
      have e28 : u 28 = .pointer (some ⟨b, o + ii * 4 + 1, none⟩) := hd 28 (by decide +kernel)
      refine wpOp_of rfl (by rw [← u1_eq e23]; kernel_rfl) ?_
      have d0 := hti W hB.out
      go_simp
      exact k_of (HK.out (.int .i64 ti) _ rfl hB (Below.refl _ _)) (by rw [← u1_eq e23, ← u1_eq e28]; kernel_rfl)
    · intro u W hB _ hd _ K hK
      have HK := Lib.hid hK; clear hK
      have e23 : u 23 = .bool false := hd 23 (by decide +kernel)
      refine wpOp_of rfl (by rw [← u1_eq e23]; kernel_rfl) ?_
      go_simp
      exact k_of (HK.out (.pointer (some ⟨P, 0, none⟩)) _ rfl hB (Below.refl _ _)) (by rw [← u1_eq e23]; kernel_rfl)
    · intro u W hB _ hd _ K hK
      have HK := Lib.hid hK; clear hK
      have e23 : u 23 = .bool false := hd 23 (by decide +kernel)
      have e30 : u 30 = .pointer (some ⟨P, 0, none⟩) := hd 30 (by decide +kernel)
      refine wpOp_of rfl (by rw [← u1_eq e23]; kernel_rfl) ?_
      have z0 := (hP W hB.out).cell 0
      go_simp
      exact k_of (HK.out (.slice (some ⟨b, o, none⟩) m kc) _ rfl hB (Below.refl _ _)) (by rw [← u1_eq e23, ← u1_eq e30]; kernel_rfl)
    · intro u W hB _ hd _ K hK
      have HK := Lib.hid hK; clear hK
      have e23 : u 23 = .bool false := hd 23 (by decide +kernel)
      refine wpOp_of rfl (by rw [← u1_eq e23]; kernel_rfl) ?_
      go_simp
      exact k_of (HK.out (.int .i64 (ii : Int)) _ rfl hB (Below.refl _ _)) (by rw [← u1_eq e23]; kernel_rfl)
    · intro u W hB _ hd _ K hK
      have HK := Lib.hid hK; clear hK
      have e23 : u 23 = .bool false := hd 23 (by decide +kernel)
      have e31 : u 31 = .slice (some ⟨b, o, none⟩) m kc := hd 31 (by decide +kernel)
      have e32 : u 32 = .int .i64 (ii : Int) := hd 32 (by decide +kernel)
      refine wpOp_of rfl (by rw [← u1_eq e23]; kernel_rfl) ?_
      go_simp
      exact k_of (HK.out (.pointer (some ⟨b, o + ii * 4, none⟩)) _ rfl hB (Below.refl _ _)) (by rw [← u1_eq e23, ← u1_eq e31, ← u1_eq e32]; kernel_rfl)
    · intro u W hB _ hd _ K hK
      have HK := Lib.hid hK; clear hK
      have e23 : u 23 = .bool false := hd 23 (by decide +kernel)
      have e33 : u 33 = .pointer (some ⟨b, o + ii * 4, none⟩) := hd 33 (by decide +kernel)
      refine wpOp_of rfl (by rw [← u1_eq e23]; kernel_rfl) ?_
      go_simp
      exact k_of (HK.out (.pointer (some ⟨b, o + ii * 4 + 1, none⟩)) _ rfl hB (Below.refl _ _)) (by rw [← u1_eq e23, ← u1_eq e33]; kernel_rfl)
    · intro u W hB _ hd _ K hK
      have HK := Lib.hid hK; clear hK
      have e23 : u 23 = .bool false := hd 23 (by decide +kernel)
      have e34 : u 34 = .pointer (some ⟨b, o + ii * 4 + 1, none⟩) := hd 34 (by decide +kernel)
      refine wpOp_of rfl (by rw [← u1_eq e23]; kernel_rfl) ?_
      have d0 := hti W hB.out
      go_simp
      exact k_of (HK.out (.int .i64 ti) _ rfl hB (Below.refl _ _)) (by rw [← u1_eq e23, ← u1_eq e34]; kernel_rfl)
    · intro u W hB _ hd _ K hK
      have HK := Lib.hid hK; clear hK
      have e23 : u 23 = .bool false := hd 23 (by decide +kernel)
      have e29 : u 29 = .int .i64 ti := hd 29 (by decide +kernel)
      have e35 : u 35 = .int .i64 ti := hd 35 (by decide +kernel)
      refine wpOp_of rfl (by rw [← u1_eq e23]; kernel_rfl) ?_
      go_simp
      exact k_of (HK.out (.bool false) _ rfl hB (Below.refl _ _)) (by rw [← u1_eq e23, ← u1_eq e29, ← u1_eq e35]; kernel_rfl)
    · intro u W hB _ hd _ K hK
      have HK := Lib.hid hK; clear hK
      have e23 : u 23 = .bool false := hd 23 (by decide +kernel)
      have e36 : u 36 = .bool false := hd 36 (by decide +kernel)
      refine wpOp_of rfl (by rw [← u1_eq e23]; kernel_rfl) ?_
      go_simp
      exact k_of (HK.out (.bool false) _ rfl hB (Below.refl _ _)) (by rw [← u1_eq e23, ← u1_eq e36]; kernel_rfl)
    · intro u W hB _ hd _ K hK
      have HK := Lib.hid hK; clear hK
      have e37 : u 37 = .bool false := hd 37 (by decide +kernel)
      refine wpOp_skip rfl (by rw [← u1_eq e37]; kernel_rfl) ?_
      exact k_of (HK.out undef _ rfl hB (Below.refl _ _)) (by rw [← u1_eq e37]; kernel_rfl)
    · intro u W hB _ hd _ K hK
      have HK := Lib.hid hK; clear hK
      have e37 : u 37 = .bool false := hd 37 (by decide +kernel)
      refine wpOp_skip rfl (by rw [← u1_eq e37]; kernel_rfl) ?_
      exact k_of (HK.out undef _ rfl hB (Below.refl _ _)) (by rw [← u1_eq e37]; kernel_rfl)
    · intro u W hB _ hd _ K hK
      have HK := Lib.hid hK; clear hK
      have e37 : u 37 = .bool false := hd 37 (by decide +kernel)
      refine wpOp_skip rfl (by rw [← u1_eq e37]; kernel_rfl) ?_
      exact k_of (HK.out undef _ rfl hB (Below.refl _ _)) (by rw [← u1_eq e37]; kernel_rfl)
    · intro u W hB _ hd _ K hK
      have HK := Lib.hid hK; clear hK
      have e23 : u 23 = .bool false := hd 23 (by decide +kernel)
      have e37 : u 37 = .bool false := hd 37 (by decide +kernel)
      have e40 : u 40 = undef := hd 40 (by decide +kernel)
      refine wpOp_of rfl (by rw [← u1_eq e23]; kernel_rfl) ?_
      go_simp
      exact k_of (HK.out (.bool false) _ rfl hB (Below.refl _ _)) (by rw [← u1_eq e23, ← u1_eq e37, ← u1_eq e40]; kernel_rfl)
    · intro u W hB _ hd _ K hK
      have HK := Lib.hid hK; clear hK
      have e14 : u 14 = .bool true := hd 14 (by decide +kernel)
      have e23 : u 23 = .bool false := hd 23 (by decide +kernel)
      have e41 : u 41 = .bool false := hd 41 (by decide +kernel)
      refine wpOp_of rfl (by rw [← u1_eq e14]; kernel_rfl) ?_
      go_simp
      exact k_of (HK.out (.bool false) _ rfl hB (Below.refl _ _)) (by rw [← u1_eq e14, ← u1_eq e23, ← u1_eq e41]; kernel_rfl)
    · intro u W hB _ hd _ K hK
      have HK := Lib.hid hK; clear hK
      have e11 : u 11 = .bool false := hd 11 (by decide +kernel)
      have e14 : u 14 = .bool true := hd 14 (by decide +kernel)
      have e42 : u 42 = .bool false := hd 42 (by decide +kernel)
      refine wpOp_of rfl (by rw [← u1_eq e11]; kernel_rfl) ?_
      go_simp
      exact k_of (HK.out (.bool false) _ rfl hB (Below.refl _ _)) (by rw [← u1_eq e11, ← u1_eq e14, ← u1_eq e42]; kernel_rfl)
    · intro u W hB _ hd _ K hK
      have HK := Lib.hid hK; clear hK
      have e11 : u 11 = .bool false := hd 11 (by decide +kernel)
      have e43 : u 43 = .bool false := hd 43 (by decide +kernel)
      refine wpOp_of rfl (by rfl) ?_
      go_simp
      exact k_of (HK.out (.bool false) _ rfl hB (Below.refl _ _)) (by rw [← u1_eq e11, ← u1_eq e43]; kernel_rfl)
  · intro u W hB hd
    have e44 : u 44 = .bool false := hd 44 (by decide)
    exact k_of (HQ.out u W hB.out) (by simp only [e44])

/-- What each operation leaves. -/
def thnR (P b o m kc _n _g ii jj : Nat) (_A : Option Addr) (ti tj : Int) (_p : Sp) : Nat → Value → World → Prop
  | 0, v, _ => v = .int .i64 0
  | 1, v, _ => v = .bool false
  | 2, v, _ => v = .bool false
  | 3, v, _ => v = .int .i64 0
  | 4, v, _ => v = .bool false
  | 5, v, _ => v = .bool false
  | 6, v, _ => v = undef
  | 7, v, _ => v = undef
  | 8, v, _ => v = undef
  | 9, v, _ => v = .bool false
  | 10, v, _ => v = .bool false
  | 11, v, _ => v = .bool false
  | 12, v, _ => v = .int .i64 0
  | 13, v, _ => v = .bool true
  | 14, v, _ => v = .bool true
  | 15, v, _ => v = .int .i64 (ii : Int)
  | 16, v, _ => v = .int .i64 (jj : Int)
  | 17, v, _ => v = .bool false
  | 18, v, _ => v = .bool false
  | 19, v, _ => v = undef
  | 20, v, _ => v = undef
  | 21, v, _ => v = undef
  | 22, v, _ => v = .bool false
  | 23, v, _ => v = .bool false
  | 24, v, _ => v = .pointer (some ⟨P, 0, none⟩)
  | 25, v, _ => v = .slice (some ⟨b, o, none⟩) m kc
  | 26, v, _ => v = .int .i64 (ii : Int)
  | 27, v, _ => v = .pointer (some ⟨b, o + ii * 4, none⟩)
  | 28, v, _ => v = .pointer (some ⟨b, o + ii * 4 + 1, none⟩)
  | 29, v, _ => v = .int .i64 ti
  | 30, v, _ => v = .pointer (some ⟨P, 0, none⟩)
  | 31, v, _ => v = .slice (some ⟨b, o, none⟩) m kc
  | 32, v, _ => v = .int .i64 (jj : Int)
  | 33, v, _ => v = .pointer (some ⟨b, o + jj * 4, none⟩)
  | 34, v, _ => v = .pointer (some ⟨b, o + jj * 4 + 1, none⟩)
  | 35, v, _ => v = .int .i64 tj
  | 36, v, _ => v = .bool false
  | 37, v, _ => v = .bool false
  | 38, v, _ => v = undef
  | 39, v, _ => v = undef
  | 40, v, _ => v = undef
  | 41, v, _ => v = .bool false
  | 42, v, _ => v = .bool false
  | 43, v, _ => v = .bool false
  | 44, v, _ => v = .bool false
  | _, _, _ => True
theorem thnR_on (P b o m kc n g ii jj : Nat) (A : Option Addr) (ti tj : Int) (p : Sp) : ∀ i, i < 45 → ∀ v W W', thnR P b o m kc n g ii jj A ti tj p i v W → Below W.heap.size W W' → thnR P b o m kc n g ii jj A ti tj p i v W' := by
  iterate 45 (refine all_succ ?_ ?_)
  · exact all_zero
  · exact fun _ _ _ h _ => h
  · exact fun _ _ _ h _ => h
  · exact fun _ _ _ h _ => h
  · exact fun _ _ _ h _ => h
  · exact fun _ _ _ h _ => h
  · exact fun _ _ _ h _ => h
  · exact fun _ _ _ h _ => h
  · exact fun _ _ _ h _ => h
  · exact fun _ _ _ h _ => h
  · exact fun _ _ _ h _ => h
  · exact fun _ _ _ h _ => h
  · exact fun _ _ _ h _ => h
  · exact fun _ _ _ h _ => h
  · exact fun _ _ _ h _ => h
  · exact fun _ _ _ h _ => h
  · exact fun _ _ _ h _ => h
  · exact fun _ _ _ h _ => h
  · exact fun _ _ _ h _ => h
  · exact fun _ _ _ h _ => h
  · exact fun _ _ _ h _ => h
  · exact fun _ _ _ h _ => h
  · exact fun _ _ _ h _ => h
  · exact fun _ _ _ h _ => h
  · exact fun _ _ _ h _ => h
  · exact fun _ _ _ h _ => h
  · exact fun _ _ _ h _ => h
  · exact fun _ _ _ h _ => h
  · exact fun _ _ _ h _ => h
  · exact fun _ _ _ h _ => h
  · exact fun _ _ _ h _ => h
  · exact fun _ _ _ h _ => h
  · exact fun _ _ _ h _ => h
  · exact fun _ _ _ h _ => h
  · exact fun _ _ _ h _ => h
  · exact fun _ _ _ h _ => h
  · exact fun _ _ _ h _ => h
  · exact fun _ _ _ h _ => h
  · exact fun _ _ _ h _ => h
  · exact fun _ _ _ h _ => h
  · exact fun _ _ _ h _ => h
  · exact fun _ _ _ h _ => h
  · exact fun _ _ _ h _ => h
  · exact fun _ _ _ h _ => h
  · exact fun _ _ _ h _ => h
  · exact fun _ _ _ h _ => h
set_option maxRecDepth 100000 in
set_option maxHeartbeats 8000000 in
theorem thn_region {S : World → Prop} (hon : ∀ W W', S W → Below W.heap.size W W' → S W') {P b o m kc n g ii jj : Nat} {A : Option Addr} {ti tj : Int} {p : Sp} (hP : ∀ W, S W → Blk W P 27 #[.slice (some ⟨b, o, none⟩) m kc, .slice p.xa p.s.xs.length p.xc, .int .i64 p.s.flo, .int .i64 p.s.fhi, .int .i64 p.s.plo, .int .i64 p.s.phi]) (him : (ii : Int) < m) (hjm : (jj : Int) < m) (hti : ∀ W, S W → W.cell? ⟨b, o + ii * 4 + 1, none⟩ = some (.int .i64 ti)) (htj : ∀ W, S W → W.cell? ⟨b, o + jj * 4 + 1, none⟩ = some (.int .i64 tj)) (he : ((ii : Int) == (jj : Int)) = false) (hl : decide (ti < tj) = false) {Q : Exit → Act → World → Prop} {s0 s1 s3 s4 s7 s11 s12 s13 s14 s15 s16 s17 s18 s19 s20 s21 s22 s23 s24 s25 s26 s27 s28 s29 s30 s31 s32 s33 s34 s35 s36 s37 s38 s39 s40 s41 s42 s43 s44 s45 s46 s47 s48 s49 s50 s51 s52 s53 s54 s55 s56 s57 s58 s59 s60 s61 s62 s63 s64 s65 s66 s112 s67 s68 s69 s70 s71 s72 s73 s74 s75 s76 s77 s78 s79 s80 s81 s82 s83 s84 s85 s86 s87 s88 s89 s90 s91 s92 s93 s94 s95 s96 s97 s98 s99 s100 s101 s102 s103 s104 s105 s106 s107 s108 s109 s110 s111 : Value} {W0 : World} (HL : Hid (S W0))
    (HQ : Hid (∀ (u : Nat → Value) (W : World), S W → Q .normal ⟨#[s0, s1, .pointer (some ⟨P, 0, none⟩), s3, s4, .int .i64 (jj : Int), .int .i64 0, s7, .int .i64 (ii : Int), .slice A n g, .int .i64 0, s11, s12, s13, s14, s15, s16, s17, s18, s19, s20, s21, s22, s23, s24, s25, s26, s27, s28, s29, s30, s31, s32, s33, s34, s35, s36, s37, s38, s39, s40, s41, s42, s43, s44, s45, s46, s47, s48, s49, s50, s51, s52, s53, s54, s55, s56, s57, s58, s59, s60, s61, s62, s63, s64, s65, s66, u 0, u 1, u 2, u 3, u 4, u 5, u 6, u 7, u 8, u 9, u 10, u 11, u 12, u 13, u 14, u 15, u 16, u 17, u 18, u 19, u 20, u 21, u 22, u 23, u 24, u 25, u 26, u 27, u 28, u 29, u 30, u 31, u 32, u 33, u 34, u 35, u 36, u 37, u 38, u 39, u 40, u 41, u 42, u 43, .bool false, s112], []⟩ W)) :
    Code.wp Try.prog ((Try.f9.body.bind (regionAt 11)).getD .skip) Q ⟨#[s0, s1, .pointer (some ⟨P, 0, none⟩), s3, s4, .int .i64 (jj : Int), .int .i64 0, s7, .int .i64 (ii : Int), .slice A n g, .int .i64 0, s11, s12, s13, s14, s15, s16, s17, s18, s19, s20, s21, s22, s23, s24, s25, s26, s27, s28, s29, s30, s31, s32, s33, s34, s35, s36, s37, s38, s39, s40, s41, s42, s43, s44, s45, s46, s47, s48, s49, s50, s51, s52, s53, s54, s55, s56, s57, s58, s59, s60, s61, s62, s63, s64, s65, s66, s67, s68, s69, s70, s71, s72, s73, s74, s75, s76, s77, s78, s79, s80, s81, s82, s83, s84, s85, s86, s87, s88, s89, s90, s91, s92, s93, s94, s95, s96, s97, s98, s99, s100, s101, s102, s103, s104, s105, s106, s107, s108, s109, s110, s111, s112], []⟩ W0 := by
  conv => arg 2; whnf
  refine wp_region_spec (by kernel_rfl) 45 (by kernel_rfl) (fun u => ⟨#[s0, s1, .pointer (some ⟨P, 0, none⟩), s3, s4, .int .i64 (jj : Int), .int .i64 0, s7, .int .i64 (ii : Int), .slice A n g, .int .i64 0, s11, s12, s13, s14, s15, s16, s17, s18, s19, s20, s21, s22, s23, s24, s25, s26, s27, s28, s29, s30, s31, s32, s33, s34, s35, s36, s37, s38, s39, s40, s41, s42, s43, s44, s45, s46, s47, s48, s49, s50, s51, s52, s53, s54, s55, s56, s57, s58, s59, s60, s61, s62, s63, s64, s65, s66, u 0, u 1, u 2, u 3, u 4, u 5, u 6, u 7, u 8, u 9, u 10, u 11, u 12, u 13, u 14, u 15, u 16, u 17, u 18, u 19, u 20, u 21, u 22, u 23, u 24, u 25, u 26, u 27, u 28, u 29, u 30, u 31, u 32, u 33, u 34, u 35, u 36, u 37, u 38, u 39, u 40, u 41, u 42, u 43, u 44, s112], []⟩) (fun i => if i = 0 then s67 else if i = 1 then s68 else if i = 2 then s69 else if i = 3 then s70 else if i = 4 then s71 else if i = 5 then s72 else if i = 6 then s73 else if i = 7 then s74 else if i = 8 then s75 else if i = 9 then s76 else if i = 10 then s77 else if i = 11 then s78 else if i = 12 then s79 else if i = 13 then s80 else if i = 14 then s81 else if i = 15 then s82 else if i = 16 then s83 else if i = 17 then s84 else if i = 18 then s85 else if i = 19 then s86 else if i = 20 then s87 else if i = 21 then s88 else if i = 22 then s89 else if i = 23 then s90 else if i = 24 then s91 else if i = 25 then s92 else if i = 26 then s93 else if i = 27 then s94 else if i = 28 then s95 else if i = 29 then s96 else if i = 30 then s97 else if i = 31 then s98 else if i = 32 then s99 else if i = 33 then s100 else if i = 34 then s101 else if i = 35 then s102 else if i = 36 then s103 else if i = 37 then s104 else if i = 38 then s105 else if i = 39 then s106 else if i = 40 then s107 else if i = 41 then s108 else if i = 42 then s109 else if i = 43 then s110 else if i = 44 then s111 else undef) (fun W => Hid (S W)) (thnR P b o m kc n g ii jj A ti tj p) (by kernel_rfl) (hon _ _ HL.out (Below.refl _ _).drew) (fun i v W W2 hi h hb => thnR_on P b o m kc n g ii jj A ti tj p i hi v W W2 h hb) (by decide +kernel) ?_ ?_
  · iterate 45 (refine all_succ ?_ ?_)
    · exact all_zero
    · intro u W hB _ hd _ K hK
      have HK := Lib.hid hK; clear hK
      refine wpOp_of rfl (by rfl) ?_
      go_simp
      exact k_of (HK.out (.int .i64 0) _ rfl hB (Below.refl _ _)) (by kernel_rfl)
    · intro u W hB _ hd _ K hK
      have HK := Lib.hid hK; clear hK
      have e0 : u 0 = .int .i64 0 := hd 0 (by decide +kernel)
      refine wpOp_of rfl (by rfl) ?_
      go_simp
      exact k_of (HK.out (.bool false) _ rfl hB (Below.refl _ _)) (by rw [← u1_eq e0]; kernel_rfl)
    · intro u W hB _ hd _ K hK
      have HK := Lib.hid hK; clear hK
      have e1 : u 1 = .bool false := hd 1 (by decide +kernel)
      refine wpOp_of rfl (by rfl) ?_
      go_simp
      exact k_of (HK.out (.bool false) _ rfl hB (Below.refl _ _)) (by rw [← u1_eq e1]; kernel_rfl)
    · intro u W hB _ hd _ K hK
      have HK := Lib.hid hK; clear hK
      have e2 : u 2 = .bool false := hd 2 (by decide +kernel)
      refine wpOp_of rfl (by rw [← u1_eq e2]; kernel_rfl) ?_
      go_simp
      exact k_of (HK.out (.int .i64 0) _ rfl hB (Below.refl _ _)) (by rw [← u1_eq e2]; kernel_rfl)
    · intro u W hB _ hd _ K hK
      have HK := Lib.hid hK; clear hK
      have e2 : u 2 = .bool false := hd 2 (by decide +kernel)
      have e3 : u 3 = .int .i64 0 := hd 3 (by decide +kernel)
      refine wpOp_of rfl (by rw [← u1_eq e2]; kernel_rfl) ?_
      go_simp
      exact k_of (HK.out (.bool false) _ rfl hB (Below.refl _ _)) (by rw [← u1_eq e2, ← u1_eq e3]; kernel_rfl)
    · intro u W hB _ hd _ K hK
      have HK := Lib.hid hK; clear hK
      have e2 : u 2 = .bool false := hd 2 (by decide +kernel)
      have e4 : u 4 = .bool false := hd 4 (by decide +kernel)
      refine wpOp_of rfl (by rw [← u1_eq e2]; kernel_rfl) ?_
      go_simp
      exact k_of (HK.out (.bool false) _ rfl hB (Below.refl _ _)) (by rw [← u1_eq e2, ← u1_eq e4]; kernel_rfl)
    · intro u W hB _ hd _ K hK
      have HK := Lib.hid hK; clear hK
      have e5 : u 5 = .bool false := hd 5 (by decide +kernel)
      refine wpOp_skip rfl (by rw [← u1_eq e5]; kernel_rfl) ?_
      exact k_of (HK.out undef _ rfl hB (Below.refl _ _)) (by rw [← u1_eq e5]; kernel_rfl)
    · intro u W hB _ hd _ K hK
      have HK := Lib.hid hK; clear hK
      have e5 : u 5 = .bool false := hd 5 (by decide +kernel)
      refine wpOp_skip rfl (by rw [← u1_eq e5]; kernel_rfl) ?_
      exact k_of (HK.out undef _ rfl hB (Below.refl _ _)) (by rw [← u1_eq e5]; kernel_rfl)
    · intro u W hB _ hd _ K hK
      have HK := Lib.hid hK; clear hK
      have e5 : u 5 = .bool false := hd 5 (by decide +kernel)
      refine wpOp_skip rfl (by rw [← u1_eq e5]; kernel_rfl) ?_
      exact k_of (HK.out undef _ rfl hB (Below.refl _ _)) (by rw [← u1_eq e5]; kernel_rfl)
    · intro u W hB _ hd _ K hK
      have HK := Lib.hid hK; clear hK
      have e2 : u 2 = .bool false := hd 2 (by decide +kernel)
      have e5 : u 5 = .bool false := hd 5 (by decide +kernel)
      have e8 : u 8 = undef := hd 8 (by decide +kernel)
      refine wpOp_of rfl (by rw [← u1_eq e2]; kernel_rfl) ?_
      go_simp
      exact k_of (HK.out (.bool false) _ rfl hB (Below.refl _ _)) (by rw [← u1_eq e2, ← u1_eq e5, ← u1_eq e8]; kernel_rfl)
    · intro u W hB _ hd _ K hK
      have HK := Lib.hid hK; clear hK
      have e2 : u 2 = .bool false := hd 2 (by decide +kernel)
      have e9 : u 9 = .bool false := hd 9 (by decide +kernel)
      refine wpOp_of rfl (by rfl) ?_
      go_simp
      exact k_of (HK.out (.bool false) _ rfl hB (Below.refl _ _)) (by rw [← u1_eq e2, ← u1_eq e9]; kernel_rfl)
    · intro u W hB _ hd _ K hK
      have HK := Lib.hid hK; clear hK
      have e10 : u 10 = .bool false := hd 10 (by decide +kernel)
      refine wpOp_of rfl (by rfl) ?_
      go_simp
      exact k_of (HK.out (.bool false) _ rfl hB (Below.refl _ _)) (by rw [← u1_eq e10]; kernel_rfl)
    · intro u W hB _ hd _ K hK
      have HK := Lib.hid hK; clear hK
      have e11 : u 11 = .bool false := hd 11 (by decide +kernel)
      refine wpOp_of rfl (by rw [← u1_eq e11]; kernel_rfl) ?_
      go_simp
      exact k_of (HK.out (.int .i64 0) _ rfl hB (Below.refl _ _)) (by rw [← u1_eq e11]; kernel_rfl)
    · intro u W hB _ hd _ K hK
      have HK := Lib.hid hK; clear hK
      have e11 : u 11 = .bool false := hd 11 (by decide +kernel)
      have e12 : u 12 = .int .i64 0 := hd 12 (by decide +kernel)
      refine wpOp_of rfl (by rw [← u1_eq e11]; kernel_rfl) ?_
      go_simp
      exact k_of (HK.out (.bool true) _ rfl hB (Below.refl _ _)) (by rw [← u1_eq e11, ← u1_eq e12]; kernel_rfl)
    · intro u W hB _ hd _ K hK
      have HK := Lib.hid hK; clear hK
      have e11 : u 11 = .bool false := hd 11 (by decide +kernel)
      have e13 : u 13 = .bool true := hd 13 (by decide +kernel)
      refine wpOp_of rfl (by rw [← u1_eq e11]; kernel_rfl) ?_
      go_simp
      exact k_of (HK.out (.bool true) _ rfl hB (Below.refl _ _)) (by rw [← u1_eq e11, ← u1_eq e13]; kernel_rfl)
    · intro u W hB _ hd _ K hK
      have HK := Lib.hid hK; clear hK
      have e14 : u 14 = .bool true := hd 14 (by decide +kernel)
      refine wpOp_of rfl (by rw [← u1_eq e14]; kernel_rfl) ?_
      go_simp
      exact k_of (HK.out (.int .i64 (ii : Int)) _ rfl hB (Below.refl _ _)) (by rw [← u1_eq e14]; kernel_rfl)
    · intro u W hB _ hd _ K hK
      have HK := Lib.hid hK; clear hK
      have e14 : u 14 = .bool true := hd 14 (by decide +kernel)
      refine wpOp_of rfl (by rw [← u1_eq e14]; kernel_rfl) ?_
      go_simp
      exact k_of (HK.out (.int .i64 (jj : Int)) _ rfl hB (Below.refl _ _)) (by rw [← u1_eq e14]; kernel_rfl)
    · intro u W hB _ hd _ K hK
      have HK := Lib.hid hK; clear hK
      have e14 : u 14 = .bool true := hd 14 (by decide +kernel)
      have e15 : u 15 = .int .i64 (ii : Int) := hd 15 (by decide +kernel)
      have e16 : u 16 = .int .i64 (jj : Int) := hd 16 (by decide +kernel)
      refine wpOp_of rfl (by rw [← u1_eq e14]; kernel_rfl) ?_
      go_simp
      exact k_of (HK.out (.bool false) _ rfl hB (Below.refl _ _)) (by rw [← u1_eq e14, ← u1_eq e15, ← u1_eq e16]; kernel_rfl)
    · intro u W hB _ hd _ K hK
      have HK := Lib.hid hK; clear hK
      have e14 : u 14 = .bool true := hd 14 (by decide +kernel)
      have e17 : u 17 = .bool false := hd 17 (by decide +kernel)
      refine wpOp_of rfl (by rw [← u1_eq e14]; kernel_rfl) ?_
      go_simp
      exact k_of (HK.out (.bool false) _ rfl hB (Below.refl _ _)) (by rw [← u1_eq e14, ← u1_eq e17]; kernel_rfl)
    · intro u W hB _ hd _ K hK
      have HK := Lib.hid hK; clear hK
      have e18 : u 18 = .bool false := hd 18 (by decide +kernel)
      refine wpOp_skip rfl (by rw [← u1_eq e18]; kernel_rfl) ?_
      exact k_of (HK.out undef _ rfl hB (Below.refl _ _)) (by rw [← u1_eq e18]; kernel_rfl)
    · intro u W hB _ hd _ K hK
      have HK := Lib.hid hK; clear hK
      have e18 : u 18 = .bool false := hd 18 (by decide +kernel)
      refine wpOp_skip rfl (by rw [← u1_eq e18]; kernel_rfl) ?_
      exact k_of (HK.out undef _ rfl hB (Below.refl _ _)) (by rw [← u1_eq e18]; kernel_rfl)
    · intro u W hB _ hd _ K hK
      have HK := Lib.hid hK; clear hK
      have e18 : u 18 = .bool false := hd 18 (by decide +kernel)
      refine wpOp_skip rfl (by rw [← u1_eq e18]; kernel_rfl) ?_
      exact k_of (HK.out undef _ rfl hB (Below.refl _ _)) (by rw [← u1_eq e18]; kernel_rfl)
    · intro u W hB _ hd _ K hK
      have HK := Lib.hid hK; clear hK
      have e14 : u 14 = .bool true := hd 14 (by decide +kernel)
      have e18 : u 18 = .bool false := hd 18 (by decide +kernel)
      have e21 : u 21 = undef := hd 21 (by decide +kernel)
      refine wpOp_of rfl (by rw [← u1_eq e14]; kernel_rfl) ?_
      go_simp
      exact k_of (HK.out (.bool false) _ rfl hB (Below.refl _ _)) (by rw [← u1_eq e14, ← u1_eq e18, ← u1_eq e21]; kernel_rfl)
    · intro u W hB _ hd _ K hK
      have HK := Lib.hid hK; clear hK
      have e14 : u 14 = .bool true := hd 14 (by decide +kernel)
      have e22 : u 22 = .bool false := hd 22 (by decide +kernel)
      refine wpOp_of rfl (by rw [← u1_eq e14]; kernel_rfl) ?_
      go_simp
      exact k_of (HK.out (.bool false) _ rfl hB (Below.refl _ _)) (by rw [← u1_eq e14, ← u1_eq e22]; kernel_rfl)
    · intro u W hB _ hd _ K hK
      have HK := Lib.hid hK; clear hK
      have e23 : u 23 = .bool false := hd 23 (by decide +kernel)
      refine wpOp_of rfl (by rw [← u1_eq e23]; kernel_rfl) ?_
      go_simp
      exact k_of (HK.out (.pointer (some ⟨P, 0, none⟩)) _ rfl hB (Below.refl _ _)) (by rw [← u1_eq e23]; kernel_rfl)
    · intro u W hB _ hd _ K hK
      have HK := Lib.hid hK; clear hK
      have e23 : u 23 = .bool false := hd 23 (by decide +kernel)
      have e24 : u 24 = .pointer (some ⟨P, 0, none⟩) := hd 24 (by decide +kernel)
      refine wpOp_of rfl (by rw [← u1_eq e23]; kernel_rfl) ?_
      have z0 := (hP W hB.out).cell 0
      go_simp
      exact k_of (HK.out (.slice (some ⟨b, o, none⟩) m kc) _ rfl hB (Below.refl _ _)) (by rw [← u1_eq e23, ← u1_eq e24]; kernel_rfl)
    · intro u W hB _ hd _ K hK
      have HK := Lib.hid hK; clear hK
      have e23 : u 23 = .bool false := hd 23 (by decide +kernel)
      refine wpOp_of rfl (by rw [← u1_eq e23]; kernel_rfl) ?_
      go_simp
      exact k_of (HK.out (.int .i64 (ii : Int)) _ rfl hB (Below.refl _ _)) (by rw [← u1_eq e23]; kernel_rfl)
    · intro u W hB _ hd _ K hK
      have HK := Lib.hid hK; clear hK
      have e23 : u 23 = .bool false := hd 23 (by decide +kernel)
      have e25 : u 25 = .slice (some ⟨b, o, none⟩) m kc := hd 25 (by decide +kernel)
      have e26 : u 26 = .int .i64 (ii : Int) := hd 26 (by decide +kernel)
      refine wpOp_of rfl (by rw [← u1_eq e23]; kernel_rfl) ?_
      go_simp
      exact k_of (HK.out (.pointer (some ⟨b, o + ii * 4, none⟩)) _ rfl hB (Below.refl _ _)) (by rw [← u1_eq e23, ← u1_eq e25, ← u1_eq e26]; kernel_rfl)
    · intro u W hB _ hd _ K hK
      have HK := Lib.hid hK; clear hK
      have e23 : u 23 = .bool false := hd 23 (by decide +kernel)
      have e27 : u 27 = .pointer (some ⟨b, o + ii * 4, none⟩) := hd 27 (by decide +kernel)
      refine wpOp_of rfl (by rw [← u1_eq e23]; kernel_rfl) ?_
      go_simp
      exact k_of (HK.out (.pointer (some ⟨b, o + ii * 4 + 1, none⟩)) _ rfl hB (Below.refl _ _)) (by rw [← u1_eq e23, ← u1_eq e27]; kernel_rfl)
    · intro u W hB _ hd _ K hK
      have HK := Lib.hid hK; clear hK
      have e23 : u 23 = .bool false := hd 23 (by decide +kernel)
      have e28 : u 28 = .pointer (some ⟨b, o + ii * 4 + 1, none⟩) := hd 28 (by decide +kernel)
      refine wpOp_of rfl (by rw [← u1_eq e23]; kernel_rfl) ?_
      have d0 := hti W hB.out
      go_simp
      exact k_of (HK.out (.int .i64 ti) _ rfl hB (Below.refl _ _)) (by rw [← u1_eq e23, ← u1_eq e28]; kernel_rfl)
    · intro u W hB _ hd _ K hK
      have HK := Lib.hid hK; clear hK
      have e23 : u 23 = .bool false := hd 23 (by decide +kernel)
      refine wpOp_of rfl (by rw [← u1_eq e23]; kernel_rfl) ?_
      go_simp
      exact k_of (HK.out (.pointer (some ⟨P, 0, none⟩)) _ rfl hB (Below.refl _ _)) (by rw [← u1_eq e23]; kernel_rfl)
    · intro u W hB _ hd _ K hK
      have HK := Lib.hid hK; clear hK
      have e23 : u 23 = .bool false := hd 23 (by decide +kernel)
      have e30 : u 30 = .pointer (some ⟨P, 0, none⟩) := hd 30 (by decide +kernel)
      refine wpOp_of rfl (by rw [← u1_eq e23]; kernel_rfl) ?_
      have z0 := (hP W hB.out).cell 0
      go_simp
      exact k_of (HK.out (.slice (some ⟨b, o, none⟩) m kc) _ rfl hB (Below.refl _ _)) (by rw [← u1_eq e23, ← u1_eq e30]; kernel_rfl)
    · intro u W hB _ hd _ K hK
      have HK := Lib.hid hK; clear hK
      have e23 : u 23 = .bool false := hd 23 (by decide +kernel)
      refine wpOp_of rfl (by rw [← u1_eq e23]; kernel_rfl) ?_
      go_simp
      exact k_of (HK.out (.int .i64 (jj : Int)) _ rfl hB (Below.refl _ _)) (by rw [← u1_eq e23]; kernel_rfl)
    · intro u W hB _ hd _ K hK
      have HK := Lib.hid hK; clear hK
      have e23 : u 23 = .bool false := hd 23 (by decide +kernel)
      have e31 : u 31 = .slice (some ⟨b, o, none⟩) m kc := hd 31 (by decide +kernel)
      have e32 : u 32 = .int .i64 (jj : Int) := hd 32 (by decide +kernel)
      refine wpOp_of rfl (by rw [← u1_eq e23]; kernel_rfl) ?_
      go_simp
      exact k_of (HK.out (.pointer (some ⟨b, o + jj * 4, none⟩)) _ rfl hB (Below.refl _ _)) (by rw [← u1_eq e23, ← u1_eq e31, ← u1_eq e32]; kernel_rfl)
    · intro u W hB _ hd _ K hK
      have HK := Lib.hid hK; clear hK
      have e23 : u 23 = .bool false := hd 23 (by decide +kernel)
      have e33 : u 33 = .pointer (some ⟨b, o + jj * 4, none⟩) := hd 33 (by decide +kernel)
      refine wpOp_of rfl (by rw [← u1_eq e23]; kernel_rfl) ?_
      go_simp
      exact k_of (HK.out (.pointer (some ⟨b, o + jj * 4 + 1, none⟩)) _ rfl hB (Below.refl _ _)) (by rw [← u1_eq e23, ← u1_eq e33]; kernel_rfl)
    · intro u W hB _ hd _ K hK
      have HK := Lib.hid hK; clear hK
      have e23 : u 23 = .bool false := hd 23 (by decide +kernel)
      have e34 : u 34 = .pointer (some ⟨b, o + jj * 4 + 1, none⟩) := hd 34 (by decide +kernel)
      refine wpOp_of rfl (by rw [← u1_eq e23]; kernel_rfl) ?_
      have d0 := htj W hB.out
      go_simp
      exact k_of (HK.out (.int .i64 tj) _ rfl hB (Below.refl _ _)) (by rw [← u1_eq e23, ← u1_eq e34]; kernel_rfl)
    · intro u W hB _ hd _ K hK
      have HK := Lib.hid hK; clear hK
      have e23 : u 23 = .bool false := hd 23 (by decide +kernel)
      have e29 : u 29 = .int .i64 ti := hd 29 (by decide +kernel)
      have e35 : u 35 = .int .i64 tj := hd 35 (by decide +kernel)
      refine wpOp_of rfl (by rw [← u1_eq e23]; kernel_rfl) ?_
      go_simp
      exact k_of (HK.out (.bool false) _ rfl hB (Below.refl _ _)) (by rw [← u1_eq e23, ← u1_eq e29, ← u1_eq e35]; kernel_rfl)
    · intro u W hB _ hd _ K hK
      have HK := Lib.hid hK; clear hK
      have e23 : u 23 = .bool false := hd 23 (by decide +kernel)
      have e36 : u 36 = .bool false := hd 36 (by decide +kernel)
      refine wpOp_of rfl (by rw [← u1_eq e23]; kernel_rfl) ?_
      go_simp
      exact k_of (HK.out (.bool false) _ rfl hB (Below.refl _ _)) (by rw [← u1_eq e23, ← u1_eq e36]; kernel_rfl)
    · intro u W hB _ hd _ K hK
      have HK := Lib.hid hK; clear hK
      have e37 : u 37 = .bool false := hd 37 (by decide +kernel)
      refine wpOp_skip rfl (by rw [← u1_eq e37]; kernel_rfl) ?_
      exact k_of (HK.out undef _ rfl hB (Below.refl _ _)) (by rw [← u1_eq e37]; kernel_rfl)
    · intro u W hB _ hd _ K hK
      have HK := Lib.hid hK; clear hK
      have e37 : u 37 = .bool false := hd 37 (by decide +kernel)
      refine wpOp_skip rfl (by rw [← u1_eq e37]; kernel_rfl) ?_
      exact k_of (HK.out undef _ rfl hB (Below.refl _ _)) (by rw [← u1_eq e37]; kernel_rfl)
    · intro u W hB _ hd _ K hK
      have HK := Lib.hid hK; clear hK
      have e37 : u 37 = .bool false := hd 37 (by decide +kernel)
      refine wpOp_skip rfl (by rw [← u1_eq e37]; kernel_rfl) ?_
      exact k_of (HK.out undef _ rfl hB (Below.refl _ _)) (by rw [← u1_eq e37]; kernel_rfl)
    · intro u W hB _ hd _ K hK
      have HK := Lib.hid hK; clear hK
      have e23 : u 23 = .bool false := hd 23 (by decide +kernel)
      have e37 : u 37 = .bool false := hd 37 (by decide +kernel)
      have e40 : u 40 = undef := hd 40 (by decide +kernel)
      refine wpOp_of rfl (by rw [← u1_eq e23]; kernel_rfl) ?_
      go_simp
      exact k_of (HK.out (.bool false) _ rfl hB (Below.refl _ _)) (by rw [← u1_eq e23, ← u1_eq e37, ← u1_eq e40]; kernel_rfl)
    · intro u W hB _ hd _ K hK
      have HK := Lib.hid hK; clear hK
      have e14 : u 14 = .bool true := hd 14 (by decide +kernel)
      have e23 : u 23 = .bool false := hd 23 (by decide +kernel)
      have e41 : u 41 = .bool false := hd 41 (by decide +kernel)
      refine wpOp_of rfl (by rw [← u1_eq e14]; kernel_rfl) ?_
      go_simp
      exact k_of (HK.out (.bool false) _ rfl hB (Below.refl _ _)) (by rw [← u1_eq e14, ← u1_eq e23, ← u1_eq e41]; kernel_rfl)
    · intro u W hB _ hd _ K hK
      have HK := Lib.hid hK; clear hK
      have e11 : u 11 = .bool false := hd 11 (by decide +kernel)
      have e14 : u 14 = .bool true := hd 14 (by decide +kernel)
      have e42 : u 42 = .bool false := hd 42 (by decide +kernel)
      refine wpOp_of rfl (by rw [← u1_eq e11]; kernel_rfl) ?_
      go_simp
      exact k_of (HK.out (.bool false) _ rfl hB (Below.refl _ _)) (by rw [← u1_eq e11, ← u1_eq e14, ← u1_eq e42]; kernel_rfl)
    · intro u W hB _ hd _ K hK
      have HK := Lib.hid hK; clear hK
      have e11 : u 11 = .bool false := hd 11 (by decide +kernel)
      have e43 : u 43 = .bool false := hd 43 (by decide +kernel)
      refine wpOp_of rfl (by rfl) ?_
      go_simp
      exact k_of (HK.out (.bool false) _ rfl hB (Below.refl _ _)) (by rw [← u1_eq e11, ← u1_eq e43]; kernel_rfl)
  · intro u W hB hd
    have e44 : u 44 = .bool false := hd 44 (by decide)
    exact k_of (HQ.out u W hB.out) (by simp only [e44])

/-- What each operation leaves. -/
def thlR (P b o m kc n g ii jj : Nat) (A : Option Addr) (ti tj : Int) (_p : Sp) : Nat → Value → World → Prop
  | 0, v, _ => v = .int .i64 0
  | 1, v, _ => v = .bool false
  | 2, v, _ => v = .bool false
  | 3, v, _ => v = .int .i64 0
  | 4, v, _ => v = .bool false
  | 5, v, _ => v = .bool false
  | 6, v, _ => v = undef
  | 7, v, _ => v = undef
  | 8, v, _ => v = undef
  | 9, v, _ => v = .bool false
  | 10, v, _ => v = .bool false
  | 11, v, _ => v = .bool false
  | 12, v, _ => v = .int .i64 0
  | 13, v, _ => v = .bool true
  | 14, v, _ => v = .bool true
  | 15, v, _ => v = .int .i64 (ii : Int)
  | 16, v, _ => v = .int .i64 (jj : Int)
  | 17, v, _ => v = .bool false
  | 18, v, _ => v = .bool false
  | 19, v, _ => v = undef
  | 20, v, _ => v = undef
  | 21, v, _ => v = undef
  | 22, v, _ => v = .bool false
  | 23, v, _ => v = .bool false
  | 24, v, _ => v = .pointer (some ⟨P, 0, none⟩)
  | 25, v, _ => v = .slice (some ⟨b, o, none⟩) m kc
  | 26, v, _ => v = .int .i64 (ii : Int)
  | 27, v, _ => v = .pointer (some ⟨b, o + ii * 4, none⟩)
  | 28, v, _ => v = .pointer (some ⟨b, o + ii * 4 + 1, none⟩)
  | 29, v, _ => v = .int .i64 ti
  | 30, v, _ => v = .pointer (some ⟨P, 0, none⟩)
  | 31, v, _ => v = .slice (some ⟨b, o, none⟩) m kc
  | 32, v, _ => v = .int .i64 (jj : Int)
  | 33, v, _ => v = .pointer (some ⟨b, o + jj * 4, none⟩)
  | 34, v, _ => v = .pointer (some ⟨b, o + jj * 4 + 1, none⟩)
  | 35, v, _ => v = .int .i64 tj
  | 36, v, _ => v = .bool true
  | 37, v, _ => v = .bool true
  | 38, v, _ => v = .slice A n g
  | 39, v, _ => v = .int .i64 (n : Int)
  | 40, v, _ => v = .bool false
  | 41, v, _ => v = .bool false
  | 42, v, _ => v = .bool false
  | 43, v, _ => v = .bool false
  | 44, v, _ => v = .bool false
  | _, _, _ => True
theorem thlR_on (P b o m kc n g ii jj : Nat) (A : Option Addr) (ti tj : Int) (p : Sp) : ∀ i, i < 45 → ∀ v W W', thlR P b o m kc n g ii jj A ti tj p i v W → Below W.heap.size W W' → thlR P b o m kc n g ii jj A ti tj p i v W' := by
  iterate 45 (refine all_succ ?_ ?_)
  · exact all_zero
  · exact fun _ _ _ h _ => h
  · exact fun _ _ _ h _ => h
  · exact fun _ _ _ h _ => h
  · exact fun _ _ _ h _ => h
  · exact fun _ _ _ h _ => h
  · exact fun _ _ _ h _ => h
  · exact fun _ _ _ h _ => h
  · exact fun _ _ _ h _ => h
  · exact fun _ _ _ h _ => h
  · exact fun _ _ _ h _ => h
  · exact fun _ _ _ h _ => h
  · exact fun _ _ _ h _ => h
  · exact fun _ _ _ h _ => h
  · exact fun _ _ _ h _ => h
  · exact fun _ _ _ h _ => h
  · exact fun _ _ _ h _ => h
  · exact fun _ _ _ h _ => h
  · exact fun _ _ _ h _ => h
  · exact fun _ _ _ h _ => h
  · exact fun _ _ _ h _ => h
  · exact fun _ _ _ h _ => h
  · exact fun _ _ _ h _ => h
  · exact fun _ _ _ h _ => h
  · exact fun _ _ _ h _ => h
  · exact fun _ _ _ h _ => h
  · exact fun _ _ _ h _ => h
  · exact fun _ _ _ h _ => h
  · exact fun _ _ _ h _ => h
  · exact fun _ _ _ h _ => h
  · exact fun _ _ _ h _ => h
  · exact fun _ _ _ h _ => h
  · exact fun _ _ _ h _ => h
  · exact fun _ _ _ h _ => h
  · exact fun _ _ _ h _ => h
  · exact fun _ _ _ h _ => h
  · exact fun _ _ _ h _ => h
  · exact fun _ _ _ h _ => h
  · exact fun _ _ _ h _ => h
  · exact fun _ _ _ h _ => h
  · exact fun _ _ _ h _ => h
  · exact fun _ _ _ h _ => h
  · exact fun _ _ _ h _ => h
  · exact fun _ _ _ h _ => h
  · exact fun _ _ _ h _ => h
  · exact fun _ _ _ h _ => h
set_option maxRecDepth 100000 in
set_option maxHeartbeats 8000000 in
theorem thl_region {S : World → Prop} (hon : ∀ W W', S W → Below W.heap.size W W' → S W') {P b o m kc n g ii jj : Nat} {A : Option Addr} {ti tj : Int} {p : Sp} (hP : ∀ W, S W → Blk W P 27 #[.slice (some ⟨b, o, none⟩) m kc, .slice p.xa p.s.xs.length p.xc, .int .i64 p.s.flo, .int .i64 p.s.fhi, .int .i64 p.s.plo, .int .i64 p.s.phi]) (him : (ii : Int) < m) (hjm : (jj : Int) < m) (hti : ∀ W, S W → W.cell? ⟨b, o + ii * 4 + 1, none⟩ = some (.int .i64 ti)) (htj : ∀ W, S W → W.cell? ⟨b, o + jj * 4 + 1, none⟩ = some (.int .i64 tj)) (he : ((ii : Int) == (jj : Int)) = false) (hl : decide (ti < tj) = true) (hn : ((n : Int) == 0) = false) {Q : Exit → Act → World → Prop} {s0 s1 s3 s4 s7 s11 s12 s13 s14 s15 s16 s17 s18 s19 s20 s21 s22 s23 s24 s25 s26 s27 s28 s29 s30 s31 s32 s33 s34 s35 s36 s37 s38 s39 s40 s41 s42 s43 s44 s45 s46 s47 s48 s49 s50 s51 s52 s53 s54 s55 s56 s57 s58 s59 s60 s61 s62 s63 s64 s65 s66 s112 s67 s68 s69 s70 s71 s72 s73 s74 s75 s76 s77 s78 s79 s80 s81 s82 s83 s84 s85 s86 s87 s88 s89 s90 s91 s92 s93 s94 s95 s96 s97 s98 s99 s100 s101 s102 s103 s104 s105 s106 s107 s108 s109 s110 s111 : Value} {W0 : World} (HL : Hid (S W0))
    (HQ : Hid (∀ (u : Nat → Value) (W : World), S W → Q .normal ⟨#[s0, s1, .pointer (some ⟨P, 0, none⟩), s3, s4, .int .i64 (jj : Int), .int .i64 0, s7, .int .i64 (ii : Int), .slice A n g, .int .i64 0, s11, s12, s13, s14, s15, s16, s17, s18, s19, s20, s21, s22, s23, s24, s25, s26, s27, s28, s29, s30, s31, s32, s33, s34, s35, s36, s37, s38, s39, s40, s41, s42, s43, s44, s45, s46, s47, s48, s49, s50, s51, s52, s53, s54, s55, s56, s57, s58, s59, s60, s61, s62, s63, s64, s65, s66, u 0, u 1, u 2, u 3, u 4, u 5, u 6, u 7, u 8, u 9, u 10, u 11, u 12, u 13, u 14, u 15, u 16, u 17, u 18, u 19, u 20, u 21, u 22, u 23, u 24, u 25, u 26, u 27, u 28, u 29, u 30, u 31, u 32, u 33, u 34, u 35, u 36, u 37, u 38, u 39, u 40, u 41, u 42, u 43, .bool false, s112], []⟩ W)) :
    Code.wp Try.prog ((Try.f9.body.bind (regionAt 11)).getD .skip) Q ⟨#[s0, s1, .pointer (some ⟨P, 0, none⟩), s3, s4, .int .i64 (jj : Int), .int .i64 0, s7, .int .i64 (ii : Int), .slice A n g, .int .i64 0, s11, s12, s13, s14, s15, s16, s17, s18, s19, s20, s21, s22, s23, s24, s25, s26, s27, s28, s29, s30, s31, s32, s33, s34, s35, s36, s37, s38, s39, s40, s41, s42, s43, s44, s45, s46, s47, s48, s49, s50, s51, s52, s53, s54, s55, s56, s57, s58, s59, s60, s61, s62, s63, s64, s65, s66, s67, s68, s69, s70, s71, s72, s73, s74, s75, s76, s77, s78, s79, s80, s81, s82, s83, s84, s85, s86, s87, s88, s89, s90, s91, s92, s93, s94, s95, s96, s97, s98, s99, s100, s101, s102, s103, s104, s105, s106, s107, s108, s109, s110, s111, s112], []⟩ W0 := by
  conv => arg 2; whnf
  refine wp_region_spec (by kernel_rfl) 45 (by kernel_rfl) (fun u => ⟨#[s0, s1, .pointer (some ⟨P, 0, none⟩), s3, s4, .int .i64 (jj : Int), .int .i64 0, s7, .int .i64 (ii : Int), .slice A n g, .int .i64 0, s11, s12, s13, s14, s15, s16, s17, s18, s19, s20, s21, s22, s23, s24, s25, s26, s27, s28, s29, s30, s31, s32, s33, s34, s35, s36, s37, s38, s39, s40, s41, s42, s43, s44, s45, s46, s47, s48, s49, s50, s51, s52, s53, s54, s55, s56, s57, s58, s59, s60, s61, s62, s63, s64, s65, s66, u 0, u 1, u 2, u 3, u 4, u 5, u 6, u 7, u 8, u 9, u 10, u 11, u 12, u 13, u 14, u 15, u 16, u 17, u 18, u 19, u 20, u 21, u 22, u 23, u 24, u 25, u 26, u 27, u 28, u 29, u 30, u 31, u 32, u 33, u 34, u 35, u 36, u 37, u 38, u 39, u 40, u 41, u 42, u 43, u 44, s112], []⟩) (fun i => if i = 0 then s67 else if i = 1 then s68 else if i = 2 then s69 else if i = 3 then s70 else if i = 4 then s71 else if i = 5 then s72 else if i = 6 then s73 else if i = 7 then s74 else if i = 8 then s75 else if i = 9 then s76 else if i = 10 then s77 else if i = 11 then s78 else if i = 12 then s79 else if i = 13 then s80 else if i = 14 then s81 else if i = 15 then s82 else if i = 16 then s83 else if i = 17 then s84 else if i = 18 then s85 else if i = 19 then s86 else if i = 20 then s87 else if i = 21 then s88 else if i = 22 then s89 else if i = 23 then s90 else if i = 24 then s91 else if i = 25 then s92 else if i = 26 then s93 else if i = 27 then s94 else if i = 28 then s95 else if i = 29 then s96 else if i = 30 then s97 else if i = 31 then s98 else if i = 32 then s99 else if i = 33 then s100 else if i = 34 then s101 else if i = 35 then s102 else if i = 36 then s103 else if i = 37 then s104 else if i = 38 then s105 else if i = 39 then s106 else if i = 40 then s107 else if i = 41 then s108 else if i = 42 then s109 else if i = 43 then s110 else if i = 44 then s111 else undef) (fun W => Hid (S W)) (thlR P b o m kc n g ii jj A ti tj p) (by kernel_rfl) (hon _ _ HL.out (Below.refl _ _).drew) (fun i v W W2 hi h hb => thlR_on P b o m kc n g ii jj A ti tj p i hi v W W2 h hb) (by decide +kernel) ?_ ?_
  · iterate 45 (refine all_succ ?_ ?_)
    · exact all_zero
    · intro u W hB _ hd _ K hK
      have HK := Lib.hid hK; clear hK
      refine wpOp_of rfl (by rfl) ?_
      go_simp
      exact k_of (HK.out (.int .i64 0) _ rfl hB (Below.refl _ _)) (by kernel_rfl)
    · intro u W hB _ hd _ K hK
      have HK := Lib.hid hK; clear hK
      have e0 : u 0 = .int .i64 0 := hd 0 (by decide +kernel)
      refine wpOp_of rfl (by rfl) ?_
      go_simp
      exact k_of (HK.out (.bool false) _ rfl hB (Below.refl _ _)) (by rw [← u1_eq e0]; kernel_rfl)
    · intro u W hB _ hd _ K hK
      have HK := Lib.hid hK; clear hK
      have e1 : u 1 = .bool false := hd 1 (by decide +kernel)
      refine wpOp_of rfl (by rfl) ?_
      go_simp
      exact k_of (HK.out (.bool false) _ rfl hB (Below.refl _ _)) (by rw [← u1_eq e1]; kernel_rfl)
    · intro u W hB _ hd _ K hK
      have HK := Lib.hid hK; clear hK
      have e2 : u 2 = .bool false := hd 2 (by decide +kernel)
      refine wpOp_of rfl (by rw [← u1_eq e2]; kernel_rfl) ?_
      go_simp
      exact k_of (HK.out (.int .i64 0) _ rfl hB (Below.refl _ _)) (by rw [← u1_eq e2]; kernel_rfl)
    · intro u W hB _ hd _ K hK
      have HK := Lib.hid hK; clear hK
      have e2 : u 2 = .bool false := hd 2 (by decide +kernel)
      have e3 : u 3 = .int .i64 0 := hd 3 (by decide +kernel)
      refine wpOp_of rfl (by rw [← u1_eq e2]; kernel_rfl) ?_
      go_simp
      exact k_of (HK.out (.bool false) _ rfl hB (Below.refl _ _)) (by rw [← u1_eq e2, ← u1_eq e3]; kernel_rfl)
    · intro u W hB _ hd _ K hK
      have HK := Lib.hid hK; clear hK
      have e2 : u 2 = .bool false := hd 2 (by decide +kernel)
      have e4 : u 4 = .bool false := hd 4 (by decide +kernel)
      refine wpOp_of rfl (by rw [← u1_eq e2]; kernel_rfl) ?_
      go_simp
      exact k_of (HK.out (.bool false) _ rfl hB (Below.refl _ _)) (by rw [← u1_eq e2, ← u1_eq e4]; kernel_rfl)
    · intro u W hB _ hd _ K hK
      have HK := Lib.hid hK; clear hK
      have e5 : u 5 = .bool false := hd 5 (by decide +kernel)
      refine wpOp_skip rfl (by rw [← u1_eq e5]; kernel_rfl) ?_
      exact k_of (HK.out undef _ rfl hB (Below.refl _ _)) (by rw [← u1_eq e5]; kernel_rfl)
    · intro u W hB _ hd _ K hK
      have HK := Lib.hid hK; clear hK
      have e5 : u 5 = .bool false := hd 5 (by decide +kernel)
      refine wpOp_skip rfl (by rw [← u1_eq e5]; kernel_rfl) ?_
      exact k_of (HK.out undef _ rfl hB (Below.refl _ _)) (by rw [← u1_eq e5]; kernel_rfl)
    · intro u W hB _ hd _ K hK
      have HK := Lib.hid hK; clear hK
      have e5 : u 5 = .bool false := hd 5 (by decide +kernel)
      refine wpOp_skip rfl (by rw [← u1_eq e5]; kernel_rfl) ?_
      exact k_of (HK.out undef _ rfl hB (Below.refl _ _)) (by rw [← u1_eq e5]; kernel_rfl)
    · intro u W hB _ hd _ K hK
      have HK := Lib.hid hK; clear hK
      have e2 : u 2 = .bool false := hd 2 (by decide +kernel)
      have e5 : u 5 = .bool false := hd 5 (by decide +kernel)
      have e8 : u 8 = undef := hd 8 (by decide +kernel)
      refine wpOp_of rfl (by rw [← u1_eq e2]; kernel_rfl) ?_
      go_simp
      exact k_of (HK.out (.bool false) _ rfl hB (Below.refl _ _)) (by rw [← u1_eq e2, ← u1_eq e5, ← u1_eq e8]; kernel_rfl)
    · intro u W hB _ hd _ K hK
      have HK := Lib.hid hK; clear hK
      have e2 : u 2 = .bool false := hd 2 (by decide +kernel)
      have e9 : u 9 = .bool false := hd 9 (by decide +kernel)
      refine wpOp_of rfl (by rfl) ?_
      go_simp
      exact k_of (HK.out (.bool false) _ rfl hB (Below.refl _ _)) (by rw [← u1_eq e2, ← u1_eq e9]; kernel_rfl)
    · intro u W hB _ hd _ K hK
      have HK := Lib.hid hK; clear hK
      have e10 : u 10 = .bool false := hd 10 (by decide +kernel)
      refine wpOp_of rfl (by rfl) ?_
      go_simp
      exact k_of (HK.out (.bool false) _ rfl hB (Below.refl _ _)) (by rw [← u1_eq e10]; kernel_rfl)
    · intro u W hB _ hd _ K hK
      have HK := Lib.hid hK; clear hK
      have e11 : u 11 = .bool false := hd 11 (by decide +kernel)
      refine wpOp_of rfl (by rw [← u1_eq e11]; kernel_rfl) ?_
      go_simp
      exact k_of (HK.out (.int .i64 0) _ rfl hB (Below.refl _ _)) (by rw [← u1_eq e11]; kernel_rfl)
    · intro u W hB _ hd _ K hK
      have HK := Lib.hid hK; clear hK
      have e11 : u 11 = .bool false := hd 11 (by decide +kernel)
      have e12 : u 12 = .int .i64 0 := hd 12 (by decide +kernel)
      refine wpOp_of rfl (by rw [← u1_eq e11]; kernel_rfl) ?_
      go_simp
      exact k_of (HK.out (.bool true) _ rfl hB (Below.refl _ _)) (by rw [← u1_eq e11, ← u1_eq e12]; kernel_rfl)
    · intro u W hB _ hd _ K hK
      have HK := Lib.hid hK; clear hK
      have e11 : u 11 = .bool false := hd 11 (by decide +kernel)
      have e13 : u 13 = .bool true := hd 13 (by decide +kernel)
      refine wpOp_of rfl (by rw [← u1_eq e11]; kernel_rfl) ?_
      go_simp
      exact k_of (HK.out (.bool true) _ rfl hB (Below.refl _ _)) (by rw [← u1_eq e11, ← u1_eq e13]; kernel_rfl)
    · intro u W hB _ hd _ K hK
      have HK := Lib.hid hK; clear hK
      have e14 : u 14 = .bool true := hd 14 (by decide +kernel)
      refine wpOp_of rfl (by rw [← u1_eq e14]; kernel_rfl) ?_
      go_simp
      exact k_of (HK.out (.int .i64 (ii : Int)) _ rfl hB (Below.refl _ _)) (by rw [← u1_eq e14]; kernel_rfl)
    · intro u W hB _ hd _ K hK
      have HK := Lib.hid hK; clear hK
      have e14 : u 14 = .bool true := hd 14 (by decide +kernel)
      refine wpOp_of rfl (by rw [← u1_eq e14]; kernel_rfl) ?_
      go_simp
      exact k_of (HK.out (.int .i64 (jj : Int)) _ rfl hB (Below.refl _ _)) (by rw [← u1_eq e14]; kernel_rfl)
    · intro u W hB _ hd _ K hK
      have HK := Lib.hid hK; clear hK
      have e14 : u 14 = .bool true := hd 14 (by decide +kernel)
      have e15 : u 15 = .int .i64 (ii : Int) := hd 15 (by decide +kernel)
      have e16 : u 16 = .int .i64 (jj : Int) := hd 16 (by decide +kernel)
      refine wpOp_of rfl (by rw [← u1_eq e14]; kernel_rfl) ?_
      go_simp
      exact k_of (HK.out (.bool false) _ rfl hB (Below.refl _ _)) (by rw [← u1_eq e14, ← u1_eq e15, ← u1_eq e16]; kernel_rfl)
    · intro u W hB _ hd _ K hK
      have HK := Lib.hid hK; clear hK
      have e14 : u 14 = .bool true := hd 14 (by decide +kernel)
      have e17 : u 17 = .bool false := hd 17 (by decide +kernel)
      refine wpOp_of rfl (by rw [← u1_eq e14]; kernel_rfl) ?_
      go_simp
      exact k_of (HK.out (.bool false) _ rfl hB (Below.refl _ _)) (by rw [← u1_eq e14, ← u1_eq e17]; kernel_rfl)
    · intro u W hB _ hd _ K hK
      have HK := Lib.hid hK; clear hK
      have e18 : u 18 = .bool false := hd 18 (by decide +kernel)
      refine wpOp_skip rfl (by rw [← u1_eq e18]; kernel_rfl) ?_
      exact k_of (HK.out undef _ rfl hB (Below.refl _ _)) (by rw [← u1_eq e18]; kernel_rfl)
    · intro u W hB _ hd _ K hK
      have HK := Lib.hid hK; clear hK
      have e18 : u 18 = .bool false := hd 18 (by decide +kernel)
      refine wpOp_skip rfl (by rw [← u1_eq e18]; kernel_rfl) ?_
      exact k_of (HK.out undef _ rfl hB (Below.refl _ _)) (by rw [← u1_eq e18]; kernel_rfl)
    · intro u W hB _ hd _ K hK
      have HK := Lib.hid hK; clear hK
      have e18 : u 18 = .bool false := hd 18 (by decide +kernel)
      refine wpOp_skip rfl (by rw [← u1_eq e18]; kernel_rfl) ?_
      exact k_of (HK.out undef _ rfl hB (Below.refl _ _)) (by rw [← u1_eq e18]; kernel_rfl)
    · intro u W hB _ hd _ K hK
      have HK := Lib.hid hK; clear hK
      have e14 : u 14 = .bool true := hd 14 (by decide +kernel)
      have e18 : u 18 = .bool false := hd 18 (by decide +kernel)
      have e21 : u 21 = undef := hd 21 (by decide +kernel)
      refine wpOp_of rfl (by rw [← u1_eq e14]; kernel_rfl) ?_
      go_simp
      exact k_of (HK.out (.bool false) _ rfl hB (Below.refl _ _)) (by rw [← u1_eq e14, ← u1_eq e18, ← u1_eq e21]; kernel_rfl)
    · intro u W hB _ hd _ K hK
      have HK := Lib.hid hK; clear hK
      have e14 : u 14 = .bool true := hd 14 (by decide +kernel)
      have e22 : u 22 = .bool false := hd 22 (by decide +kernel)
      refine wpOp_of rfl (by rw [← u1_eq e14]; kernel_rfl) ?_
      go_simp
      exact k_of (HK.out (.bool false) _ rfl hB (Below.refl _ _)) (by rw [← u1_eq e14, ← u1_eq e22]; kernel_rfl)
    · intro u W hB _ hd _ K hK
      have HK := Lib.hid hK; clear hK
      have e23 : u 23 = .bool false := hd 23 (by decide +kernel)
      refine wpOp_of rfl (by rw [← u1_eq e23]; kernel_rfl) ?_
      go_simp
      exact k_of (HK.out (.pointer (some ⟨P, 0, none⟩)) _ rfl hB (Below.refl _ _)) (by rw [← u1_eq e23]; kernel_rfl)
    · intro u W hB _ hd _ K hK
      have HK := Lib.hid hK; clear hK
      have e23 : u 23 = .bool false := hd 23 (by decide +kernel)
      have e24 : u 24 = .pointer (some ⟨P, 0, none⟩) := hd 24 (by decide +kernel)
      refine wpOp_of rfl (by rw [← u1_eq e23]; kernel_rfl) ?_
      have z0 := (hP W hB.out).cell 0
      go_simp
      exact k_of (HK.out (.slice (some ⟨b, o, none⟩) m kc) _ rfl hB (Below.refl _ _)) (by rw [← u1_eq e23, ← u1_eq e24]; kernel_rfl)
    · intro u W hB _ hd _ K hK
      have HK := Lib.hid hK; clear hK
      have e23 : u 23 = .bool false := hd 23 (by decide +kernel)
      refine wpOp_of rfl (by rw [← u1_eq e23]; kernel_rfl) ?_
      go_simp
      exact k_of (HK.out (.int .i64 (ii : Int)) _ rfl hB (Below.refl _ _)) (by rw [← u1_eq e23]; kernel_rfl)
    · intro u W hB _ hd _ K hK
      have HK := Lib.hid hK; clear hK
      have e23 : u 23 = .bool false := hd 23 (by decide +kernel)
      have e25 : u 25 = .slice (some ⟨b, o, none⟩) m kc := hd 25 (by decide +kernel)
      have e26 : u 26 = .int .i64 (ii : Int) := hd 26 (by decide +kernel)
      refine wpOp_of rfl (by rw [← u1_eq e23]; kernel_rfl) ?_
      go_simp
      exact k_of (HK.out (.pointer (some ⟨b, o + ii * 4, none⟩)) _ rfl hB (Below.refl _ _)) (by rw [← u1_eq e23, ← u1_eq e25, ← u1_eq e26]; kernel_rfl)
    · intro u W hB _ hd _ K hK
      have HK := Lib.hid hK; clear hK
      have e23 : u 23 = .bool false := hd 23 (by decide +kernel)
      have e27 : u 27 = .pointer (some ⟨b, o + ii * 4, none⟩) := hd 27 (by decide +kernel)
      refine wpOp_of rfl (by rw [← u1_eq e23]; kernel_rfl) ?_
      go_simp
      exact k_of (HK.out (.pointer (some ⟨b, o + ii * 4 + 1, none⟩)) _ rfl hB (Below.refl _ _)) (by rw [← u1_eq e23, ← u1_eq e27]; kernel_rfl)
    · intro u W hB _ hd _ K hK
      have HK := Lib.hid hK; clear hK
      have e23 : u 23 = .bool false := hd 23 (by decide +kernel)
      have e28 : u 28 = .pointer (some ⟨b, o + ii * 4 + 1, none⟩) := hd 28 (by decide +kernel)
      refine wpOp_of rfl (by rw [← u1_eq e23]; kernel_rfl) ?_
      have d0 := hti W hB.out
      go_simp
      exact k_of (HK.out (.int .i64 ti) _ rfl hB (Below.refl _ _)) (by rw [← u1_eq e23, ← u1_eq e28]; kernel_rfl)
    · intro u W hB _ hd _ K hK
      have HK := Lib.hid hK; clear hK
      have e23 : u 23 = .bool false := hd 23 (by decide +kernel)
      refine wpOp_of rfl (by rw [← u1_eq e23]; kernel_rfl) ?_
      go_simp
      exact k_of (HK.out (.pointer (some ⟨P, 0, none⟩)) _ rfl hB (Below.refl _ _)) (by rw [← u1_eq e23]; kernel_rfl)
    · intro u W hB _ hd _ K hK
      have HK := Lib.hid hK; clear hK
      have e23 : u 23 = .bool false := hd 23 (by decide +kernel)
      have e30 : u 30 = .pointer (some ⟨P, 0, none⟩) := hd 30 (by decide +kernel)
      refine wpOp_of rfl (by rw [← u1_eq e23]; kernel_rfl) ?_
      have z0 := (hP W hB.out).cell 0
      go_simp
      exact k_of (HK.out (.slice (some ⟨b, o, none⟩) m kc) _ rfl hB (Below.refl _ _)) (by rw [← u1_eq e23, ← u1_eq e30]; kernel_rfl)
    · intro u W hB _ hd _ K hK
      have HK := Lib.hid hK; clear hK
      have e23 : u 23 = .bool false := hd 23 (by decide +kernel)
      refine wpOp_of rfl (by rw [← u1_eq e23]; kernel_rfl) ?_
      go_simp
      exact k_of (HK.out (.int .i64 (jj : Int)) _ rfl hB (Below.refl _ _)) (by rw [← u1_eq e23]; kernel_rfl)
    · intro u W hB _ hd _ K hK
      have HK := Lib.hid hK; clear hK
      have e23 : u 23 = .bool false := hd 23 (by decide +kernel)
      have e31 : u 31 = .slice (some ⟨b, o, none⟩) m kc := hd 31 (by decide +kernel)
      have e32 : u 32 = .int .i64 (jj : Int) := hd 32 (by decide +kernel)
      refine wpOp_of rfl (by rw [← u1_eq e23]; kernel_rfl) ?_
      go_simp
      exact k_of (HK.out (.pointer (some ⟨b, o + jj * 4, none⟩)) _ rfl hB (Below.refl _ _)) (by rw [← u1_eq e23, ← u1_eq e31, ← u1_eq e32]; kernel_rfl)
    · intro u W hB _ hd _ K hK
      have HK := Lib.hid hK; clear hK
      have e23 : u 23 = .bool false := hd 23 (by decide +kernel)
      have e33 : u 33 = .pointer (some ⟨b, o + jj * 4, none⟩) := hd 33 (by decide +kernel)
      refine wpOp_of rfl (by rw [← u1_eq e23]; kernel_rfl) ?_
      go_simp
      exact k_of (HK.out (.pointer (some ⟨b, o + jj * 4 + 1, none⟩)) _ rfl hB (Below.refl _ _)) (by rw [← u1_eq e23, ← u1_eq e33]; kernel_rfl)
    · intro u W hB _ hd _ K hK
      have HK := Lib.hid hK; clear hK
      have e23 : u 23 = .bool false := hd 23 (by decide +kernel)
      have e34 : u 34 = .pointer (some ⟨b, o + jj * 4 + 1, none⟩) := hd 34 (by decide +kernel)
      refine wpOp_of rfl (by rw [← u1_eq e23]; kernel_rfl) ?_
      have d0 := htj W hB.out
      go_simp
      exact k_of (HK.out (.int .i64 tj) _ rfl hB (Below.refl _ _)) (by rw [← u1_eq e23, ← u1_eq e34]; kernel_rfl)
    · intro u W hB _ hd _ K hK
      have HK := Lib.hid hK; clear hK
      have e23 : u 23 = .bool false := hd 23 (by decide +kernel)
      have e29 : u 29 = .int .i64 ti := hd 29 (by decide +kernel)
      have e35 : u 35 = .int .i64 tj := hd 35 (by decide +kernel)
      refine wpOp_of rfl (by rw [← u1_eq e23]; kernel_rfl) ?_
      go_simp
      exact k_of (HK.out (.bool true) _ rfl hB (Below.refl _ _)) (by rw [← u1_eq e23, ← u1_eq e29, ← u1_eq e35]; kernel_rfl)
    · intro u W hB _ hd _ K hK
      have HK := Lib.hid hK; clear hK
      have e23 : u 23 = .bool false := hd 23 (by decide +kernel)
      have e36 : u 36 = .bool true := hd 36 (by decide +kernel)
      refine wpOp_of rfl (by rw [← u1_eq e23]; kernel_rfl) ?_
      go_simp
      exact k_of (HK.out (.bool true) _ rfl hB (Below.refl _ _)) (by rw [← u1_eq e23, ← u1_eq e36]; kernel_rfl)
    · intro u W hB _ hd _ K hK
      have HK := Lib.hid hK; clear hK
      have e37 : u 37 = .bool true := hd 37 (by decide +kernel)
      refine wpOp_of rfl (by rw [← u1_eq e37]; kernel_rfl) ?_
      go_simp
      exact k_of (HK.out (.slice A n g) _ rfl hB (Below.refl _ _)) (by rw [← u1_eq e37]; kernel_rfl)
    · intro u W hB _ hd _ K hK
      have HK := Lib.hid hK; clear hK
      have e37 : u 37 = .bool true := hd 37 (by decide +kernel)
      have e38 : u 38 = .slice A n g := hd 38 (by decide +kernel)
      refine wpOp_of rfl (by rw [← u1_eq e37]; kernel_rfl) ?_
      go_simp
      exact k_of (HK.out (.int .i64 (n : Int)) _ rfl hB (Below.refl _ _)) (by rw [← u1_eq e37, ← u1_eq e38]; kernel_rfl)
    · intro u W hB _ hd _ K hK
      have HK := Lib.hid hK; clear hK
      have e37 : u 37 = .bool true := hd 37 (by decide +kernel)
      have e39 : u 39 = .int .i64 (n : Int) := hd 39 (by decide +kernel)
      refine wpOp_of rfl (by rw [← u1_eq e37]; kernel_rfl) ?_
      go_simp
      exact k_of (HK.out (.bool false) _ rfl hB (Below.refl _ _)) (by rw [← u1_eq e37, ← u1_eq e39]; kernel_rfl)
    · intro u W hB _ hd _ K hK
      have HK := Lib.hid hK; clear hK
      have e23 : u 23 = .bool false := hd 23 (by decide +kernel)
      have e37 : u 37 = .bool true := hd 37 (by decide +kernel)
      have e40 : u 40 = .bool false := hd 40 (by decide +kernel)
      refine wpOp_of rfl (by rw [← u1_eq e23]; kernel_rfl) ?_
      go_simp
      exact k_of (HK.out (.bool false) _ rfl hB (Below.refl _ _)) (by rw [← u1_eq e23, ← u1_eq e37, ← u1_eq e40]; kernel_rfl)
    · intro u W hB _ hd _ K hK
      have HK := Lib.hid hK; clear hK
      have e14 : u 14 = .bool true := hd 14 (by decide +kernel)
      have e23 : u 23 = .bool false := hd 23 (by decide +kernel)
      have e41 : u 41 = .bool false := hd 41 (by decide +kernel)
      refine wpOp_of rfl (by rw [← u1_eq e14]; kernel_rfl) ?_
      go_simp
      exact k_of (HK.out (.bool false) _ rfl hB (Below.refl _ _)) (by rw [← u1_eq e14, ← u1_eq e23, ← u1_eq e41]; kernel_rfl)
    · intro u W hB _ hd _ K hK
      have HK := Lib.hid hK; clear hK
      have e11 : u 11 = .bool false := hd 11 (by decide +kernel)
      have e14 : u 14 = .bool true := hd 14 (by decide +kernel)
      have e42 : u 42 = .bool false := hd 42 (by decide +kernel)
      refine wpOp_of rfl (by rw [← u1_eq e11]; kernel_rfl) ?_
      go_simp
      exact k_of (HK.out (.bool false) _ rfl hB (Below.refl _ _)) (by rw [← u1_eq e11, ← u1_eq e14, ← u1_eq e42]; kernel_rfl)
    · intro u W hB _ hd _ K hK
      have HK := Lib.hid hK; clear hK
      have e11 : u 11 = .bool false := hd 11 (by decide +kernel)
      have e43 : u 43 = .bool false := hd 43 (by decide +kernel)
      refine wpOp_of rfl (by rfl) ?_
      go_simp
      exact k_of (HK.out (.bool false) _ rfl hB (Below.refl _ _)) (by rw [← u1_eq e11, ← u1_eq e43]; kernel_rfl)
  · intro u W hB hd
    have e44 : u 44 = .bool false := hd 44 (by decide)
    exact k_of (HQ.out u W hB.out) (by simp only [e44])
end Go.Proofs.Ytkjfommdeljefaa
