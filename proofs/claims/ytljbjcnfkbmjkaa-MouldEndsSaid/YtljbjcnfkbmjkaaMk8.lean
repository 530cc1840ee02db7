/- MouldEnds: regions that draw their order. -/
import Derived.Test.YtljbjcnfkbmjkaaGj
namespace Go.Proofs.Ytljbjcnfkbmjkaa
open Go.RowKit Go.Shelf Go.Maps
attribute [local go_sem] Oper.semAt_some

/-- What each operation leaves. -/
def le4bR (m : Md) (N : Nat) : Nat → Value → World → Prop
  | 0, v, _ => v = .agg #[.int .i64 m.rings, .int .i64 m.give, .int .i64 m.plo, .int .i64 m.phi, .int .i64 m.wlo, .int .i64 m.whi, .int .i64 m.st, .int .i64 m.shrink, .int .i64 m.skin, .int .i64 m.fill, .int .i64 m.gap, .int .i64 m.deep]
  | 1, v, _ => v = .agg #[.int .i64 m.rings, .int .i64 m.give, .int .i64 m.plo, .int .i64 m.phi, .int .i64 m.wlo, .int .i64 m.whi, .int .i64 m.st, .int .i64 m.shrink, .int .i64 m.skin, .int .i64 m.fill, .int .i64 m.gap, .int .i64 m.deep]
  | 2, v, W => ∃ A1_2 d1_2 A2_2 d2_2, v = .agg #[.slice A1_2 (kR m) d1_2, .slice A2_2 N d2_2] ∧ IntsIn W A1_2 (samP m false) ∧ IntsIn W A2_2 (samW m false N)
  | 3, v, W => ∃ A_3 c_3, v = .slice A_3 (kR m) c_3 ∧ IntsIn W A_3 (whN m false N)
  | 4, v, _ => v = .agg #[.int .i64 m.rings, .int .i64 m.give, .int .i64 m.plo, .int .i64 m.phi, .int .i64 m.wlo, .int .i64 m.whi, .int .i64 m.st, .int .i64 m.shrink, .int .i64 m.skin, .int .i64 m.fill, .int .i64 m.gap, .int .i64 m.deep]
  | 5, v, _ => v = .agg #[.int .i64 m.rings, .int .i64 m.give, .int .i64 m.plo, .int .i64 m.phi, .int .i64 m.wlo, .int .i64 m.whi, .int .i64 m.st, .int .i64 m.shrink, .int .i64 m.skin, .int .i64 m.fill, .int .i64 m.gap, .int .i64 m.deep]
  | 6, v, W => ∃ A1_6 d1_6 A2_6 d2_6, v = .agg #[.slice A1_6 (kR m) d1_6, .slice A2_6 N d2_6] ∧ IntsIn W A1_6 (samP m true) ∧ IntsIn W A2_6 (samW m true N)
  | 7, v, W => ∃ A_7 c_7, v = .slice A_7 (kR m) c_7 ∧ IntsIn W A_7 (whN m true N)
  | 8, v, W => ∃ A_3 c_3, v = .slice A_3 (kR m) c_3 ∧ IntsIn W A_3 (whN m false N)
  | 9, v, W => ∃ A_7 c_7, v = .slice A_7 (kR m) c_7 ∧ IntsIn W A_7 (whN m true N)
  | _, _, _ => True
theorem le4bR_on (m : Md) (N : Nat) : ∀ i, i < 10 → ∀ v W W', le4bR m N i v W → Below W.heap.size W W' → le4bR m N i v W' := by
  iterate 10 (refine all_succ ?_ ?_)
  · exact all_zero
  · exact fun _ _ _ h _ => h
  · exact fun _ _ _ h _ => h
  · rintro v W W' ⟨A1_2, d1_2, A2_2, d2_2, e, h0, h1⟩ hb; exact ⟨A1_2, d1_2, A2_2, d2_2, e, h0.on hb, h1.on hb⟩
  · rintro v W W' ⟨A_3, c_3, e, h0⟩ hb; exact ⟨A_3, c_3, e, h0.on hb⟩
  · exact fun _ _ _ h _ => h
  · exact fun _ _ _ h _ => h
  · rintro v W W' ⟨A1_6, d1_6, A2_6, d2_6, e, h0, h1⟩ hb; exact ⟨A1_6, d1_6, A2_6, d2_6, e, h0.on hb, h1.on hb⟩
  · rintro v W W' ⟨A_7, c_7, e, h0⟩ hb; exact ⟨A_7, c_7, e, h0.on hb⟩
  · rintro v W W' ⟨A_3, c_3, e, h0⟩ hb; exact ⟨A_3, c_3, e, h0.on hb⟩
  · rintro v W W' ⟨A_7, c_7, e, h0⟩ hb; exact ⟨A_7, c_7, e, h0.on hb⟩
set_option maxRecDepth 100000 in
set_option maxHeartbeats 8000000 in
theorem le4b_region {S : World → Prop} (hon : ∀ W W', S W → Below W.heap.size W W' → S W') {w : World} {m : Md} (hM : ∀ W, S W → MdBk w w.heap.size 25 m W) {N : Nat} (HW : Hid (∀ (e : Bool) (W : World) (A1 A2 : Option Addr) (d1 d2 : Nat), IntsIn W A1 (samP m e) → IntsIn W A2 (samW m e N) → Calls Try.prog 40 #[.agg #[.int .i64 m.rings, .int .i64 m.give, .int .i64 m.plo, .int .i64 m.phi, .int .i64 m.wlo, .int .i64 m.whi, .int .i64 m.st, .int .i64 m.shrink, .int .i64 m.skin, .int .i64 m.fill, .int .i64 m.gap, .int .i64 m.deep], .agg #[.slice A1 (kR m) d1, .slice A2 N d2]] W fun e' w' => ∃ A c, e' = .returned (.slice A (kR m) c) ∧ IntsIn w' A (whN m e N) ∧ Below W.heap.size W w')) (HS0 : Hid (∀ W, Calls Try.prog 41 #[.agg #[.int .i64 m.rings, .int .i64 m.give, .int .i64 m.plo, .int .i64 m.phi, .int .i64 m.wlo, .int .i64 m.whi, .int .i64 m.st, .int .i64 m.shrink, .int .i64 m.skin, .int .i64 m.fill, .int .i64 m.gap, .int .i64 m.deep], .bool false, .int .i64 600] W fun e' w' => ∃ A1 c1 A2 c2, e' = .returned (.agg #[.slice A1 (kR m) c1, .slice A2 N c2]) ∧ IntsIn w' A1 (samP m false) ∧ IntsIn w' A2 (samW m false N) ∧ Below W.heap.size W w')) (HS1 : Hid (∀ W, Calls Try.prog 41 #[.agg #[.int .i64 m.rings, .int .i64 m.give, .int .i64 m.plo, .int .i64 m.phi, .int .i64 m.wlo, .int .i64 m.whi, .int .i64 m.st, .int .i64 m.shrink, .int .i64 m.skin, .int .i64 m.fill, .int .i64 m.gap, .int .i64 m.deep], .bool true, .int .i64 600] W fun e' w' => ∃ A1 c1 A2 c2, e' = .returned (.agg #[.slice A1 (kR m) c1, .slice A2 N c2]) ∧ IntsIn w' A1 (samP m true) ∧ IntsIn w' A2 (samW m true N) ∧ Below W.heap.size W w')) {Q : Exit → Act → World → Prop} {s0 s1 s3 s4 s5 s6 s9 s10 s11 s12 s13 s14 s15 s16 s17 s18 s19 s20 s21 s22 s23 s24 s25 s26 s27 s28 s29 s30 s31 s32 s33 s34 s35 s36 s37 s38 s39 s48 s49 s50 s51 s52 s53 s54 s55 s56 s57 s58 s59 s60 s61 s62 s63 s64 s65 s66 s67 s68 s69 s70 s71 s72 s73 s74 s75 s76 s77 s78 s79 s80 s81 s82 s83 s84 s85 s86 s87 s88 s89 s90 s91 s92 s93 s94 s95 s96 s97 s98 s99 s100 s101 s102 s103 s104 s105 s106 s107 s108 s109 s110 s111 : Value} {W0 : World} (HL : Hid (S W0))
    (HQ : Hid (∀ (u : Nat → Value) (A_8 : Option Addr) (c_8 : Nat) (A_9 : Option Addr) (c_9 : Nat) (W : World), IntsIn W A_8 (whN m false N) → IntsIn W A_9 (whN m true N) → S W → Q .normal ⟨#[s0, s1, .pointer (some ⟨w.heap.size, 0, none⟩), s3, s4, s5, s6, .slice A_8 (kR m) c_8, .slice A_9 (kR m) c_9, s9, s10, s11, s12, s13, s14, s15, s16, s17, s18, s19, s20, s21, s22, s23, s24, s25, s26, s27, s28, s29, s30, s31, s32, s33, s34, s35, s36, s37, s38, s39, u 0, u 1, u 2, u 3, u 4, u 5, u 6, u 7, s48, s49, s50, s51, s52, s53, s54, s55, s56, s57, s58, s59, s60, s61, s62, s63, s64, s65, s66, s67, s68, s69, s70, s71, s72, s73, s74, s75, s76, s77, s78, s79, s80, s81, s82, s83, s84, s85, s86, s87, s88, s89, s90, s91, s92, s93, s94, s95, s96, s97, s98, s99, s100, s101, s102, s103, s104, s105, s106, s107, s108, s109, s110, s111], []⟩ W)) :
    Code.wp Try.prog ((Try.f10.body.bind (regionAt 4)).getD .skip) Q ⟨#[s0, s1, .pointer (some ⟨w.heap.size, 0, none⟩), s3, s4, s5, s6, undef, undef, s9, s10, s11, s12, s13, s14, s15, s16, s17, s18, s19, s20, s21, s22, s23, s24, s25, s26, s27, s28, s29, s30, s31, s32, s33, s34, s35, s36, s37, s38, s39, undef, undef, undef, undef, undef, undef, undef, undef, s48, s49, s50, s51, s52, s53, s54, s55, s56, s57, s58, s59, s60, s61, s62, s63, s64, s65, s66, s67, s68, s69, s70, s71, s72, s73, s74, s75, s76, s77, s78, s79, s80, s81, s82, s83, s84, s85, s86, s87, s88, s89, s90, s91, s92, s93, s94, s95, s96, s97, s98, s99, s100, s101, s102, s103, s104, s105, s106, s107, s108, s109, s110, s111], []⟩ W0 := by
  conv => arg 2; whnf
  refine wp_region_spec (by kernel_rfl) 10 (by kernel_rfl) (fun u => ⟨#[s0, s1, .pointer (some ⟨w.heap.size, 0, none⟩), s3, s4, s5, s6, u 8, u 9, s9, s10, s11, s12, s13, s14, s15, s16, s17, s18, s19, s20, s21, s22, s23, s24, s25, s26, s27, s28, s29, s30, s31, s32, s33, s34, s35, s36, s37, s38, s39, u 0, u 1, u 2, u 3, u 4, u 5, u 6, u 7, s48, s49, s50, s51, s52, s53, s54, s55, s56, s57, s58, s59, s60, s61, s62, s63, s64, s65, s66, s67, s68, s69, s70, s71, s72, s73, s74, s75, s76, s77, s78, s79, s80, s81, s82, s83, s84, s85, s86, s87, s88, s89, s90, s91, s92, s93, s94, s95, s96, s97, s98, s99, s100, s101, s102, s103, s104, s105, s106, s107, s108, s109, s110, s111], []⟩) (fun i => undef) (fun W => Hid (S W)) (le4bR m N) (by kernel_rfl) (hon _ _ HL.out (Below.refl _ _).drew) (fun i v W W2 hi h hb => le4bR_on m N i hi v W W2 h hb) (by decide +kernel) ?_ ?_
  · iterate 10 (refine all_succ ?_ ?_)
    · exact all_zero
    · intro u W hB _ hd _ K hK
      have HK := Lib.hid hK; clear hK
      refine wpOp_of rfl (by rfl) ?_
      obtain ⟨c0, c1, c2, c3, c4, c5, c6, c7, c8, c9, c10, c11⟩ := (hM W hB.out).cells
      go_simp
      exact k_of (HK.out (.agg #[.int .i64 m.rings, .int .i64 m.give, .int .i64 m.plo, .int .i64 m.phi, .int .i64 m.wlo, .int .i64 m.whi, .int .i64 m.st, .int .i64 m.shrink, .int .i64 m.skin, .int .i64 m.fill, .int .i64 m.gap, .int .i64 m.deep]) _ rfl hB (Below.refl _ _)) (by kernel_rfl)
    · intro u W hB _ hd _ K hK
      have HK := Lib.hid hK; clear hK
      refine wpOp_of rfl (by rfl) ?_
      obtain ⟨c0, c1, c2, c3, c4, c5, c6, c7, c8, c9, c10, c11⟩ := (hM W hB.out).cells
      go_simp
      exact k_of (HK.out (.agg #[.int .i64 m.rings, .int .i64 m.give, .int .i64 m.plo, .int .i64 m.phi, .int .i64 m.wlo, .int .i64 m.whi, .int .i64 m.st, .int .i64 m.shrink, .int .i64 m.skin, .int .i64 m.fill, .int .i64 m.gap, .int .i64 m.deep]) _ rfl hB (Below.refl _ _)) (by kernel_rfl)
    · intro u W hB _ hd _ K hK
      have HK := Lib.hid hK; clear hK
      have e1 : u 1 = .agg #[.int .i64 m.rings, .int .i64 m.give, .int .i64 m.plo, .int .i64 m.phi, .int .i64 m.wlo, .int .i64 m.whi, .int .i64 m.st, .int .i64 m.shrink, .int .i64 m.skin, .int .i64 m.fill, .int .i64 m.gap, .int .i64 m.deep] := hd 1 (by decide +kernel)
      refine wpOp_of rfl (by rfl) ?_
      go_simp
      refine (HS0.out _).mono ?_
      rintro e w' ⟨A1, d1, A2, d2, rfl, i1, i2, hb⟩
      exact k_of (HK.out (.agg #[.slice A1 (kR m) d1, .slice A2 N d2]) _ ⟨A1, d1, A2, d2, rfl, i1, i2⟩ (hon _ _ hB.out hb) hb) (by rw [← u1_eq e1]; kernel_rfl)
    · intro u W hB _ hd _ K hK
      have HK := Lib.hid hK; clear hK
      have e0 : u 0 = .agg #[.int .i64 m.rings, .int .i64 m.give, .int .i64 m.plo, .int .i64 m.phi, .int .i64 m.wlo, .int .i64 m.whi, .int .i64 m.st, .int .i64 m.shrink, .int .i64 m.skin, .int .i64 m.fill, .int .i64 m.gap, .int .i64 m.deep] := hd 0 (by decide +kernel)
      obtain ⟨A1_2, d1_2, A2_2, d2_2, e2, f2_0, f2_1⟩ : le4bR m N 2 (u 2) W := hd 2 (by decide +kernel)
      refine wpOp_of rfl (by rfl) ?_
      go_simp
      refine (HW.out false W _ _ _ _ f2_0 f2_1).mono ?_
      rintro e w' ⟨A, c, rfl, i1, hb⟩
      exact k_of (HK.out (.slice A (kR m) c) _ ⟨A, c, rfl, i1⟩ (hon _ _ hB.out hb) hb) (by rw [← u1_eq e0, ← u1_eq e2]; kernel_rfl)
    · intro u W hB _ hd _ K hK
      have HK := Lib.hid hK; clear hK
      refine wpOp_of rfl (by rfl) ?_
      obtain ⟨c0, c1, c2, c3, c4, c5, c6, c7, c8, c9, c10, c11⟩ := (hM W hB.out).cells
      go_simp
      exact k_of (HK.out (.agg #[.int .i64 m.rings, .int .i64 m.give, .int .i64 m.plo, .int .i64 m.phi, .int .i64 m.wlo, .int .i64 m.whi, .int .i64 m.st, .int .i64 m.shrink, .int .i64 m.skin, .int .i64 m.fill, .int .i64 m.gap, .int .i64 m.deep]) _ rfl hB (Below.refl _ _)) (by kernel_rfl)
    · intro u W hB _ hd _ K hK
      have HK := Lib.hid hK; clear hK
      refine wpOp_of rfl (by rfl) ?_
      obtain ⟨c0, c1, c2, c3, c4, c5, c6, c7, c8, c9, c10, c11⟩ := (hM W hB.out).cells
      go_simp
      exact k_of (HK.out (.agg #[.int .i64 m.rings, .int .i64 m.give, .int .i64 m.plo, .int .i64 m.phi, .int .i64 m.wlo, .int .i64 m.whi, .int .i64 m.st, .int .i64 m.shrink, .int .i64 m.skin, .int .i64 m.fill, .int .i64 m.gap, .int .i64 m.deep]) _ rfl hB (Below.refl _ _)) (by kernel_rfl)
    · intro u W hB _ hd _ K hK
      have HK := Lib.hid hK; clear hK
      have e5 : u 5 = .agg #[.int .i64 m.rings, .int .i64 m.give, .int .i64 m.plo, .int .i64 m.phi, .int .i64 m.wlo, .int .i64 m.whi, .int .i64 m.st, .int .i64 m.shrink, .int .i64 m.skin, .int .i64 m.fill, .int .i64 m.gap, .int .i64 m.deep] := hd 5 (by decide +kernel)
      refine wpOp_of rfl (by rfl) ?_
      go_simp
      refine (HS1.out _).mono ?_
      rintro e w' ⟨A1, d1, A2, d2, rfl, i1, i2, hb⟩
      exact k_of (HK.out (.agg #[.slice A1 (kR m) d1, .slice A2 N d2]) _ ⟨A1, d1, A2, d2, rfl, i1, i2⟩ (hon _ _ hB.out hb) hb) (by rw [← u1_eq e5]; kernel_rfl)
    · intro u W hB _ hd _ K hK
      have HK := Lib.hid hK; clear hK
      have e4 : u 4 = .agg #[.int .i64 m.rings, .int .i64 m.give, .int .i64 m.plo, .int .i64 m.phi, .int .i64 m.wlo, .int .i64 m.whi, .int .i64 m.st, .int .i64 m.shrink, .int .i64 m.skin, .int .i64 m.fill, .int .i64 m.gap, .int .i64 m.deep] := hd 4 (by decide +kernel)
      obtain ⟨A1_6, d1_6, A2_6, d2_6, e6, f6_0, f6_1⟩ : le4bR m N 6 (u 6) W := hd 6 (by decide +kernel)
      refine wpOp_of rfl (by rfl) ?_
      go_simp
      refine (HW.out true W _ _ _ _ f6_0 f6_1).mono ?_
      rintro e w' ⟨A, c, rfl, i1, hb⟩
      exact k_of (HK.out (.slice A (kR m) c) _ ⟨A, c, rfl, i1⟩ (hon _ _ hB.out hb) hb) (by rw [← u1_eq e4, ← u1_eq e6]; kernel_rfl)
    · intro u W hB _ hd _ K hK
      have HK := Lib.hid hK; clear hK
      obtain ⟨A_3, c_3, e3, f3_0⟩ : le4bR m N 3 (u 3) W := hd 3 (by decide +kernel)
      refine wpOp_of rfl (by rfl) ?_
      go_simp
      exact k_of (HK.out (.slice A_3 (kR m) c_3) _ ⟨A_3, c_3, rfl, f3_0⟩ hB (Below.refl _ _)) (by rw [← u1_eq e3]; kernel_rfl)
    · intro u W hB _ hd _ K hK
      have HK := Lib.hid hK; clear hK
      obtain ⟨A_7, c_7, e7, f7_0⟩ : le4bR m N 7 (u 7) W := hd 7 (by decide +kernel)
      refine wpOp_of rfl (by rfl) ?_
      go_simp
      exact k_of (HK.out (.slice A_7 (kR m) c_7) _ ⟨A_7, c_7, rfl, f7_0⟩ hB (Below.refl _ _)) (by rw [← u1_eq e7]; kernel_rfl)
  · intro u W hB hd
    obtain ⟨A_8, c_8, e8, f8_0⟩ : le4bR m N 8 (u 8) W := hd 8 (by decide)
    obtain ⟨A_9, c_9, e9, f9_0⟩ : le4bR m N 9 (u 9) W := hd 9 (by decide)
    exact k_of (HQ.out u A_8 c_8 A_9 c_9 W f8_0 f9_0 hB.out) (by simp only [e8, e9])

/-- What each operation leaves. -/
def le14R (m : Md) (G : Nat) (Af : Option Addr) (kk cf : Nat) (B : Option Addr) (n d : Nat) (x1 x2 : Int) : Nat → Value → World → Prop
  | 0, v, _ => v = .bool false
  | 1, v, _ => v = .bool true
  | 2, v, _ => v = .bool true
  | 3, v, _ => v = .agg #[.int .i64 m.rings, .int .i64 m.give, .int .i64 m.plo, .int .i64 m.phi, .int .i64 m.wlo, .int .i64 m.whi, .int .i64 m.st, .int .i64 m.shrink, .int .i64 m.skin, .int .i64 m.fill, .int .i64 m.gap, .int .i64 m.deep]
  | 4, v, _ => v = .slice Af kk cf
  | 5, v, _ => v = .slice B n d
  | 6, v, _ => v = .bool true
  | 7, v, _ => v = .bool true
  | 8, v, _ => v = .bool true
  | 9, v, _ => v = .pointer (some ⟨G, 0, none⟩)
  | 10, v, _ => v = .agg #[.int .i64 x1, .int .i64 x2]
  | 11, v, _ => v = .int .i64 x1
  | 12, v, _ => v = .int .i64 x2
  | 13, v, _ => v = .agg #[.int .i64 x1, .int .i64 x2]
  | 14, v, _ => v = .bool true
  | 15, v, _ => v = .bool true
  | 16, v, _ => v = .bool true
  | 17, v, _ => v = .bool true
  | 18, v, _ => v = .bool true
  | 19, v, _ => v = .bool true
  | _, _, _ => True
theorem le14R_on (m : Md) (G : Nat) (Af : Option Addr) (kk cf : Nat) (B : Option Addr) (n d : Nat) (x1 x2 : Int) : ∀ i, i < 20 → ∀ v W W', le14R m G Af kk cf B n d x1 x2 i v W → Below W.heap.size W W' → le14R m G Af kk cf B n d x1 x2 i v W' := by
  iterate 20 (refine all_succ ?_ ?_)
  · exact all_zero
  · exact fun _ _ _ h _ => h
  · exact fun _ _ _ h _ => h
  · exact fun _ _ _ h _ => h
  · exact fun _ _ _ h _ => h
  · exact fun _ _ _ h _ => h
  · exact fun _ _ _ h _ => h
  · exact fun _ _ _ h _ => h
  · exact fun _ _ _ h _ => h
  · exact fun _ _ _ h _ => h
  · exact fun _ _ _ h _ => h
  · exact fun _ _ _ h _ => h
  · exact fun _ _ _ h _ => h
  · exact fun _ _ _ h _ => h
  · exact fun _ _ _ h _ => h
  · exact fun _ _ _ h _ => h
  · exact fun _ _ _ h _ => h
  · exact fun _ _ _ h _ => h
  · exact fun _ _ _ h _ => h
  · exact fun _ _ _ h _ => h
  · exact fun _ _ _ h _ => h
set_option maxRecDepth 100000 in
set_option maxHeartbeats 8000000 in
theorem le14_region {S : World → Prop} (hon : ∀ W W', S W → Below W.heap.size W W' → S W') {w : World} {m : Md} (hM : ∀ W, S W → MdBk w w.heap.size 25 m W) {G : Nat} {Af : Option Addr} {kk cf : Nat} {B : Option Addr} {n d : Nat} {x1 x2 x3 x4 : Int} {a l : List Int} (hf : ∀ W, S W → IntsIn W Af a) (hl : ∀ W, S W → IntsIn W B l) (hG : ∀ W, S W → Blk W G 45 #[.int .i64 x1, .int .i64 x2, .int .i64 x3, .int .i64 x4]) (HPo : Hid (∀ (W : World) (A : Option Addr) (c : Nat) (B : Option Addr) (d : Nat), IntsIn W A a → IntsIn W B l → Calls Try.prog 46 #[.agg #[.int .i64 m.rings, .int .i64 m.give, .int .i64 m.plo, .int .i64 m.phi, .int .i64 m.wlo, .int .i64 m.whi, .int .i64 m.st, .int .i64 m.shrink, .int .i64 m.skin, .int .i64 m.fill, .int .i64 m.gap, .int .i64 m.deep], .slice A kk c, .slice B n d] W fun e w' => e = .returned (.bool true) ∧ Below W.heap.size W w')) {Q : Exit → Act → World → Prop} {s0 s3 s6 s8 s10 s12 s14 s15 s16 s17 s18 s19 s20 s21 s22 s23 s24 s25 s26 s27 s28 s29 s30 s31 s32 s33 s34 s35 s36 s37 s38 s39 s40 s41 s42 s43 s44 s45 s46 s47 s48 s49 s50 s51 s52 s53 s54 s55 s56 s57 s58 s59 s60 s61 s62 s63 s64 s65 s66 s67 s68 s69 s70 s71 s72 s73 s74 s75 s76 s77 s78 s79 s80 s81 s82 s83 s84 s85 s86 s87 s88 s89 s90 s91 s92 : Value} {W0 : World} (HL : Hid (S W0))
    (HQ : Hid (∀ (u : Nat → Value) (W : World), S W → Q .normal ⟨#[s0, .slice B n d, .pointer (some ⟨w.heap.size, 0, none⟩), s3, .bool true, .pointer (some ⟨G, 0, none⟩), s6, .slice Af kk cf, s8, .bool false, s10, .int .i64 x1, s12, .int .i64 x2, s14, s15, s16, s17, s18, s19, s20, s21, s22, s23, s24, s25, s26, s27, s28, s29, s30, s31, s32, s33, s34, s35, s36, s37, s38, s39, s40, s41, s42, s43, s44, s45, s46, s47, s48, s49, s50, s51, s52, s53, s54, s55, s56, s57, s58, s59, s60, s61, s62, s63, s64, s65, s66, s67, s68, s69, s70, s71, s72, s73, s74, s75, s76, s77, s78, s79, s80, s81, s82, s83, s84, s85, s86, s87, s88, s89, s90, s91, s92, u 0, u 1, u 2, u 3, u 4, u 5, u 6, u 7, u 8, u 9, u 10, u 11, u 12, u 13, u 14, u 15, u 16, u 17, u 18], []⟩ W)) :
    Code.wp Try.prog ((Try.f10.body.bind (regionAt 14)).getD .skip) Q ⟨#[s0, .slice B n d, .pointer (some ⟨w.heap.size, 0, none⟩), s3, .bool false, .pointer (some ⟨G, 0, none⟩), s6, .slice Af kk cf, s8, .bool false, s10, .int .i64 x1, s12, .int .i64 x2, s14, s15, s16, s17, s18, s19, s20, s21, s22, s23, s24, s25, s26, s27, s28, s29, s30, s31, s32, s33, s34, s35, s36, s37, s38, s39, s40, s41, s42, s43, s44, s45, s46, s47, s48, s49, s50, s51, s52, s53, s54, s55, s56, s57, s58, s59, s60, s61, s62, s63, s64, s65, s66, s67, s68, s69, s70, s71, s72, s73, s74, s75, s76, s77, s78, s79, s80, s81, s82, s83, s84, s85, s86, s87, s88, s89, s90, s91, s92, undef, undef, undef, undef, undef, undef, undef, undef, undef, undef, undef, undef, undef, undef, undef, undef, undef, undef, undef], []⟩ W0 := by
  conv => arg 2; whnf
  refine wp_region_spec (by kernel_rfl) 20 (by kernel_rfl) (fun u => ⟨#[s0, .slice B n d, .pointer (some ⟨w.heap.size, 0, none⟩), s3, u 19, .pointer (some ⟨G, 0, none⟩), s6, .slice Af kk cf, s8, .bool false, s10, .int .i64 x1, s12, .int .i64 x2, s14, s15, s16, s17, s18, s19, s20, s21, s22, s23, s24, s25, s26, s27, s28, s29, s30, s31, s32, s33, s34, s35, s36, s37, s38, s39, s40, s41, s42, s43, s44, s45, s46, s47, s48, s49, s50, s51, s52, s53, s54, s55, s56, s57, s58, s59, s60, s61, s62, s63, s64, s65, s66, s67, s68, s69, s70, s71, s72, s73, s74, s75, s76, s77, s78, s79, s80, s81, s82, s83, s84, s85, s86, s87, s88, s89, s90, s91, s92, u 0, u 1, u 2, u 3, u 4, u 5, u 6, u 7, u 8, u 9, u 10, u 11, u 12, u 13, u 14, u 15, u 16, u 17, u 18], []⟩) (fun i => if i = 19 then .bool false else undef) (fun W => Hid (S W)) (le14R m G Af kk cf B n d x1 x2) (by kernel_rfl) (hon _ _ HL.out (Below.refl _ _).drew) (fun i v W W2 hi h hb => le14R_on m G Af kk cf B n d x1 x2 i hi v W W2 h hb) (by decide +kernel) ?_ ?_
  · iterate 20 (refine all_succ ?_ ?_)
    · exact all_zero
    · intro u W hB _ hd _ K hK
      have HK := Lib.hid hK; clear hK
      refine wpOp_of rfl (by rfl) ?_
      go_simp
      exact k_of (HK.out (.bool false) _ rfl hB (Below.refl _ _)) (by kernel_rfl)
    · intro u W hB _ hd _ K hK
      have HK := Lib.hid hK; clear hK
      have e0 : u 0 = .bool false := hd 0 (by decide +kernel)
      refine wpOp_of rfl (by rfl) ?_
      go_simp
      exact k_of (HK.out (.bool true) _ rfl hB (Below.refl _ _)) (by rw [← u1_eq e0]; kernel_rfl)
    · intro u W hB _ hd _ K hK
      have HK := Lib.hid hK; clear hK
      have e1 : u 1 = .bool true := hd 1 (by decide +kernel)
      refine wpOp_of rfl (by rfl) ?_
      go_simp
      exact k_of (HK.out (.bool true) _ rfl hB (Below.refl _ _)) (by rw [← u1_eq e1]; kernel_rfl)
    · intro u W hB _ hd _ K hK
      have HK := Lib.hid hK; clear hK
      have e2 : u 2 = .bool true := hd 2 (by decide +kernel)
      refine wpOp_of rfl (by rw [← u1_eq e2]; kernel_rfl) ?_
      obtain ⟨c0, c1, c2, c3, c4, c5, c6, c7, c8, c9, c10, c11⟩ := (hM W hB.out).cells
      go_simp
      exact k_of (HK.out (.agg #[.int .i64 m.rings, .int .i64 m.give, .int .i64 m.plo, .int .i64 m.phi, .int .i64 m.wlo, .int .i64 m.whi, .int .i64 m.st, .int .i64 m.shrink, .int .i64 m.skin, .int .i64 m.fill, .int .i64 m.gap, .int .i64 m.deep]) _ rfl hB (Below.refl _ _)) (by rw [← u1_eq e2]; kernel_rfl)
    · intro u W hB _ hd _ K hK
      have HK := Lib.hid hK; clear hK
      have e2 : u 2 = .bool true := hd 2 (by decide +kernel)
      refine wpOp_of rfl (by rw [← u1_eq e2]; kernel_rfl) ?_
      go_simp
      exact k_of (HK.out (.slice Af kk cf) _ rfl hB (Below.refl _ _)) (by rw [← u1_eq e2]; kernel_rfl)
    · intro u W hB _ hd _ K hK
      have HK := Lib.hid hK; clear hK
      have e2 : u 2 = .bool true := hd 2 (by decide +kernel)
      refine wpOp_of rfl (by rw [← u1_eq e2]; kernel_rfl) ?_
      go_simp
      exact k_of (HK.out (.slice B n d) _ rfl hB (Below.refl _ _)) (by rw [← u1_eq e2]; kernel_rfl)
    · intro u W hB _ hd _ K hK
      have HK := Lib.hid hK; clear hK
      have e2 : u 2 = .bool true := hd 2 (by decide +kernel)
      have e3 : u 3 = .agg #[.int .i64 m.rings, .int .i64 m.give, .int .i64 m.plo, .int .i64 m.phi, .int .i64 m.wlo, .int .i64 m.whi, .int .i64 m.st, .int .i64 m.shrink, .int .i64 m.skin, .int .i64 m.fill, .int .i64 m.gap, .int .i64 m.deep] := hd 3 (by decide +kernel)
      have e4 : u 4 = .slice Af kk cf := hd 4 (by decide +kernel)
      have e5 : u 5 = .slice B n d := hd 5 (by decide +kernel)
      refine wpOp_of rfl (by rw [← u1_eq e2]; kernel_rfl) ?_
      go_simp
      refine (HPo.out W Af cf B d (hf W hB.out) (hl W hB.out)).mono ?_
      rintro e w' ⟨rfl, hb⟩
      exact k_of (HK.out (.bool true) _ rfl (hon _ _ hB.out hb) hb) (by rw [← u1_eq e2, ← u1_eq e3, ← u1_eq e4, ← u1_eq e5]; kernel_rfl)
    · intro u W hB _ hd _ K hK
      have HK := Lib.hid hK; clear hK
      have e2 : u 2 = .bool true := hd 2 (by decide +kernel)
      have e6 : u 6 = .bool true := hd 6 (by decide +kernel)
      refine wpOp_of rfl (by rfl) ?_
      go_simp
      exact k_of (HK.out (.bool true) _ rfl hB (Below.refl _ _)) (by rw [← u1_eq e2, ← u1_eq e6]; kernel_rfl)
    · intro u W hB _ hd _ K hK
      have HK := Lib.hid hK; clear hK
      have e7 : u 7 = .bool true := hd 7 (by decide +kernel)
      refine wpOp_of rfl (by rfl) ?_
      go_simp
      exact k_of (HK.out (.bool true) _ rfl hB (Below.refl _ _)) (by rw [← u1_eq e7]; kernel_rfl)
    · intro u W hB _ hd _ K hK
      have HK := Lib.hid hK; clear hK
      have e8 : u 8 = .bool true := hd 8 (by decide +kernel)
      refine wpOp_of rfl (by rw [← u1_eq e8]; kernel_rfl) ?_
      go_simp
      exact k_of (HK.out (.pointer (some ⟨G, 0, none⟩)) _ rfl hB (Below.refl _ _)) (by rw [← u1_eq e8]; kernel_rfl)
    · intro u W hB _ hd _ K hK
      have HK := Lib.hid hK; clear hK
      have e8 : u 8 = .bool true := hd 8 (by decide +kernel)
      have e9 : u 9 = .pointer (some ⟨G, 0, none⟩) := hd 9 (by decide +kernel)
      refine wpOp_of rfl (by rw [← u1_eq e8]; kernel_rfl) ?_
      have d0 := (hG W hB.out).cell 0; have d1 := (hG W hB.out).cell 1
      go_simp
      exact k_of (HK.out (.agg #[.int .i64 x1, .int .i64 x2]) _ rfl hB (Below.refl _ _)) (by rw [← u1_eq e8, ← u1_eq e9]; kernel_rfl)
    · intro u W hB _ hd _ K hK
      have HK := Lib.hid hK; clear hK
      have e8 : u 8 = .bool true := hd 8 (by decide +kernel)
      refine wpOp_of rfl (by rw [← u1_eq e8]; kernel_rfl) ?_
      go_simp
      exact k_of (HK.out (.int .i64 x1) _ rfl hB (Below.refl _ _)) (by rw [← u1_eq e8]; kernel_rfl)
    · intro u W hB _ hd _ K hK
      have HK := Lib.hid hK; clear hK
      have e8 : u 8 = .bool true := hd 8 (by decide +kernel)
      refine wpOp_of rfl (by rw [← u1_eq e8]; kernel_rfl) ?_
      go_simp
      exact k_of (HK.out (.int .i64 x2) _ rfl hB (Below.refl _ _)) (by rw [← u1_eq e8]; kernel_rfl)
    · intro u W hB _ hd _ K hK
      have HK := Lib.hid hK; clear hK
      have e8 : u 8 = .bool true := hd 8 (by decide +kernel)
      have e11 : u 11 = .int .i64 x1 := hd 11 (by decide +kernel)
      have e12 : u 12 = .int .i64 x2 := hd 12 (by decide +kernel)
      refine wpOp_of rfl (by rw [← u1_eq e8]; kernel_rfl) ?_
      go_simp
      refine (span_any x1 x2 W).mono ?_
      rintro e w' ⟨rfl, hb⟩
      exact k_of (HK.out (.agg #[.int .i64 x1, .int .i64 x2]) _ rfl (hon _ _ hB.out hb) hb) (by rw [← u1_eq e8, ← u1_eq e11, ← u1_eq e12]; kernel_rfl)
    · intro u W hB _ hd _ K hK
      have HK := Lib.hid hK; clear hK
      have e8 : u 8 = .bool true := hd 8 (by decide +kernel)
      have e10 : u 10 = .agg #[.int .i64 x1, .int .i64 x2] := hd 10 (by decide +kernel)
      have e13 : u 13 = .agg #[.int .i64 x1, .int .i64 x2] := hd 13 (by decide +kernel)
      refine wpOp_of rfl (by rw [← u1_eq e8]; kernel_rfl) ?_
      have hne := spn_eq x1 x2
      go_simp
      exact k_of (HK.out (.bool true) _ rfl hB (Below.refl _ _)) (by rw [← u1_eq e8, ← u1_eq e10, ← u1_eq e13]; kernel_rfl)
    · intro u W hB _ hd _ K hK
      have HK := Lib.hid hK; clear hK
      have e8 : u 8 = .bool true := hd 8 (by decide +kernel)
      have e14 : u 14 = .bool true := hd 14 (by decide +kernel)
      refine wpOp_of rfl (by rfl) ?_
      go_simp
      exact k_of (HK.out (.bool true) _ rfl hB (Below.refl _ _)) (by rw [← u1_eq e8, ← u1_eq e14]; kernel_rfl)
    · intro u W hB _ hd _ K hK
      have HK := Lib.hid hK; clear hK
      have e15 : u 15 = .bool true := hd 15 (by decide +kernel)
      refine wpOp_of rfl (by rfl) ?_
      go_simp
      exact k_of (HK.out (.bool true) _ rfl hB (Below.refl _ _)) (by rw [← u1_eq e15]; kernel_rfl)
    · intro u W hB _ hd _ K hK
      have HK := Lib.hid hK; clear hK
      have e16 : u 16 = .bool true := hd 16 (by decide +kernel)
      refine wpOp_of rfl (by rw [← u1_eq e16]; kernel_rfl) ?_
      go_simp
      refine (awake_any W).mono ?_
      rintro e w' ⟨rfl, hb⟩
      exact k_of (HK.out (.bool true) _ rfl (hon _ _ hB.out hb) hb) (by rw [← u1_eq e16]; kernel_rfl)
    · intro u W hB _ hd _ K hK
      have HK := Lib.hid hK; clear hK
      have e16 : u 16 = .bool true := hd 16 (by decide +kernel)
      have e17 : u 17 = .bool true := hd 17 (by decide +kernel)
      refine wpOp_of rfl (by rfl) ?_
      go_simp
      exact k_of (HK.out (.bool true) _ rfl hB (Below.refl _ _)) (by rw [← u1_eq e16, ← u1_eq e17]; kernel_rfl)
    · intro u W hB _ hd _ K hK
      have HK := Lib.hid hK; clear hK
      have e18 : u 18 = .bool true := hd 18 (by decide +kernel)
      refine wpOp_of rfl (by rfl) ?_
      go_simp
      exact k_of (HK.out (.bool true) _ rfl hB (Below.refl _ _)) (by rw [← u1_eq e18]; kernel_rfl)
  · intro u W hB hd
    have e19 : u 19 = .bool true := hd 19 (by decide)
    exact k_of (HQ.out u W hB.out) (by simp only [e19])
end Go.Proofs.Ytljbjcnfkbmjkaa
