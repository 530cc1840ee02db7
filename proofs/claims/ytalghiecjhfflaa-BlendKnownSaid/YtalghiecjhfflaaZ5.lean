/- BlendKnown: regions. -/
import Derived.Test.YtalghiecjhfflaaZ4
namespace Go.Proofs.Ytalghiecjhfflaa
open Go.RowKit Go.Shelf Go.Maps
attribute [local go_sem] Oper.semAt_some

theorem keq_1 (W : World) : (binOp .eql 36 (.agg #[.int .i64 0, .int .i64 1200]) (.agg #[.int .i64 0, .int .i64 1200])).run Try.prog W = .ok (.bool true) W := by kernel_rfl

/-- What each operation leaves. -/
def kn0R (P : Nat) : Nat → Value → World → Prop
  | 0, v, W => ∃ K_0 X_0, v = .slice (some ⟨X_0, 0, none⟩) 3 3 ∧ BwsIn W (some ⟨X_0, 0, none⟩) (exL K_0)
  | 1, v, _ => v = .slice (some ⟨P, 0, none⟩) 3 3
  | 2, v, _ => v = .int .i64 0
  | 3, v, _ => v = .pointer (some ⟨P, 0, none⟩)
  | 4, v, _ => v = .int .i64 1
  | 5, v, _ => v = .tuple #[.int .i64 10, .int .i64 0]
  | 6, v, _ => v = .tuple #[.int .i64 10, .int .i64 0]
  | 7, v, _ => v = .int .i64 10
  | 8, v, _ => v = .int .i64 0
  | 9, v, _ => v = .int .i64 10
  | 10, v, _ => v = .int .i64 0
  | _, _, _ => True
theorem kn0R_on (P : Nat) : ∀ i, i < 11 → ∀ v W W', kn0R P i v W → Below W.heap.size W W' → kn0R P i v W' := by
  iterate 11 (refine all_succ ?_ ?_)
  · exact all_zero
  · rintro v W W' ⟨K_0, X_0, e, h0⟩ hb; exact ⟨K_0, X_0, e, h0.on hb⟩
  · exact fun _ _ _ h _ => h
  · exact fun _ _ _ h _ => h
  · exact fun _ _ _ h _ => h
  · exact fun _ _ _ h _ => h
  · exact fun _ _ _ h _ => h
  · exact fun _ _ _ h _ => h
  · exact fun _ _ _ h _ => h
  · exact fun _ _ _ h _ => h
  · exact fun _ _ _ h _ => h
  · exact fun _ _ _ h _ => h
set_option maxRecDepth 100000 in
set_option maxHeartbeats 8000000 in
theorem kn0_region {S : World → Prop} (hon : ∀ W W', S W → Below W.heap.size W W' → S W') {P : Nat} (hP : ∀ W, S W → Blk W P 3 #[.int .i64 1, .int .i64 2, .int .i64 5]) {Q : Exit → Act → World → Prop} {s0 s2 s6 s7 s8 s9 s10 s11 s12 s13 s14 s15 s16 s17 s18 s19 s20 s21 s31 s32 s33 s34 s35 s36 s37 s38 s39 s40 s41 s42 s43 s44 s45 s46 s47 s48 s49 s50 s51 s52 s53 s54 s55 s56 s57 s58 s59 s60 s61 s62 s63 s64 s65 s66 s67 s68 s69 s70 s71 s72 s73 s74 s75 s76 s77 s78 s79 s80 s81 s82 s83 s84 s85 s86 s87 s88 s89 s90 s91 s92 s93 s94 s95 s96 s97 s98 s99 s100 s101 s102 s103 s104 s105 s106 s107 s108 s109 s110 s111 s112 s113 s114 s115 s116 s117 s118 s4 s5 s22 s23 s24 s25 s26 s27 s28 s29 s30 : Value} {W0 : World} (HL : Hid (S W0))
    (HQ : Hid (∀ (u : Nat → Value) (W : World), S W → Q .normal ⟨#[s0, .slice (some ⟨P, 0, none⟩) 3 3, s2, .int .i64 0, .int .i64 10, .int .i64 0, s6, s7, s8, s9, s10, s11, s12, s13, s14, s15, s16, s17, s18, s19, s20, s21, u 6, u 0, u 1, u 2, u 3, u 4, u 5, u 7, u 8, s31, s32, s33, s34, s35, s36, s37, s38, s39, s40, s41, s42, s43, s44, s45, s46, s47, s48, s49, s50, s51, s52, s53, s54, s55, s56, s57, s58, s59, s60, s61, s62, s63, s64, s65, s66, s67, s68, s69, s70, s71, s72, s73, s74, s75, s76, s77, s78, s79, s80, s81, s82, s83, s84, s85, s86, s87, s88, s89, s90, s91, s92, s93, s94, s95, s96, s97, s98, s99, s100, s101, s102, s103, s104, s105, s106, s107, s108, s109, s110, s111, s112, s113, s114, s115, s116, s117, s118], []⟩ W)) :
    Code.wp Try.prog ((Try.f6.body.bind (regionAt 6)).getD .skip) Q ⟨#[s0, .slice (some ⟨P, 0, none⟩) 3 3, s2, .int .i64 0, s4, s5, s6, s7, s8, s9, s10, s11, s12, s13, s14, s15, s16, s17, s18, s19, s20, s21, s22, s23, s24, s25, s26, s27, s28, s29, s30, s31, s32, s33, s34, s35, s36, s37, s38, s39, s40, s41, s42, s43, s44, s45, s46, s47, s48, s49, s50, s51, s52, s53, s54, s55, s56, s57, s58, s59, s60, s61, s62, s63, s64, s65, s66, s67, s68, s69, s70, s71, s72, s73, s74, s75, s76, s77, s78, s79, s80, s81, s82, s83, s84, s85, s86, s87, s88, s89, s90, s91, s92, s93, s94, s95, s96, s97, s98, s99, s100, s101, s102, s103, s104, s105, s106, s107, s108, s109, s110, s111, s112, s113, s114, s115, s116, s117, s118], []⟩ W0 := by
  conv => arg 2; whnf
  refine wp_region_spec (by kernel_rfl) 11 (by kernel_rfl) (fun u => ⟨#[s0, .slice (some ⟨P, 0, none⟩) 3 3, s2, .int .i64 0, u 9, u 10, s6, s7, s8, s9, s10, s11, s12, s13, s14, s15, s16, s17, s18, s19, s20, s21, u 6, u 0, u 1, u 2, u 3, u 4, u 5, u 7, u 8, s31, s32, s33, s34, s35, s36, s37, s38, s39, s40, s41, s42, s43, s44, s45, s46, s47, s48, s49, s50, s51, s52, s53, s54, s55, s56, s57, s58, s59, s60, s61, s62, s63, s64, s65, s66, s67, s68, s69, s70, s71, s72, s73, s74, s75, s76, s77, s78, s79, s80, s81, s82, s83, s84, s85, s86, s87, s88, s89, s90, s91, s92, s93, s94, s95, s96, s97, s98, s99, s100, s101, s102, s103, s104, s105, s106, s107, s108, s109, s110, s111, s112, s113, s114, s115, s116, s117, s118], []⟩) (fun i => if i = 0 then s23 else if i = 1 then s24 else if i = 2 then s25 else if i = 3 then s26 else if i = 4 then s27 else if i = 5 then s28 else if i = 6 then s22 else if i = 7 then s29 else if i = 8 then s30 else if i = 9 then s4 else if i = 10 then s5 else undef) (fun W => Hid (S W)) (kn0R P) (by kernel_rfl) (hon _ _ HL.out (Below.refl _ _).drew) (fun i v W W2 hi h hb => kn0R_on P i hi v W W2 h hb) (by decide +kernel) ?_ ?_
  · iterate 11 (refine all_succ ?_ ?_)
    · exact all_zero
    · intro u W hB _ hd _ K hK
      have HK := Lib.hid hK; clear hK
      refine wpOp_of rfl (by rfl) ?_
      go_simp
      refine (lwaxes_any _).mono ?_
      rintro e w' ⟨K, X, rfl, hx, hb⟩
      exact k_of (HK.out (.slice (some ⟨X, 0, none⟩) 3 3) _ ⟨K, X, rfl, hx⟩ (hon _ _ hB.out hb) hb) (by kernel_rfl)
    · intro u W hB _ hd _ K hK
      have HK := Lib.hid hK; clear hK
      refine wpOp_of rfl (by rfl) ?_
      go_simp
      exact k_of (HK.out (.slice (some ⟨P, 0, none⟩) 3 3) _ rfl hB (Below.refl _ _)) (by kernel_rfl)
    · intro u W hB _ hd _ K hK
      have HK := Lib.hid hK; clear hK
      refine wpOp_of rfl (by rfl) ?_
      go_simp
      exact k_of (HK.out (.int .i64 0) _ rfl hB (Below.refl _ _)) (by kernel_rfl)
    · intro u W hB _ hd _ K hK
      have HK := Lib.hid hK; clear hK
      have e1 : u 1 = .slice (some ⟨P, 0, none⟩) 3 3 := hd 1 (by decide +kernel)
      have e2 : u 2 = .int .i64 0 := hd 2 (by decide +kernel)
      refine wpOp_of rfl (by rfl) ?_
      go_simp
      exact k_of (HK.out (.pointer (some ⟨P, 0, none⟩)) _ rfl hB (Below.refl _ _)) (by rw [← u1_eq e1, ← u1_eq e2]; kernel_rfl)
    · intro u W hB _ hd _ K hK
      have HK := Lib.hid hK; clear hK
      have e3 : u 3 = .pointer (some ⟨P, 0, none⟩) := hd 3 (by decide +kernel)
      refine wpOp_of rfl (by rfl) ?_
      have z0 := (hP W hB.out).cell 0
      go_simp
      exact k_of (HK.out (.int .i64 1) _ rfl hB (Below.refl _ _)) (by rw [← u1_eq e3]; kernel_rfl)
    · intro u W hB _ hd _ K hK
      have HK := Lib.hid hK; clear hK
      obtain ⟨K_0, X_0, e0, f0_0⟩ : kn0R P 0 (u 0) W := hd 0 (by decide +kernel)
      have e4 : u 4 = .int .i64 1 := hd 4 (by decide +kernel)
      refine wpOp_of rfl (by rfl) ?_
      go_simp
      refine (aw_raise (ev_r1 _) f0_0).mono ?_
      rintro e w' ⟨rfl, hb⟩
      exact k_of (HK.out (.tuple #[.int .i64 10, .int .i64 0]) _ rfl (hon _ _ hB.out hb) hb) (by rw [← u1_eq e0, ← u1_eq e4]; kernel_rfl)
    · intro u W hB _ hd _ K hK
      have HK := Lib.hid hK; clear hK
      have e5 : u 5 = .tuple #[.int .i64 10, .int .i64 0] := hd 5 (by decide +kernel)
      refine wpOp_of rfl (by rfl) ?_
      go_simp
      exact k_of (HK.out (.tuple #[.int .i64 10, .int .i64 0]) _ rfl hB (Below.refl _ _)) (by rw [← u1_eq e5]; kernel_rfl)
    · intro u W hB _ hd _ K hK
      have HK := Lib.hid hK; clear hK
      have e6 : u 6 = .tuple #[.int .i64 10, .int .i64 0] := hd 6 (by decide +kernel)
      refine wpOp_of rfl (by rfl) ?_
      go_simp
      exact k_of (HK.out (.int .i64 10) _ rfl hB (Below.refl _ _)) (by rw [← u1_eq e6]; kernel_rfl)
    · intro u W hB _ hd _ K hK
      have HK := Lib.hid hK; clear hK
      have e6 : u 6 = .tuple #[.int .i64 10, .int .i64 0] := hd 6 (by decide +kernel)
      refine wpOp_of rfl (by rfl) ?_
      go_simp
      exact k_of (HK.out (.int .i64 0) _ rfl hB (Below.refl _ _)) (by rw [← u1_eq e6]; kernel_rfl)
    · intro u W hB _ hd _ K hK
      have HK := Lib.hid hK; clear hK
      have e7 : u 7 = .int .i64 10 := hd 7 (by decide +kernel)
      refine wpOp_of rfl (by rfl) ?_
      go_simp
      exact k_of (HK.out (.int .i64 10) _ rfl hB (Below.refl _ _)) (by rw [← u1_eq e7]; kernel_rfl)
    · intro u W hB _ hd _ K hK
      have HK := Lib.hid hK; clear hK
      have e8 : u 8 = .int .i64 0 := hd 8 (by decide +kernel)
      refine wpOp_of rfl (by rfl) ?_
      go_simp
      exact k_of (HK.out (.int .i64 0) _ rfl hB (Below.refl _ _)) (by rw [← u1_eq e8]; kernel_rfl)
  · intro u W hB hd
    have e9 : u 9 = .int .i64 10 := hd 9 (by decide)
    have e10 : u 10 = .int .i64 0 := hd 10 (by decide)
    exact k_of (HQ.out u W hB.out) (by simp only [e9, e10])

/-- What each operation leaves. -/
def kn1R (P : Nat) : Nat → Value → World → Prop
  | 0, v, W => ∃ K_0 X_0, v = .slice (some ⟨X_0, 0, none⟩) 3 3 ∧ BwsIn W (some ⟨X_0, 0, none⟩) (exL K_0)
  | 1, v, _ => v = .slice (some ⟨P, 0, none⟩) 3 3
  | 2, v, _ => v = .int .i64 1
  | 3, v, _ => v = .pointer (some ⟨P, 1, none⟩)
  | 4, v, _ => v = .int .i64 2
  | 5, v, _ => v = .tuple #[.int .i64 20, .int .i64 0]
  | 6, v, _ => v = .tuple #[.int .i64 20, .int .i64 0]
  | 7, v, _ => v = .int .i64 20
  | 8, v, _ => v = .int .i64 0
  | 9, v, _ => v = .int .i64 20
  | 10, v, _ => v = .int .i64 0
  | _, _, _ => True
theorem kn1R_on (P : Nat) : ∀ i, i < 11 → ∀ v W W', kn1R P i v W → Below W.heap.size W W' → kn1R P i v W' := by
  iterate 11 (refine all_succ ?_ ?_)
  · exact all_zero
  · rintro v W W' ⟨K_0, X_0, e, h0⟩ hb; exact ⟨K_0, X_0, e, h0.on hb⟩
  · exact fun _ _ _ h _ => h
  · exact fun _ _ _ h _ => h
  · exact fun _ _ _ h _ => h
  · exact fun _ _ _ h _ => h
  · exact fun _ _ _ h _ => h
  · exact fun _ _ _ h _ => h
  · exact fun _ _ _ h _ => h
  · exact fun _ _ _ h _ => h
  · exact fun _ _ _ h _ => h
  · exact fun _ _ _ h _ => h
set_option maxRecDepth 100000 in
set_option maxHeartbeats 8000000 in
theorem kn1_region {S : World → Prop} (hon : ∀ W W', S W → Below W.heap.size W W' → S W') {P : Nat} (hP : ∀ W, S W → Blk W P 3 #[.int .i64 1, .int .i64 2, .int .i64 5]) {Q : Exit → Act → World → Prop} {s0 s2 s6 s7 s8 s9 s10 s11 s12 s13 s14 s15 s16 s17 s18 s19 s20 s21 s31 s32 s33 s34 s35 s36 s37 s38 s39 s40 s41 s42 s43 s44 s45 s46 s47 s48 s49 s50 s51 s52 s53 s54 s55 s56 s57 s58 s59 s60 s61 s62 s63 s64 s65 s66 s67 s68 s69 s70 s71 s72 s73 s74 s75 s76 s77 s78 s79 s80 s81 s82 s83 s84 s85 s86 s87 s88 s89 s90 s91 s92 s93 s94 s95 s96 s97 s98 s99 s100 s101 s102 s103 s104 s105 s106 s107 s108 s109 s110 s111 s112 s113 s114 s115 s116 s117 s118 s4 s5 s22 s23 s24 s25 s26 s27 s28 s29 s30 : Value} {W0 : World} (HL : Hid (S W0))
    (HQ : Hid (∀ (u : Nat → Value) (W : World), S W → Q .normal ⟨#[s0, .slice (some ⟨P, 0, none⟩) 3 3, s2, .int .i64 1, .int .i64 20, .int .i64 0, s6, s7, s8, s9, s10, s11, s12, s13, s14, s15, s16, s17, s18, s19, s20, s21, u 6, u 0, u 1, u 2, u 3, u 4, u 5, u 7, u 8, s31, s32, s33, s34, s35, s36, s37, s38, s39, s40, s41, s42, s43, s44, s45, s46, s47, s48, s49, s50, s51, s52, s53, s54, s55, s56, s57, s58, s59, s60, s61, s62, s63, s64, s65, s66, s67, s68, s69, s70, s71, s72, s73, s74, s75, s76, s77, s78, s79, s80, s81, s82, s83, s84, s85, s86, s87, s88, s89, s90, s91, s92, s93, s94, s95, s96, s97, s98, s99, s100, s101, s102, s103, s104, s105, s106, s107, s108, s109, s110, s111, s112, s113, s114, s115, s116, s117, s118], []⟩ W)) :
    Code.wp Try.prog ((Try.f6.body.bind (regionAt 6)).getD .skip) Q ⟨#[s0, .slice (some ⟨P, 0, none⟩) 3 3, s2, .int .i64 1, s4, s5, s6, s7, s8, s9, s10, s11, s12, s13, s14, s15, s16, s17, s18, s19, s20, s21, s22, s23, s24, s25, s26, s27, s28, s29, s30, s31, s32, s33, s34, s35, s36, s37, s38, s39, s40, s41, s42, s43, s44, s45, s46, s47, s48, s49, s50, s51, s52, s53, s54, s55, s56, s57, s58, s59, s60, s61, s62, s63, s64, s65, s66, s67, s68, s69, s70, s71, s72, s73, s74, s75, s76, s77, s78, s79, s80, s81, s82, s83, s84, s85, s86, s87, s88, s89, s90, s91, s92, s93, s94, s95, s96, s97, s98, s99, s100, s101, s102, s103, s104, s105, s106, s107, s108, s109, s110, s111, s112, s113, s114, s115, s116, s117, s118], []⟩ W0 := by
  conv => arg 2; whnf
  refine wp_region_spec (by kernel_rfl) 11 (by kernel_rfl) (fun u => ⟨#[s0, .slice (some ⟨P, 0, none⟩) 3 3, s2, .int .i64 1, u 9, u 10, s6, s7, s8, s9, s10, s11, s12, s13, s14, s15, s16, s17, s18, s19, s20, s21, u 6, u 0, u 1, u 2, u 3, u 4, u 5, u 7, u 8, s31, s32, s33, s34, s35, s36, s37, s38, s39, s40, s41, s42, s43, s44, s45, s46, s47, s48, s49, s50, s51, s52, s53, s54, s55, s56, s57, s58, s59, s60, s61, s62, s63, s64, s65, s66, s67, s68, s69, s70, s71, s72, s73, s74, s75, s76, s77, s78, s79, s80, s81, s82, s83, s84, s85, s86, s87, s88, s89, s90, s91, s92, s93, s94, s95, s96, s97, s98, s99, s100, s101, s102, s103, s104, s105, s106, s107, s108, s109, s110, s111, s112, s113, s114, s115, s116, s117, s118], []⟩) (fun i => if i = 0 then s23 else if i = 1 then s24 else if i = 2 then s25 else if i = 3 then s26 else if i = 4 then s27 else if i = 5 then s28 else if i = 6 then s22 else if i = 7 then s29 else if i = 8 then s30 else if i = 9 then s4 else if i = 10 then s5 else undef) (fun W => Hid (S W)) (kn1R P) (by kernel_rfl) (hon _ _ HL.out (Below.refl _ _).drew) (fun i v W W2 hi h hb => kn1R_on P i hi v W W2 h hb) (by decide +kernel) ?_ ?_
  · iterate 11 (refine all_succ ?_ ?_)
    · exact all_zero
    · intro u W hB _ hd _ K hK
      have HK := Lib.hid hK; clear hK
      refine wpOp_of rfl (by rfl) ?_
      go_simp
      refine (lwaxes_any _).mono ?_
      rintro e w' ⟨K, X, rfl, hx, hb⟩
      exact k_of (HK.out (.slice (some ⟨X, 0, none⟩) 3 3) _ ⟨K, X, rfl, hx⟩ (hon _ _ hB.out hb) hb) (by kernel_rfl)
    · intro u W hB _ hd _ K hK
      have HK := Lib.hid hK; clear hK
      refine wpOp_of rfl (by rfl) ?_
      go_simp
      exact k_of (HK.out (.slice (some ⟨P, 0, none⟩) 3 3) _ rfl hB (Below.refl _ _)) (by kernel_rfl)
    · intro u W hB _ hd _ K hK
      have HK := Lib.hid hK; clear hK
      refine wpOp_of rfl (by rfl) ?_
      go_simp
      exact k_of (HK.out (.int .i64 1) _ rfl hB (Below.refl _ _)) (by kernel_rfl)
    · intro u W hB _ hd _ K hK
      have HK := Lib.hid hK; clear hK
      have e1 : u 1 = .slice (some ⟨P, 0, none⟩) 3 3 := hd 1 (by decide +kernel)
      have e2 : u 2 = .int .i64 1 := hd 2 (by decide +kernel)
      refine wpOp_of rfl (by rfl) ?_
      go_simp
      exact k_of (HK.out (.pointer (some ⟨P, 1, none⟩)) _ rfl hB (Below.refl _ _)) (by rw [← u1_eq e1, ← u1_eq e2]; kernel_rfl)
    · intro u W hB _ hd _ K hK
      have HK := Lib.hid hK; clear hK
      have e3 : u 3 = .pointer (some ⟨P, 1, none⟩) := hd 3 (by decide +kernel)
      refine wpOp_of rfl (by rfl) ?_
      have z1 := (hP W hB.out).cell 1
      go_simp
      exact k_of (HK.out (.int .i64 2) _ rfl hB (Below.refl _ _)) (by rw [← u1_eq e3]; kernel_rfl)
    · intro u W hB _ hd _ K hK
      have HK := Lib.hid hK; clear hK
      obtain ⟨K_0, X_0, e0, f0_0⟩ : kn1R P 0 (u 0) W := hd 0 (by decide +kernel)
      have e4 : u 4 = .int .i64 2 := hd 4 (by decide +kernel)
      refine wpOp_of rfl (by rfl) ?_
      go_simp
      refine (aw_raise (ev_r2 _) f0_0).mono ?_
      rintro e w' ⟨rfl, hb⟩
      exact k_of (HK.out (.tuple #[.int .i64 20, .int .i64 0]) _ rfl (hon _ _ hB.out hb) hb) (by rw [← u1_eq e0, ← u1_eq e4]; kernel_rfl)
    · intro u W hB _ hd _ K hK
      have HK := Lib.hid hK; clear hK
      have e5 : u 5 = .tuple #[.int .i64 20, .int .i64 0] := hd 5 (by decide +kernel)
      refine wpOp_of rfl (by rfl) ?_
      go_simp
      exact k_of (HK.out (.tuple #[.int .i64 20, .int .i64 0]) _ rfl hB (Below.refl _ _)) (by rw [← u1_eq e5]; kernel_rfl)
    · intro u W hB _ hd _ K hK
      have HK := Lib.hid hK; clear hK
      have e6 : u 6 = .tuple #[.int .i64 20, .int .i64 0] := hd 6 (by decide +kernel)
      refine wpOp_of rfl (by rfl) ?_
      go_simp
      exact k_of (HK.out (.int .i64 20) _ rfl hB (Below.refl _ _)) (by rw [← u1_eq e6]; kernel_rfl)
    · intro u W hB _ hd _ K hK
      have HK := Lib.hid hK; clear hK
      have e6 : u 6 = .tuple #[.int .i64 20, .int .i64 0] := hd 6 (by decide +kernel)
      refine wpOp_of rfl (by rfl) ?_
      go_simp
      exact k_of (HK.out (.int .i64 0) _ rfl hB (Below.refl _ _)) (by rw [← u1_eq e6]; kernel_rfl)
    · intro u W hB _ hd _ K hK
      have HK := Lib.hid hK; clear hK
      have e7 : u 7 = .int .i64 20 := hd 7 (by decide +kernel)
      refine wpOp_of rfl (by rfl) ?_
      go_simp
      exact k_of (HK.out (.int .i64 20) _ rfl hB (Below.refl _ _)) (by rw [← u1_eq e7]; kernel_rfl)
    · intro u W hB _ hd _ K hK
      have HK := Lib.hid hK; clear hK
      have e8 : u 8 = .int .i64 0 := hd 8 (by decide +kernel)
      refine wpOp_of rfl (by rfl) ?_
      go_simp
      exact k_of (HK.out (.int .i64 0) _ rfl hB (Below.refl _ _)) (by rw [← u1_eq e8]; kernel_rfl)
  · intro u W hB hd
    have e9 : u 9 = .int .i64 20 := hd 9 (by decide)
    have e10 : u 10 = .int .i64 0 := hd 10 (by decide)
    exact k_of (HQ.out u W hB.out) (by simp only [e9, e10])

/-- What each operation leaves. -/
def kn2R (P : Nat) : Nat → Value → World → Prop
  | 0, v, W => ∃ K_0 X_0, v = .slice (some ⟨X_0, 0, none⟩) 3 3 ∧ BwsIn W (some ⟨X_0, 0, none⟩) (exL K_0)
  | 1, v, _ => v = .slice (some ⟨P, 0, none⟩) 3 3
  | 2, v, _ => v = .int .i64 2
  | 3, v, _ => v = .pointer (some ⟨P, 2, none⟩)
  | 4, v, _ => v = .int .i64 5
  | 5, v, _ => v = .tuple #[.int .i64 30, .int .i64 0]
  | 6, v, _ => v = .tuple #[.int .i64 30, .int .i64 0]
  | 7, v, _ => v = .int .i64 30
  | 8, v, _ => v = .int .i64 0
  | 9, v, _ => v = .int .i64 30
  | 10, v, _ => v = .int .i64 0
  | _, _, _ => True
theorem kn2R_on (P : Nat) : ∀ i, i < 11 → ∀ v W W', kn2R P i v W → Below W.heap.size W W' → kn2R P i v W' := by
  iterate 11 (refine all_succ ?_ ?_)
  · exact all_zero
  · rintro v W W' ⟨K_0, X_0, e, h0⟩ hb; exact ⟨K_0, X_0, e, h0.on hb⟩
  · exact fun _ _ _ h _ => h
  · exact fun _ _ _ h _ => h
  · exact fun _ _ _ h _ => h
  · exact fun _ _ _ h _ => h
  · exact fun _ _ _ h _ => h
  · exact fun _ _ _ h _ => h
  · exact fun _ _ _ h _ => h
  · exact fun _ _ _ h _ => h
  · exact fun _ _ _ h _ => h
  · exact fun _ _ _ h _ => h
set_option maxRecDepth 100000 in
set_option maxHeartbeats 8000000 in
theorem kn2_region {S : World → Prop} (hon : ∀ W W', S W → Below W.heap.size W W' → S W') {P : Nat} (hP : ∀ W, S W → Blk W P 3 #[.int .i64 1, .int .i64 2, .int .i64 5]) {Q : Exit → Act → World → Prop} {s0 s2 s6 s7 s8 s9 s10 s11 s12 s13 s14 s15 s16 s17 s18 s19 s20 s21 s31 s32 s33 s34 s35 s36 s37 s38 s39 s40 s41 s42 s43 s44 s45 s46 s47 s48 s49 s50 s51 s52 s53 s54 s55 s56 s57 s58 s59 s60 s61 s62 s63 s64 s65 s66 s67 s68 s69 s70 s71 s72 s73 s74 s75 s76 s77 s78 s79 s80 s81 s82 s83 s84 s85 s86 s87 s88 s89 s90 s91 s92 s93 s94 s95 s96 s97 s98 s99 s100 s101 s102 s103 s104 s105 s106 s107 s108 s109 s110 s111 s112 s113 s114 s115 s116 s117 s118 s4 s5 s22 s23 s24 s25 s26 s27 s28 s29 s30 : Value} {W0 : World} (HL : Hid (S W0))
    (HQ : Hid (∀ (u : Nat → Value) (W : World), S W → Q .normal ⟨#[s0, .slice (some ⟨P, 0, none⟩) 3 3, s2, .int .i64 2, .int .i64 30, .int .i64 0, s6, s7, s8, s9, s10, s11, s12, s13, s14, s15, s16, s17, s18, s19, s20, s21, u 6, u 0, u 1, u 2, u 3, u 4, u 5, u 7, u 8, s31, s32, s33, s34, s35, s36, s37, s38, s39, s40, s41, s42, s43, s44, s45, s46, s47, s48, s49, s50, s51, s52, s53, s54, s55, s56, s57, s58, s59, s60, s61, s62, s63, s64, s65, s66, s67, s68, s69, s70, s71, s72, s73, s74, s75, s76, s77, s78, s79, s80, s81, s82, s83, s84, s85, s86, s87, s88, s89, s90, s91, s92, s93, s94, s95, s96, s97, s98, s99, s100, s101, s102, s103, s104, s105, s106, s107, s108, s109, s110, s111, s112, s113, s114, s115, s116, s117, s118], []⟩ W)) :
    Code.wp Try.prog ((Try.f6.body.bind (regionAt 6)).getD .skip) Q ⟨#[s0, .slice (some ⟨P, 0, none⟩) 3 3, s2, .int .i64 2, s4, s5, s6, s7, s8, s9, s10, s11, s12, s13, s14, s15, s16, s17, s18, s19, s20, s21, s22, s23, s24, s25, s26, s27, s28, s29, s30, s31, s32, s33, s34, s35, s36, s37, s38, s39, s40, s41, s42, s43, s44, s45, s46, s47, s48, s49, s50, s51, s52, s53, s54, s55, s56, s57, s58, s59, s60, s61, s62, s63, s64, s65, s66, s67, s68, s69, s70, s71, s72, s73, s74, s75, s76, s77, s78, s79, s80, s81, s82, s83, s84, s85, s86, s87, s88, s89, s90, s91, s92, s93, s94, s95, s96, s97, s98, s99, s100, s101, s102, s103, s104, s105, s106, s107, s108, s109, s110, s111, s112, s113, s114, s115, s116, s117, s118], []⟩ W0 := by
  conv => arg 2; whnf
  refine wp_region_spec (by kernel_rfl) 11 (by kernel_rfl) (fun u => ⟨#[s0, .slice (some ⟨P, 0, none⟩) 3 3, s2, .int .i64 2, u 9, u 10, s6, s7, s8, s9, s10, s11, s12, s13, s14, s15, s16, s17, s18, s19, s20, s21, u 6, u 0, u 1, u 2, u 3, u 4, u 5, u 7, u 8, s31, s32, s33, s34, s35, s36, s37, s38, s39, s40, s41, s42, s43, s44, s45, s46, s47, s48, s49, s50, s51, s52, s53, s54, s55, s56, s57, s58, s59, s60, s61, s62, s63, s64, s65, s66, s67, s68, s69, s70, s71, s72, s73, s74, s75, s76, s77, s78, s79, s80, s81, s82, s83, s84, s85, s86, s87, s88, s89, s90, s91, s92, s93, s94, s95, s96, s97, s98, s99, s100, s101, s102, s103, s104, s105, s106, s107, s108, s109, s110, s111, s112, s113, s114, s115, s116, s117, s118], []⟩) (fun i => if i = 0 then s23 else if i = 1 then s24 else if i = 2 then s25 else if i = 3 then s26 else if i = 4 then s27 else if i = 5 then s28 else if i = 6 then s22 else if i = 7 then s29 else if i = 8 then s30 else if i = 9 then s4 else if i = 10 then s5 else undef) (fun W => Hid (S W)) (kn2R P) (by kernel_rfl) (hon _ _ HL.out (Below.refl _ _).drew) (fun i v W W2 hi h hb => kn2R_on P i hi v W W2 h hb) (by decide +kernel) ?_ ?_
  · iterate 11 (refine all_succ ?_ ?_)
    · exact all_zero
    · intro u W hB _ hd _ K hK
      have HK := Lib.hid hK; clear hK
      refine wpOp_of rfl (by rfl) ?_
      go_simp
      refine (lwaxes_any _).mono ?_
      rintro e w' ⟨K, X, rfl, hx, hb⟩
      exact k_of (HK.out (.slice (some ⟨X, 0, none⟩) 3 3) _ ⟨K, X, rfl, hx⟩ (hon _ _ hB.out hb) hb) (by kernel_rfl)
    · intro u W hB _ hd _ K hK
      have HK := Lib.hid hK; clear hK
      refine wpOp_of rfl (by rfl) ?_
      go_simp
      exact k_of (HK.out (.slice (some ⟨P, 0, none⟩) 3 3) _ rfl hB (Below.refl _ _)) (by kernel_rfl)
    · intro u W hB _ hd _ K hK
      have HK := Lib.hid hK; clear hK
      refine wpOp_of rfl (by rfl) ?_
      go_simp
      exact k_of (HK.out (.int .i64 2) _ rfl hB (Below.refl _ _)) (by kernel_rfl)
    · intro u W hB _ hd _ K hK
      have HK := Lib.hid hK; clear hK
      have e1 : u 1 = .slice (some ⟨P, 0, none⟩) 3 3 := hd 1 (by decide +kernel)
      have e2 : u 2 = .int .i64 2 := hd 2 (by decide +kernel)
      refine wpOp_of rfl (by rfl) ?_
      go_simp
      exact k_of (HK.out (.pointer (some ⟨P, 2, none⟩)) _ rfl hB (Below.refl _ _)) (by rw [← u1_eq e1, ← u1_eq e2]; kernel_rfl)
    · intro u W hB _ hd _ K hK
      have HK := Lib.hid hK; clear hK
      have e3 : u 3 = .pointer (some ⟨P, 2, none⟩) := hd 3 (by decide +kernel)
      refine wpOp_of rfl (by rfl) ?_
      have z2 := (hP W hB.out).cell 2
      go_simp
      exact k_of (HK.out (.int .i64 5) _ rfl hB (Below.refl _ _)) (by rw [← u1_eq e3]; kernel_rfl)
    · intro u W hB _ hd _ K hK
      have HK := Lib.hid hK; clear hK
      obtain ⟨K_0, X_0, e0, f0_0⟩ : kn2R P 0 (u 0) W := hd 0 (by decide +kernel)
      have e4 : u 4 = .int .i64 5 := hd 4 (by decide +kernel)
      refine wpOp_of rfl (by rfl) ?_
      go_simp
      refine (aw_raise (ev_r5 _) f0_0).mono ?_
      rintro e w' ⟨rfl, hb⟩
      exact k_of (HK.out (.tuple #[.int .i64 30, .int .i64 0]) _ rfl (hon _ _ hB.out hb) hb) (by rw [← u1_eq e0, ← u1_eq e4]; kernel_rfl)
    · intro u W hB _ hd _ K hK
      have HK := Lib.hid hK; clear hK
      have e5 : u 5 = .tuple #[.int .i64 30, .int .i64 0] := hd 5 (by decide +kernel)
      refine wpOp_of rfl (by rfl) ?_
      go_simp
      exact k_of (HK.out (.tuple #[.int .i64 30, .int .i64 0]) _ rfl hB (Below.refl _ _)) (by rw [← u1_eq e5]; kernel_rfl)
    · intro u W hB _ hd _ K hK
      have HK := Lib.hid hK; clear hK
      have e6 : u 6 = .tuple #[.int .i64 30, .int .i64 0] := hd 6 (by decide +kernel)
      refine wpOp_of rfl (by rfl) ?_
      go_simp
      exact k_of (HK.out (.int .i64 30) _ rfl hB (Below.refl _ _)) (by rw [← u1_eq e6]; kernel_rfl)
    · intro u W hB _ hd _ K hK
      have HK := Lib.hid hK; clear hK
      have e6 : u 6 = .tuple #[.int .i64 30, .int .i64 0] := hd 6 (by decide +kernel)
      refine wpOp_of rfl (by rfl) ?_
      go_simp
      exact k_of (HK.out (.int .i64 0) _ rfl hB (Below.refl _ _)) (by rw [← u1_eq e6]; kernel_rfl)
    · intro u W hB _ hd _ K hK
      have HK := Lib.hid hK; clear hK
      have e7 : u 7 = .int .i64 30 := hd 7 (by decide +kernel)
      refine wpOp_of rfl (by rfl) ?_
      go_simp
      exact k_of (HK.out (.int .i64 30) _ rfl hB (Below.refl _ _)) (by rw [← u1_eq e7]; kernel_rfl)
    · intro u W hB _ hd _ K hK
      have HK := Lib.hid hK; clear hK
      have e8 : u 8 = .int .i64 0 := hd 8 (by decide +kernel)
      refine wpOp_of rfl (by rfl) ?_
      go_simp
      exact k_of (HK.out (.int .i64 0) _ rfl hB (Below.refl _ _)) (by rw [← u1_eq e8]; kernel_rfl)
  · intro u W hB hd
    have e9 : u 9 = .int .i64 30 := hd 9 (by decide)
    have e10 : u 10 = .int .i64 0 := hd 10 (by decide)
    exact k_of (HQ.out u W hB.out) (by simp only [e9, e10])

/-- What each operation leaves. -/
def knwR (_G _H n1 : Nat) (A1 : Option Addr) : Nat → Value → World → Prop
  | 0, v, _ => v = .int .i64 0
  | 1, v, _ => v = .bool true
  | 2, v, _ => v = .bool true
  | 3, v, _ => v = .int .i64 0
  | 4, v, _ => v = .bool true
  | 5, v, _ => v = .bool true
  | 6, v, _ => v = .bool true
  | 7, v, _ => v = .int .i64 0
  | 8, v, _ => v = .bool true
  | 9, v, _ => v = .bool true
  | 10, v, _ => v = .bool true
  | 11, v, _ => v = .int .i64 0
  | 12, v, _ => v = .bool true
  | 13, v, _ => v = .bool true
  | 14, v, _ => v = .bool true
  | 15, v, _ => v = .int .i64 0
  | 16, v, _ => v = .bool true
  | 17, v, _ => v = .bool true
  | 18, v, _ => v = .bool true
  | 19, v, _ => v = .int .i64 0
  | 20, v, _ => v = .bool true
  | 21, v, _ => v = .bool true
  | 22, v, _ => v = .bool true
  | 23, v, _ => v = .int .i64 1
  | 24, v, _ => v = .bool true
  | 25, v, _ => v = .bool true
  | 26, v, _ => v = .bool true
  | 27, v, _ => v = .agg #[.int .i64 0, .int .i64 1200]
  | 28, v, _ => v = .agg #[.int .i64 0, .int .i64 1200]
  | 29, v, _ => v = .bool true
  | 30, v, _ => v = .bool true
  | 31, v, _ => v = .bool true
  | 32, v, _ => v = .agg #[.int .i64 0, .int .i64 1200]
  | 33, v, _ => v = .agg #[.int .i64 0, .int .i64 1200]
  | 34, v, _ => v = .bool true
  | 35, v, _ => v = .bool true
  | 36, v, _ => v = .bool true
  | 37, v, _ => v = .slice A1 3 n1
  | 38, v, W => ∃ b_38, v = .slice (some ⟨b_38, 0, none⟩) 3 3 ∧ IntsIn W (some ⟨b_38, 0, none⟩) [200, 750, 50]
  | 39, v, _ => v = .bool true
  | 40, v, _ => v = .bool true
  | 41, v, _ => v = .bool true
  | 42, v, _ => v = .bool true
  | 43, v, _ => v = .bool true
  | 44, v, _ => v = .bool true
  | _, _, _ => True
theorem knwR_on (G H n1 : Nat) (A1 : Option Addr) : ∀ i, i < 45 → ∀ v W W', knwR G H n1 A1 i v W → Below W.heap.size W W' → knwR G H n1 A1 i v W' := by
  iterate 45 (refine all_succ ?_ ?_)
  · exact all_zero
  · exact fun _ _ _ h _ => h
  · exact fun _ _ _ h _ => h
  · exact fun _ _ _ h _ => h
  · exact fun _ _ _ h _ => h
  · exact fun _ _ _ h _ => h
  · exact fun _ _ _ h _ => h
  · exact fun _ _ _ h _ => h
  · exact fun _ _ _ h _ => h
  · exact fun _ _ _ h _ => h
  · exact fun _ _ _ h _ => h
  · exact fun _ _ _ h _ => h
  · exact fun _ _ _ h _ => h
  · exact fun _ _ _ h _ => h
  · exact fun _ _ _ h _ => h
  · exact fun _ _ _ h _ => h
  · exact fun _ _ _ h _ => h
  · exact fun _ _ _ h _ => h
  · exact fun _ _ _ h _ => h
  · exact fun _ _ _ h _ => h
  · exact fun _ _ _ h _ => h
  · exact fun _ _ _ h _ => h
  · exact fun _ _ _ h _ => h
  · exact fun _ _ _ h _ => h
  · exact fun _ _ _ h _ => h
  · exact fun _ _ _ h _ => h
  · exact fun _ _ _ h _ => h
  · exact fun _ _ _ h _ => h
  · exact fun _ _ _ h _ => h
  · exact fun _ _ _ h _ => h
  · exact fun _ _ _ h _ => h
  · exact fun _ _ _ h _ => h
  · exact fun _ _ _ h _ => h
  · exact fun _ _ _ h _ => h
  · exact fun _ _ _ h _ => h
  · exact fun _ _ _ h _ => h
  · exact fun _ _ _ h _ => h
  · exact fun _ _ _ h _ => h
  · exact fun _ _ _ h _ => h
  · rintro v W W' ⟨b_38, e, h0⟩ hb; exact ⟨b_38, e, h0.on hb⟩
  · exact fun _ _ _ h _ => h
  · exact fun _ _ _ h _ => h
  · exact fun _ _ _ h _ => h
  · exact fun _ _ _ h _ => h
  · exact fun _ _ _ h _ => h
  · exact fun _ _ _ h _ => h
set_option maxRecDepth 100000 in
set_option maxHeartbeats 8000000 in
theorem knw_region {S : World → Prop} (hon : ∀ W W', S W → Below W.heap.size W W' → S W') {G H n1 : Nat} {A1 : Option Addr} (hG : ∀ W, S W → Blk W G 36 #[.int .i64 0, .int .i64 1200]) (hH : ∀ W, S W → Blk W H 36 #[.int .i64 0, .int .i64 1200]) (hA1 : ∀ W, S W → IntsIn W A1 [200, 750, 50]) {Q : Exit → Act → World → Prop} {s1 s2 s3 s4 s5 s16 s17 s18 s19 s20 s21 s22 s23 s24 s25 s26 s27 s28 s29 s30 s31 s32 s33 s34 s35 s36 s37 s38 s39 s40 s41 s42 s43 s44 s45 s46 s47 s48 s49 s50 s51 s52 s53 s54 s55 s56 s57 s58 s59 s60 s61 s62 s63 s64 s65 s66 s67 s68 s69 s70 s71 s72 s73 s74 s0 s75 s76 s77 s78 s79 s80 s81 s82 s83 s84 s85 s86 s87 s88 s89 s90 s91 s92 s93 s94 s95 s96 s97 s98 s99 s100 s101 s102 s103 s104 s105 s106 s107 s108 s109 s110 s111 s112 s113 s114 s115 s116 s117 s118 : Value} {W0 : World} (HL : Hid (S W0))
    (HQ : Hid (∀ (u : Nat → Value) (W : World), S W → Q .normal ⟨#[.bool true, s1, s2, s3, s4, s5, .int .i64 0, .int .i64 0, .int .i64 1, .int .i64 0, .pointer (some ⟨G, 0, none⟩), .int .i64 0, .pointer (some ⟨H, 0, none⟩), .int .i64 0, .slice A1 3 n1, .int .i64 0, s16, s17, s18, s19, s20, s21, s22, s23, s24, s25, s26, s27, s28, s29, s30, s31, s32, s33, s34, s35, s36, s37, s38, s39, s40, s41, s42, s43, s44, s45, s46, s47, s48, s49, s50, s51, s52, s53, s54, s55, s56, s57, s58, s59, s60, s61, s62, s63, s64, s65, s66, s67, s68, s69, s70, s71, s72, s73, s74, u 0, u 1, u 2, u 3, u 4, u 5, u 6, u 7, u 8, u 9, u 10, u 11, u 12, u 13, u 14, u 15, u 16, u 17, u 18, u 19, u 20, u 21, u 22, u 23, u 24, u 25, u 26, u 27, u 28, u 29, u 30, u 31, u 32, u 33, u 34, u 35, u 36, u 37, u 38, u 39, u 40, u 41, u 42, u 43], []⟩ W)) :
    Code.wp Try.prog ((Try.f6.body.bind (regionAt 14)).getD .skip) Q ⟨#[s0, s1, s2, s3, s4, s5, .int .i64 0, .int .i64 0, .int .i64 1, .int .i64 0, .pointer (some ⟨G, 0, none⟩), .int .i64 0, .pointer (some ⟨H, 0, none⟩), .int .i64 0, .slice A1 3 n1, .int .i64 0, s16, s17, s18, s19, s20, s21, s22, s23, s24, s25, s26, s27, s28, s29, s30, s31, s32, s33, s34, s35, s36, s37, s38, s39, s40, s41, s42, s43, s44, s45, s46, s47, s48, s49, s50, s51, s52, s53, s54, s55, s56, s57, s58, s59, s60, s61, s62, s63, s64, s65, s66, s67, s68, s69, s70, s71, s72, s73, s74, s75, s76, s77, s78, s79, s80, s81, s82, s83, s84, s85, s86, s87, s88, s89, s90, s91, s92, s93, s94, s95, s96, s97, s98, s99, s100, s101, s102, s103, s104, s105, s106, s107, s108, s109, s110, s111, s112, s113, s114, s115, s116, s117, s118], []⟩ W0 := by
  conv => arg 2; whnf
  refine wp_region_spec (by kernel_rfl) 45 (by kernel_rfl) (fun u => ⟨#[u 44, s1, s2, s3, s4, s5, .int .i64 0, .int .i64 0, .int .i64 1, .int .i64 0, .pointer (some ⟨G, 0, none⟩), .int .i64 0, .pointer (some ⟨H, 0, none⟩), .int .i64 0, .slice A1 3 n1, .int .i64 0, s16, s17, s18, s19, s20, s21, s22, s23, s24, s25, s26, s27, s28, s29, s30, s31, s32, s33, s34, s35, s36, s37, s38, s39, s40, s41, s42, s43, s44, s45, s46, s47, s48, s49, s50, s51, s52, s53, s54, s55, s56, s57, s58, s59, s60, s61, s62, s63, s64, s65, s66, s67, s68, s69, s70, s71, s72, s73, s74, u 0, u 1, u 2, u 3, u 4, u 5, u 6, u 7, u 8, u 9, u 10, u 11, u 12, u 13, u 14, u 15, u 16, u 17, u 18, u 19, u 20, u 21, u 22, u 23, u 24, u 25, u 26, u 27, u 28, u 29, u 30, u 31, u 32, u 33, u 34, u 35, u 36, u 37, u 38, u 39, u 40, u 41, u 42, u 43], []⟩) (fun i => if i = 0 then s75 else if i = 1 then s76 else if i = 2 then s77 else if i = 3 then s78 else if i = 4 then s79 else if i = 5 then s80 else if i = 6 then s81 else if i = 7 then s82 else if i = 8 then s83 else if i = 9 then s84 else if i = 10 then s85 else if i = 11 then s86 else if i = 12 then s87 else if i = 13 then s88 else if i = 14 then s89 else if i = 15 then s90 else if i = 16 then s91 else if i = 17 then s92 else if i = 18 then s93 else if i = 19 then s94 else if i = 20 then s95 else if i = 21 then s96 else if i = 22 then s97 else if i = 23 then s98 else if i = 24 then s99 else if i = 25 then s100 else if i = 26 then s101 else if i = 27 then s102 else if i = 28 then s103 else if i = 29 then s104 else if i = 30 then s105 else if i = 31 then s106 else if i = 32 then s107 else if i = 33 then s108 else if i = 34 then s109 else if i = 35 then s110 else if i = 36 then s111 else if i = 37 then s112 else if i = 38 then s113 else if i = 39 then s114 else if i = 40 then s115 else if i = 41 then s116 else if i = 42 then s117 else if i = 43 then s118 else if i = 44 then s0 else undef) (fun W => Hid (S W)) (knwR G H n1 A1) (by kernel_rfl) (hon _ _ HL.out (Below.refl _ _).drew) (fun i v W W2 hi h hb => knwR_on G H n1 A1 i hi v W W2 h hb) (by decide +kernel) ?_ ?_
  · iterate 45 (refine all_succ ?_ ?_)
    · exact all_zero
    · intro u W hB _ hd _ K hK
      have HK := Lib.hid hK; clear hK
      refine wpOp_of rfl (by rfl) ?_
      go_simp
      exact k_of (HK.out (.int .i64 0) _ rfl hB (Below.refl _ _)) (by kernel_rfl)
    · intro u W hB _ hd _ K hK
      have HK := Lib.hid hK; clear hK
      have e0 : u 0 = .int .i64 0 := hd 0 (by decide +kernel)
      refine wpOp_of rfl (by rfl) ?_
      go_simp
      exact k_of (HK.out (.bool true) _ rfl hB (Below.refl _ _)) (by rw [← u1_eq e0]; kernel_rfl)
    · intro u W hB _ hd _ K hK
      have HK := Lib.hid hK; clear hK
      have e1 : u 1 = .bool true := hd 1 (by decide +kernel)
      refine wpOp_of rfl (by rfl) ?_
      go_simp
      exact k_of (HK.out (.bool true) _ rfl hB (Below.refl _ _)) (by rw [← u1_eq e1]; kernel_rfl)
    · intro u W hB _ hd _ K hK
      have HK := Lib.hid hK; clear hK
      have e2 : u 2 = .bool true := hd 2 (by decide +kernel)
      refine wpOp_of rfl (by rw [← u1_eq e2]; kernel_rfl) ?_
      go_simp
      exact k_of (HK.out (.int .i64 0) _ rfl hB (Below.refl _ _)) (by rw [← u1_eq e2]; kernel_rfl)
    · intro u W hB _ hd _ K hK
      have HK := Lib.hid hK; clear hK
      have e2 : u 2 = .bool true := hd 2 (by decide +kernel)
      have e3 : u 3 = .int .i64 0 := hd 3 (by decide +kernel)
      refine wpOp_of rfl (by rw [← u1_eq e2]; kernel_rfl) ?_
      go_simp
      exact k_of (HK.out (.bool true) _ rfl hB (Below.refl _ _)) (by rw [← u1_eq e2, ← u1_eq e3]; kernel_rfl)
    · intro u W hB _ hd _ K hK
      have HK := Lib.hid hK; clear hK
      have e2 : u 2 = .bool true := hd 2 (by decide +kernel)
      have e4 : u 4 = .bool true := hd 4 (by decide +kernel)
      refine wpOp_of rfl (by rfl) ?_
      go_simp
      exact k_of (HK.out (.bool true) _ rfl hB (Below.refl _ _)) (by rw [← u1_eq e2, ← u1_eq e4]; kernel_rfl)
    · intro u W hB _ hd _ K hK
      have HK := Lib.hid hK; clear hK
      have e5 : u 5 = .bool true := hd 5 (by decide +kernel)
      refine wpOp_of rfl (by rfl) ?_
      go_simp
      exact k_of (HK.out (.bool true) _ rfl hB (Below.refl _ _)) (by rw [← u1_eq e5]; kernel_rfl)
    · intro u W hB _ hd _ K hK
      have HK := Lib.hid hK; clear hK
      have e6 : u 6 = .bool true := hd 6 (by decide +kernel)
      refine wpOp_of rfl (by rw [← u1_eq e6]; kernel_rfl) ?_
      go_simp
      exact k_of (HK.out (.int .i64 0) _ rfl hB (Below.refl _ _)) (by rw [← u1_eq e6]; kernel_rfl)
    · intro u W hB _ hd _ K hK
      have HK := Lib.hid hK; clear hK
      have e6 : u 6 = .bool true := hd 6 (by decide +kernel)
      have e7 : u 7 = .int .i64 0 := hd 7 (by decide +kernel)
      refine wpOp_of rfl (by rw [← u1_eq e6]; kernel_rfl) ?_
      go_simp
      exact k_of (HK.out (.bool true) _ rfl hB (Below.refl _ _)) (by rw [← u1_eq e6, ← u1_eq e7]; kernel_rfl)
    · intro u W hB _ hd _ K hK
      have HK := Lib.hid hK; clear hK
      have e6 : u 6 = .bool true := hd 6 (by decide +kernel)
      have e8 : u 8 = .bool true := hd 8 (by decide +kernel)
      refine wpOp_of rfl (by rfl) ?_
      go_simp
      exact k_of (HK.out (.bool true) _ rfl hB (Below.refl _ _)) (by rw [← u1_eq e6, ← u1_eq e8]; kernel_rfl)
    · intro u W hB _ hd _ K hK
      have HK := Lib.hid hK; clear hK
      have e9 : u 9 = .bool true := hd 9 (by decide +kernel)
      refine wpOp_of rfl (by rfl) ?_
      go_simp
      exact k_of (HK.out (.bool true) _ rfl hB (Below.refl _ _)) (by rw [← u1_eq e9]; kernel_rfl)
    · intro u W hB _ hd _ K hK
      have HK := Lib.hid hK; clear hK
      have e10 : u 10 = .bool true := hd 10 (by decide +kernel)
      refine wpOp_of rfl (by rw [← u1_eq e10]; kernel_rfl) ?_
      go_simp
      exact k_of (HK.out (.int .i64 0) _ rfl hB (Below.refl _ _)) (by rw [← u1_eq e10]; kernel_rfl)
    · intro u W hB _ hd _ K hK
      have HK := Lib.hid hK; clear hK
      have e10 : u 10 = .bool true := hd 10 (by decide +kernel)
      have e11 : u 11 = .int .i64 0 := hd 11 (by decide +kernel)
      refine wpOp_of rfl (by rw [← u1_eq e10]; kernel_rfl) ?_
      go_simp
      exact k_of (HK.out (.bool true) _ rfl hB (Below.refl _ _)) (by rw [← u1_eq e10, ← u1_eq e11]; kernel_rfl)
    · intro u W hB _ hd _ K hK
      have HK := Lib.hid hK; clear hK
      have e10 : u 10 = .bool true := hd 10 (by decide +kernel)
      have e12 : u 12 = .bool true := hd 12 (by decide +kernel)
      refine wpOp_of rfl (by rfl) ?_
      go_simp
      exact k_of (HK.out (.bool true) _ rfl hB (Below.refl _ _)) (by rw [← u1_eq e10, ← u1_eq e12]; kernel_rfl)
    · intro u W hB _ hd _ K hK
      have HK := Lib.hid hK; clear hK
      have e13 : u 13 = .bool true := hd 13 (by decide +kernel)
      refine wpOp_of rfl (by rfl) ?_
      go_simp
      exact k_of (HK.out (.bool true) _ rfl hB (Below.refl _ _)) (by rw [← u1_eq e13]; kernel_rfl)
    · intro u W hB _ hd _ K hK
      have HK := Lib.hid hK; clear hK
      have e14 : u 14 = .bool true := hd 14 (by decide +kernel)
      refine wpOp_of rfl (by rw [← u1_eq e14]; kernel_rfl) ?_
      go_simp
      exact k_of (HK.out (.int .i64 0) _ rfl hB (Below.refl _ _)) (by rw [← u1_eq e14]; kernel_rfl)
    · intro u W hB _ hd _ K hK
      have HK := Lib.hid hK; clear hK
      have e14 : u 14 = .bool true := hd 14 (by decide +kernel)
      have e15 : u 15 = .int .i64 0 := hd 15 (by decide +kernel)
      refine wpOp_of rfl (by rw [← u1_eq e14]; kernel_rfl) ?_
      go_simp
      exact k_of (HK.out (.bool true) _ rfl hB (Below.refl _ _)) (by rw [← u1_eq e14, ← u1_eq e15]; kernel_rfl)
    · intro u W hB _ hd _ K hK
      have HK := Lib.hid hK; clear hK
      have e14 : u 14 = .bool true := hd 14 (by decide +kernel)
      have e16 : u 16 = .bool true := hd 16 (by decide +kernel)
      refine wpOp_of rfl (by rfl) ?_
      go_simp
      exact k_of (HK.out (.bool true) _ rfl hB (Below.refl _ _)) (by rw [← u1_eq e14, ← u1_eq e16]; kernel_rfl)
    · intro u W hB _ hd _ K hK
      have HK := Lib.hid hK; clear hK
      have e17 : u 17 = .bool true := hd 17 (by decide +kernel)
      refine wpOp_of rfl (by rfl) ?_
      go_simp
      exact k_of (HK.out (.bool true) _ rfl hB (Below.refl _ _)) (by rw [← u1_eq e17]; kernel_rfl)
    · intro u W hB _ hd _ K hK
      have HK := Lib.hid hK; clear hK
      have e18 : u 18 = .bool true := hd 18 (by decide +kernel)
      refine wpOp_of rfl (by rw [← u1_eq e18]; kernel_rfl) ?_
      go_simp
      exact k_of (HK.out (.int .i64 0) _ rfl hB (Below.refl _ _)) (by rw [← u1_eq e18]; kernel_rfl)
    · intro u W hB _ hd _ K hK
      have HK := Lib.hid hK; clear hK
      have e18 : u 18 = .bool true := hd 18 (by decide +kernel)
      have e19 : u 19 = .int .i64 0 := hd 19 (by decide +kernel)
      refine wpOp_of rfl (by rw [← u1_eq e18]; kernel_rfl) ?_
      go_simp
      exact k_of (HK.out (.bool true) _ rfl hB (Below.refl _ _)) (by rw [← u1_eq e18, ← u1_eq e19]; kernel_rfl)
    · intro u W hB _ hd _ K hK
      have HK := Lib.hid hK; clear hK
      have e18 : u 18 = .bool true := hd 18 (by decide +kernel)
      have e20 : u 20 = .bool true := hd 20 (by decide +kernel)
      refine wpOp_of rfl (by rfl) ?_
      go_simp
      exact k_of (HK.out (.bool true) _ rfl hB (Below.refl _ _)) (by rw [← u1_eq e18, ← u1_eq e20]; kernel_rfl)
    · intro u W hB _ hd _ K hK
      have HK := Lib.hid hK; clear hK
      have e21 : u 21 = .bool true := hd 21 (by decide +kernel)
      refine wpOp_of rfl (by rfl) ?_
      go_simp
      exact k_of (HK.out (.bool true) _ rfl hB (Below.refl _ _)) (by rw [← u1_eq e21]; kernel_rfl)
    · intro u W hB _ hd _ K hK
      have HK := Lib.hid hK; clear hK
      have e22 : u 22 = .bool true := hd 22 (by decide +kernel)
      refine wpOp_of rfl (by rw [← u1_eq e22]; kernel_rfl) ?_
      go_simp
      exact k_of (HK.out (.int .i64 1) _ rfl hB (Below.refl _ _)) (by rw [← u1_eq e22]; kernel_rfl)
    · intro u W hB _ hd _ K hK
      have HK := Lib.hid hK; clear hK
      have e22 : u 22 = .bool true := hd 22 (by decide +kernel)
      have e23 : u 23 = .int .i64 1 := hd 23 (by decide +kernel)
      refine wpOp_of rfl (by rw [← u1_eq e22]; kernel_rfl) ?_
      go_simp
      exact k_of (HK.out (.bool true) _ rfl hB (Below.refl _ _)) (by rw [← u1_eq e22, ← u1_eq e23]; kernel_rfl)
    · intro u W hB _ hd _ K hK
      have HK := Lib.hid hK; clear hK
      have e22 : u 22 = .bool true := hd 22 (by decide +kernel)
      have e24 : u 24 = .bool true := hd 24 (by decide +kernel)
      refine wpOp_of rfl (by rfl) ?_
      go_simp
      exact k_of (HK.out (.bool true) _ rfl hB (Below.refl _ _)) (by rw [← u1_eq e22, ← u1_eq e24]; kernel_rfl)
    · intro u W hB _ hd _ K hK
      have HK := Lib.hid hK; clear hK
      have e25 : u 25 = .bool true := hd 25 (by decide +kernel)
      refine wpOp_of rfl (by rfl) ?_
      go_simp
      exact k_of (HK.out (.bool true) _ rfl hB (Below.refl _ _)) (by rw [← u1_eq e25]; kernel_rfl)
    · intro u W hB _ hd _ K hK
      have HK := Lib.hid hK; clear hK
      have e26 : u 26 = .bool true := hd 26 (by decide +kernel)
      refine wpOp_of rfl (by rw [← u1_eq e26]; kernel_rfl) ?_
      have z0 := (hG W hB.out).cell 0; have z1 := (hG W hB.out).cell 1
      go_simp
      exact k_of (HK.out (.agg #[.int .i64 0, .int .i64 1200]) _ rfl hB (Below.refl _ _)) (by rw [← u1_eq e26]; kernel_rfl)
    · intro u W hB _ hd _ K hK
      have HK := Lib.hid hK; clear hK
      have e26 : u 26 = .bool true := hd 26 (by decide +kernel)
      refine wpOp_of rfl (by rw [← u1_eq e26]; kernel_rfl) ?_
      go_simp
      refine (lspan_any 0 1200 _).mono ?_
      rintro e w' ⟨rfl, hb⟩
      exact k_of (HK.out (.agg #[.int .i64 0, .int .i64 1200]) _ rfl (hon _ _ hB.out hb) hb) (by rw [← u1_eq e26]; kernel_rfl)
    · intro u W hB _ hd _ K hK
      have HK := Lib.hid hK; clear hK
      have e26 : u 26 = .bool true := hd 26 (by decide +kernel)
      have e27 : u 27 = .agg #[.int .i64 0, .int .i64 1200] := hd 27 (by decide +kernel)
      have e28 : u 28 = .agg #[.int .i64 0, .int .i64 1200] := hd 28 (by decide +kernel)
      refine wpOp_of rfl (by rw [← u1_eq e26]; kernel_rfl) ?_
      have eq := keq_1 W
      go_simp
      exact k_of (HK.out (.bool true) _ rfl hB (Below.refl _ _)) (by rw [← u1_eq e26, ← u1_eq e27, ← u1_eq e28]; kernel_rfl)
    · intro u W hB _ hd _ K hK
      have HK := Lib.hid hK; clear hK
      have e26 : u 26 = .bool true := hd 26 (by decide +kernel)
      have e29 : u 29 = .bool true := hd 29 (by decide +kernel)
      refine wpOp_of rfl (by rfl) ?_
      go_simp
      exact k_of (HK.out (.bool true) _ rfl hB (Below.refl _ _)) (by rw [← u1_eq e26, ← u1_eq e29]; kernel_rfl)
    · intro u W hB _ hd _ K hK
      have HK := Lib.hid hK; clear hK
      have e30 : u 30 = .bool true := hd 30 (by decide +kernel)
      refine wpOp_of rfl (by rfl) ?_
      go_simp
      exact k_of (HK.out (.bool true) _ rfl hB (Below.refl _ _)) (by rw [← u1_eq e30]; kernel_rfl)
    · intro u W hB _ hd _ K hK
      have HK := Lib.hid hK; clear hK
      have e31 : u 31 = .bool true := hd 31 (by decide +kernel)
      refine wpOp_of rfl (by rw [← u1_eq e31]; kernel_rfl) ?_
      have z0 := (hH W hB.out).cell 0; have z1 := (hH W hB.out).cell 1
      go_simp
      exact k_of (HK.out (.agg #[.int .i64 0, .int .i64 1200]) _ rfl hB (Below.refl _ _)) (by rw [← u1_eq e31]; kernel_rfl)
    · intro u W hB _ hd _ K hK
      have HK := Lib.hid hK; clear hK
      have e31 : u 31 = .bool true := hd 31 (by decide +kernel)
      refine wpOp_of rfl (by rw [← u1_eq e31]; kernel_rfl) ?_
      go_simp
      refine (lspan_any 0 1200 _).mono ?_
      rintro e w' ⟨rfl, hb⟩
      exact k_of (HK.out (.agg #[.int .i64 0, .int .i64 1200]) _ rfl (hon _ _ hB.out hb) hb) (by rw [← u1_eq e31]; kernel_rfl)
    · intro u W hB _ hd _ K hK
      have HK := Lib.hid hK; clear hK
      have e31 : u 31 = .bool true := hd 31 (by decide +kernel)
      have e32 : u 32 = .agg #[.int .i64 0, .int .i64 1200] := hd 32 (by decide +kernel)
      have e33 : u 33 = .agg #[.int .i64 0, .int .i64 1200] := hd 33 (by decide +kernel)
      refine wpOp_of rfl (by rw [← u1_eq e31]; kernel_rfl) ?_
      have eq := keq_1 W
      go_simp
      exact k_of (HK.out (.bool true) _ rfl hB (Below.refl _ _)) (by rw [← u1_eq e31, ← u1_eq e32, ← u1_eq e33]; kernel_rfl)
    · intro u W hB _ hd _ K hK
      have HK := Lib.hid hK; clear hK
      have e31 : u 31 = .bool true := hd 31 (by decide +kernel)
      have e34 : u 34 = .bool true := hd 34 (by decide +kernel)
      refine wpOp_of rfl (by rfl) ?_
      go_simp
      exact k_of (HK.out (.bool true) _ rfl hB (Below.refl _ _)) (by rw [← u1_eq e31, ← u1_eq e34]; kernel_rfl)
    · intro u W hB _ hd _ K hK
      have HK := Lib.hid hK; clear hK
      have e35 : u 35 = .bool true := hd 35 (by decide +kernel)
      refine wpOp_of rfl (by rfl) ?_
      go_simp
      exact k_of (HK.out (.bool true) _ rfl hB (Below.refl _ _)) (by rw [← u1_eq e35]; kernel_rfl)
    · intro u W hB _ hd _ K hK
      have HK := Lib.hid hK; clear hK
      have e36 : u 36 = .bool true := hd 36 (by decide +kernel)
      refine wpOp_of rfl (by rw [← u1_eq e36]; kernel_rfl) ?_
      go_simp
      exact k_of (HK.out (.slice A1 3 n1) _ rfl hB (Below.refl _ _)) (by rw [← u1_eq e36]; kernel_rfl)
    · intro u W hB _ hd _ K hK
      have HK := Lib.hid hK; clear hK
      have e36 : u 36 = .bool true := hd 36 (by decide +kernel)
      refine wpOp_of rfl (by rw [← u1_eq e36]; kernel_rfl) ?_
      go_simp
      exact k_of (HK.out (.slice (some ⟨W.heap.size, 0, none⟩) 3 3) _ ⟨_, rfl, ints_blk (Blk.new _ _ _) rfl (by simp)⟩ (hon _ _ hB.out ((Below.refl _ W).alloc (Nat.le_refl _) _)) ((Below.refl _ W).alloc (Nat.le_refl _) _)) (by rw [← u1_eq e36]; kernel_rfl)
    · intro u W hB _ hd _ K hK
      have HK := Lib.hid hK; clear hK
      have e36 : u 36 = .bool true := hd 36 (by decide +kernel)
      have e37 : u 37 = .slice A1 3 n1 := hd 37 (by decide +kernel)
      obtain ⟨b_38, e38, f38_0⟩ : knwR G H n1 A1 38 (u 38) W := hd 38 (by decide +kernel)
      refine wpOp_of rfl (by rw [← u1_eq e36]; kernel_rfl) ?_
      go_simp
      refine (ints_yes (l := [200, 750, 50]) rfl (hA1 W hB.out) f38_0).mono ?_
      rintro e w' ⟨rfl, hb⟩
      exact k_of (HK.out (.bool true) _ rfl (hon _ _ hB.out hb) hb) (by rw [← u1_eq e36, ← u1_eq e37, ← u1_eq e38]; kernel_rfl)
    · intro u W hB _ hd _ K hK
      have HK := Lib.hid hK; clear hK
      have e36 : u 36 = .bool true := hd 36 (by decide +kernel)
      have e39 : u 39 = .bool true := hd 39 (by decide +kernel)
      refine wpOp_of rfl (by rfl) ?_
      go_simp
      exact k_of (HK.out (.bool true) _ rfl hB (Below.refl _ _)) (by rw [← u1_eq e36, ← u1_eq e39]; kernel_rfl)
    · intro u W hB _ hd _ K hK
      have HK := Lib.hid hK; clear hK
      have e40 : u 40 = .bool true := hd 40 (by decide +kernel)
      refine wpOp_of rfl (by rfl) ?_
      go_simp
      exact k_of (HK.out (.bool true) _ rfl hB (Below.refl _ _)) (by rw [← u1_eq e40]; kernel_rfl)
    · intro u W hB _ hd _ K hK
      have HK := Lib.hid hK; clear hK
      have e41 : u 41 = .bool true := hd 41 (by decide +kernel)
      refine wpOp_of rfl (by rw [← u1_eq e41]; kernel_rfl) ?_
      go_simp
      refine (lawake_any _).mono ?_
      rintro e w' ⟨rfl, hb⟩
      exact k_of (HK.out (.bool true) _ rfl (hon _ _ hB.out hb) hb) (by rw [← u1_eq e41]; kernel_rfl)
    · intro u W hB _ hd _ K hK
      have HK := Lib.hid hK; clear hK
      have e41 : u 41 = .bool true := hd 41 (by decide +kernel)
      have e42 : u 42 = .bool true := hd 42 (by decide +kernel)
      refine wpOp_of rfl (by rfl) ?_
      go_simp
      exact k_of (HK.out (.bool true) _ rfl hB (Below.refl _ _)) (by rw [← u1_eq e41, ← u1_eq e42]; kernel_rfl)
    · intro u W hB _ hd _ K hK
      have HK := Lib.hid hK; clear hK
      have e43 : u 43 = .bool true := hd 43 (by decide +kernel)
      refine wpOp_of rfl (by rfl) ?_
      go_simp
      exact k_of (HK.out (.bool true) _ rfl hB (Below.refl _ _)) (by rw [← u1_eq e43]; kernel_rfl)
  · intro u W hB hd
    have e44 : u 44 = .bool true := hd 44 (by decide)
    exact k_of (HQ.out u W hB.out) (by simp only [e44])
end Go.Proofs.Ytalghiecjhfflaa
