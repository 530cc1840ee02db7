/- MouldWider: its region that draws its order. -/
import Derived.Test.YtljbjcnfkbmjkaaMgr
namespace Go.Proofs.Ytljbjcnfkbmjkaa
open Go.RowKit Go.Shelf Go.Maps
attribute [local go_sem] Oper.semAt_some

/-- What each operation leaves. -/
def lw16R (b1 o1 c1 b2 o2 c2 k rl : Nat) (x0 x1 v0 v1 : Int) : Nat → Value → World → Prop
  | 0, v, _ => v = .slice (some ⟨b2, o2, none⟩) rl c2
  | 1, v, _ => v = .int .i64 (k : Int)
  | 2, v, _ => v = .pointer (some ⟨b2, o2 + k * 2, none⟩)
  | 3, v, _ => v = .pointer (some ⟨b2, o2 + k * 2, none⟩)
  | 4, v, _ => v = .int .i64 v0
  | 5, v, _ => v = .slice (some ⟨b1, o1, none⟩) rl c1
  | 6, v, _ => v = .int .i64 (k : Int)
  | 7, v, _ => v = .pointer (some ⟨b1, o1 + k * 2, none⟩)
  | 8, v, _ => v = .pointer (some ⟨b1, o1 + k * 2, none⟩)
  | 9, v, _ => v = .int .i64 x0
  | 10, v, _ => v = .bool false
  | 11, v, _ => v = .bool false
  | 12, v, _ => v = .slice (some ⟨b2, o2, none⟩) rl c2
  | 13, v, _ => v = .int .i64 (k : Int)
  | 14, v, _ => v = .pointer (some ⟨b2, o2 + k * 2, none⟩)
  | 15, v, _ => v = .pointer (some ⟨b2, o2 + k * 2 + 1, none⟩)
  | 16, v, _ => v = .int .i64 v1
  | 17, v, _ => v = .slice (some ⟨b1, o1, none⟩) rl c1
  | 18, v, _ => v = .int .i64 (k : Int)
  | 19, v, _ => v = .pointer (some ⟨b1, o1 + k * 2, none⟩)
  | 20, v, _ => v = .pointer (some ⟨b1, o1 + k * 2 + 1, none⟩)
  | 21, v, _ => v = .int .i64 x1
  | 22, v, _ => v = .bool false
  | 23, v, _ => v = .bool false
  | _, _, _ => True
theorem lw16R_on (b1 o1 c1 b2 o2 c2 k rl : Nat) (x0 x1 v0 v1 : Int) : ∀ i, i < 24 → ∀ v W W', lw16R b1 o1 c1 b2 o2 c2 k rl x0 x1 v0 v1 i v W → Below W.heap.size W W' → lw16R b1 o1 c1 b2 o2 c2 k rl x0 x1 v0 v1 i v W' := by
  iterate 24 (refine all_succ ?_ ?_)
  · exact all_zero
  · exact fun _ _ _ h _ => h
  · exact fun _ _ _ h _ => h
  · exact fun _ _ _ h _ => h
  · exact fun _ _ _ h _ => h
  · exact fun _ _ _ h _ => h
  · exact fun _ _ _ h _ => h
  · exact fun _ _ _ h _ => h
  · exact fun _ _ _ h _ => h
  · exact fun _ _ _ h _ => h
  · exact fun _ _ _ h _ => h
  · exact fun _ _ _ h _ => h
  · exact fun _ _ _ h _ => h
  · exact fun _ _ _ h _ => h
  · exact fun _ _ _ h _ => h
  · exact fun _ _ _ h _ => h
  · exact fun _ _ _ h _ => h
  · exact fun _ _ _ h _ => h
  · exact fun _ _ _ h _ => h
  · exact fun _ _ _ h _ => h
  · exact fun _ _ _ h _ => h
  · exact fun _ _ _ h _ => h
  · exact fun _ _ _ h _ => h
  · exact fun _ _ _ h _ => h
  · exact fun _ _ _ h _ => h
set_option maxRecDepth 100000 in
set_option maxHeartbeats 8000000 in
theorem lw16_region {S : World → Prop} (hon : ∀ W W', S W → Below W.heap.size W W' → S W') {b1 o1 c1 b2 o2 c2 k rl : Nat} {x0 x1 v0 v1 : Int} (hk : (k : Int) < rl) (h1 : ∀ W, S W → W.cell? ⟨b1, o1 + k * 2, none⟩ = some (.int .i64 x0) ∧ W.cell? ⟨b1, o1 + k * 2 + 1, none⟩ = some (.int .i64 x1)) (h2 : ∀ W, S W → W.cell? ⟨b2, o2 + k * 2, none⟩ = some (.int .i64 v0) ∧ W.cell? ⟨b2, o2 + k * 2 + 1, none⟩ = some (.int .i64 v1)) (hl0 : ¬ (x0 < v0)) (hl1 : ¬ (v1 < x1)) {Q : Exit → Act → World → Prop} {s0 s1 s2 s3 s4 s5 s6 s7 s9 s10 s12 s13 s14 s15 s16 s18 s19 s20 s21 s22 s23 s24 s25 s26 s27 s28 s29 s30 s31 s32 s33 s34 s35 s36 s37 s38 s39 s40 s41 s42 s43 s44 s45 s46 s47 s48 s49 s50 s51 s52 s53 s54 s55 s56 s57 s58 s59 s60 s61 s62 s63 s64 s65 s66 s67 s68 s69 s70 s71 s72 s73 s74 s75 s76 s77 s78 s79 s80 s81 s82 s83 s84 s85 s86 s87 s88 s89 s90 s91 s92 s93 s94 s95 s96 s97 s98 s99 s100 s101 s102 s103 s104 s105 s106 s107 s108 s109 s110 s111 s112 s113 s114 s115 s116 s117 s118 s119 s120 s121 s122 s123 s124 s125 s126 s127 s128 s129 s130 s131 s132 s133 s134 s135 s136 s137 s162 s163 s164 s165 s166 s167 s168 s169 s170 s171 s172 s173 s174 s175 s176 s177 s178 s179 s180 s181 s182 s183 s184 s185 s186 s187 s188 s189 s190 s191 s192 s193 s194 s195 s196 s197 s198 s199 s200 s201 s202 s203 s204 s205 s206 s138 s139 s140 s141 s142 s143 s144 s145 s146 s147 s148 s149 s150 s151 s152 s153 s154 s155 s156 s157 s158 s159 s160 s161 : Value} {W0 : World} (HL : Hid (S W0))
    (HQ : Hid (∀ (u : Nat → Value) (W : World), S W → Q .normal ⟨#[s0, s1, s2, s3, s4, s5, s6, s7, .slice (some ⟨b1, o1, none⟩) rl c1, s9, s10, .slice (some ⟨b2, o2, none⟩) rl c2, s12, s13, s14, s15, s16, .int .i64 (k : Int), s18, s19, s20, s21, s22, s23, s24, s25, s26, s27, s28, s29, s30, s31, s32, s33, s34, s35, s36, s37, s38, s39, s40, s41, s42, s43, s44, s45, s46, s47, s48, s49, s50, s51, s52, s53, s54, s55, s56, s57, s58, s59, s60, s61, s62, s63, s64, s65, s66, s67, s68, s69, s70, s71, s72, s73, s74, s75, s76, s77, s78, s79, s80, s81, s82, s83, s84, s85, s86, s87, s88, s89, s90, s91, s92, s93, s94, s95, s96, s97, s98, s99, s100, s101, s102, s103, s104, s105, s106, s107, s108, s109, s110, s111, s112, s113, s114, s115, s116, s117, s118, s119, s120, s121, s122, s123, s124, s125, s126, s127, s128, s129, s130, s131, s132, s133, s134, s135, s136, s137, u 0, u 1, u 2, u 3, u 4, u 5, u 6, u 7, u 8, u 9, u 10, u 11, u 12, u 13, u 14, u 15, u 16, u 17, u 18, u 19, u 20, u 21, u 22, .bool false, s162, s163, s164, s165, s166, s167, s168, s169, s170, s171, s172, s173, s174, s175, s176, s177, s178, s179, s180, s181, s182, s183, s184, s185, s186, s187, s188, s189, s190, s191, s192, s193, s194, s195, s196, s197, s198, s199, s200, s201, s202, s203, s204, s205, s206], []⟩ W)) :
    Code.wp Try.prog ((Try.f16.body.bind (regionAt 16)).getD .skip) Q ⟨#[s0, s1, s2, s3, s4, s5, s6, s7, .slice (some ⟨b1, o1, none⟩) rl c1, s9, s10, .slice (some ⟨b2, o2, none⟩) rl c2, s12, s13, s14, s15, s16, .int .i64 (k : Int), s18, s19, s20, s21, s22, s23, s24, s25, s26, s27, s28, s29, s30, s31, s32, s33, s34, s35, s36, s37, s38, s39, s40, s41, s42, s43, s44, s45, s46, s47, s48, s49, s50, s51, s52, s53, s54, s55, s56, s57, s58, s59, s60, s61, s62, s63, s64, s65, s66, s67, s68, s69, s70, s71, s72, s73, s74, s75, s76, s77, s78, s79, s80, s81, s82, s83, s84, s85, s86, s87, s88, s89, s90, s91, s92, s93, s94, s95, s96, s97, s98, s99, s100, s101, s102, s103, s104, s105, s106, s107, s108, s109, s110, s111, s112, s113, s114, s115, s116, s117, s118, s119, s120, s121, s122, s123, s124, s125, s126, s127, s128, s129, s130, s131, s132, s133, s134, s135, s136, s137, s138, s139, s140, s141, s142, s143, s144, s145, s146, s147, s148, s149, s150, s151, s152, s153, s154, s155, s156, s157, s158, s159, s160, s161, s162, s163, s164, s165, s166, s167, s168, s169, s170, s171, s172, s173, s174, s175, s176, s177, s178, s179, s180, s181, s182, s183, s184, s185, s186, s187, s188, s189, s190, s191, s192, s193, s194, s195, s196, s197, s198, s199, s200, s201, s202, s203, s204, s205, s206], []⟩ W0 := by
  conv => arg 2; whnf
  refine wp_region_spec (by kernel_rfl) 24 (by kernel_rfl) (fun u => ⟨#[s0, s1, s2, s3, s4, s5, s6, s7, .slice (some ⟨b1, o1, none⟩) rl c1, s9, s10, .slice (some ⟨b2, o2, none⟩) rl c2, s12, s13, s14, s15, s16, .int .i64 (k : Int), s18, s19, s20, s21, s22, s23, s24, s25, s26, s27, s28, s29, s30, s31, s32, s33, s34, s35, s36, s37, s38, s39, s40, s41, s42, s43, s44, s45, s46, s47, s48, s49, s50, s51, s52, s53, s54, s55, s56, s57, s58, s59, s60, s61, s62, s63, s64, s65, s66, s67, s68, s69, s70, s71, s72, s73, s74, s75, s76, s77, s78, s79, s80, s81, s82, s83, s84, s85, s86, s87, s88, s89, s90, s91, s92, s93, s94, s95, s96, s97, s98, s99, s100, s101, s102, s103, s104, s105, s106, s107, s108, s109, s110, s111, s112, s113, s114, s115, s116, s117, s118, s119, s120, s121, s122, s123, s124, s125, s126, s127, s128, s129, s130, s131, s132, s133, s134, s135, s136, s137, u 0, u 1, u 2, u 3, u 4, u 5, u 6, u 7, u 8, u 9, u 10, u 11, u 12, u 13, u 14, u 15, u 16, u 17, u 18, u 19, u 20, u 21, u 22, u 23, s162, s163, s164, s165, s166, s167, s168, s169, s170, s171, s172, s173, s174, s175, s176, s177, s178, s179, s180, s181, s182, s183, s184, s185, s186, s187, s188, s189, s190, s191, s192, s193, s194, s195, s196, s197, s198, s199, s200, s201, s202, s203, s204, s205, s206], []⟩) (fun i => if i = 0 then s138 else if i = 1 then s139 else if i = 2 then s140 else if i = 3 then s141 else if i = 4 then s142 else if i = 5 then s143 else if i = 6 then s144 else if i = 7 then s145 else if i = 8 then s146 else if i = 9 then s147 else if i = 10 then s148 else if i = 11 then s149 else if i = 12 then s150 else if i = 13 then s151 else if i = 14 then s152 else if i = 15 then s153 else if i = 16 then s154 else if i = 17 then s155 else if i = 18 then s156 else if i = 19 then s157 else if i = 20 then s158 else if i = 21 then s159 else if i = 22 then s160 else if i = 23 then s161 else undef) (fun W => Hid (S W)) (lw16R b1 o1 c1 b2 o2 c2 k rl x0 x1 v0 v1) (by kernel_rfl) (hon _ _ HL.out (Below.refl _ _).drew) (fun i v W W2 hi h hb => lw16R_on b1 o1 c1 b2 o2 c2 k rl x0 x1 v0 v1 i hi v W W2 h hb) (by decide +kernel) ?_ ?_
  · iterate 24 (refine all_succ ?_ ?_)
    · exact all_zero
    · intro u W hB _ hd _ K hK
      have HK := Lib.hid hK; clear hK
      refine wpOp_of rfl (by rfl) ?_
      go_simp
      exact k_of (HK.out (.slice (some ⟨b2, o2, none⟩) rl c2) _ rfl hB (Below.refl _ _)) (by kernel_rfl)
    · intro u W hB _ hd _ K hK
      have HK := Lib.hid hK; clear hK
      refine wpOp_of rfl (by rfl) ?_
      go_simp
      exact k_of (HK.out (.int .i64 (k : Int)) _ rfl hB (Below.refl _ _)) (by kernel_rfl)
    · intro u W hB _ hd _ K hK
      have HK := Lib.hid hK; clear hK
      have e0 : u 0 = .slice (some ⟨b2, o2, none⟩) rl c2 := hd 0 (by decide +kernel)
      have e1 : u 1 = .int .i64 (k : Int) := hd 1 (by decide +kernel)
      refine wpOp_of rfl (by rfl) ?_
      go_simp
      exact k_of (HK.out (.pointer (some ⟨b2, o2 + k * 2, none⟩)) _ rfl hB (Below.refl _ _)) (by rw [← u1_eq e0, ← u1_eq e1]; kernel_rfl)
    · intro u W hB _ hd _ K hK
      have HK := Lib.hid hK; clear hK
      have e2 : u 2 = .pointer (some ⟨b2, o2 + k * 2, none⟩) := hd 2 (by decide +kernel)
      refine wpOp_of rfl (by rfl) ?_
      go_simp
      exact k_of (HK.out (.pointer (some ⟨b2, o2 + k * 2, none⟩)) _ rfl hB (Below.refl _ _)) (by rw [← u1_eq e2]; kernel_rfl)
    · intro u W hB _ hd _ K hK
      have HK := Lib.hid hK; clear hK
      have e3 : u 3 = .pointer (some ⟨b2, o2 + k * 2, none⟩) := hd 3 (by decide +kernel)
      refine wpOp_of rfl (by rfl) ?_
      obtain ⟨d0, d1⟩ := h2 W hB.out
      go_simp
      exact k_of (HK.out (.int .i64 v0) _ rfl hB (Below.refl _ _)) (by rw [← u1_eq e3]; kernel_rfl)
    · intro u W hB _ hd _ K hK
      have HK := Lib.hid hK; clear hK
      refine wpOp_of rfl (by rfl) ?_
      go_simp
      exact k_of (HK.out (.slice (some ⟨b1, o1, none⟩) rl c1) _ rfl hB (Below.refl _ _)) (by kernel_rfl)
    · intro u W hB _ hd _ K hK
      have HK := Lib.hid hK; clear hK
      refine wpOp_of rfl (by rfl) ?_
      go_simp
      exact k_of (HK.out (.int .i64 (k : Int)) _ rfl hB (Below.refl _ _)) (by kernel_rfl)
    · intro u W hB _ hd _ K hK
      have HK := Lib.hid hK; clear hK
      have e5 : u 5 = .slice (some ⟨b1, o1, none⟩) rl c1 := hd 5 (by decide +kernel)
      have e6 : u 6 = .int .i64 (k : Int) := hd 6 (by decide +kernel)
      refine wpOp_of rfl (by rfl) ?_
      go_simp
      exact k_of (HK.out (.pointer (some ⟨b1, o1 + k * 2, none⟩)) _ rfl hB (Below.refl _ _)) (by rw [← u1_eq e5, ← u1_eq e6]; kernel_rfl)
    · intro u W hB _ hd _ K hK
      have HK := Lib.hid hK; clear hK
      have e7 : u 7 = .pointer (some ⟨b1, o1 + k * 2, none⟩) := hd 7 (by decide +kernel)
      refine wpOp_of rfl (by rfl) ?_
      go_simp
      exact k_of (HK.out (.pointer (some ⟨b1, o1 + k * 2, none⟩)) _ rfl hB (Below.refl _ _)) (by rw [← u1_eq e7]; kernel_rfl)
    · intro u W hB _ hd _ K hK
      have HK := Lib.hid hK; clear hK
      have e8 : u 8 = .pointer (some ⟨b1, o1 + k * 2, none⟩) := hd 8 (by decide +kernel)
      refine wpOp_of rfl (by rfl) ?_
      obtain ⟨d0, d1⟩ := h1 W hB.out
      go_simp
      exact k_of (HK.out (.int .i64 x0) _ rfl hB (Below.refl _ _)) (by rw [← u1_eq e8]; kernel_rfl)
    · intro u W hB _ hd _ K hK
      have HK := Lib.hid hK; clear hK
      have e4 : u 4 = .int .i64 v0 := hd 4 (by decide +kernel)
      have e9 : u 9 = .int .i64 x0 := hd 9 (by decide +kernel)
      refine wpOp_of rfl (by rfl) ?_
      go_simp
      exact k_of (HK.out (.bool false) _ rfl hB (Below.refl _ _)) (by rw [← u1_eq e4, ← u1_eq e9]; kernel_rfl)
    · intro u W hB _ hd _ K hK
      have HK := Lib.hid hK; clear hK
      have e10 : u 10 = .bool false := hd 10 (by decide +kernel)
      refine wpOp_of rfl (by rfl) ?_
      go_simp
      exact k_of (HK.out (.bool false) _ rfl hB (Below.refl _ _)) (by rw [← u1_eq e10]; kernel_rfl)
    · intro u W hB _ hd _ K hK
      have HK := Lib.hid hK; clear hK
      have e11 : u 11 = .bool false := hd 11 (by decide +kernel)
      refine wpOp_of rfl (by rw [← u1_eq e11]; kernel_rfl) ?_
      go_simp
      exact k_of (HK.out (.slice (some ⟨b2, o2, none⟩) rl c2) _ rfl hB (Below.refl _ _)) (by rw [← u1_eq e11]; kernel_rfl)
    · intro u W hB _ hd _ K hK
      have HK := Lib.hid hK; clear hK
      have e11 : u 11 = .bool false := hd 11 (by decide +kernel)
      refine wpOp_of rfl (by rw [← u1_eq e11]; kernel_rfl) ?_
      go_simp
      exact k_of (HK.out (.int .i64 (k : Int)) _ rfl hB (Below.refl _ _)) (by rw [← u1_eq e11]; kernel_rfl)
    · intro u W hB _ hd _ K hK
      have HK := Lib.hid hK; clear hK
      have e11 : u 11 = .bool false := hd 11 (by decide +kernel)
      have e12 : u 12 = .slice (some ⟨b2, o2, none⟩) rl c2 := hd 12 (by decide +kernel)
      have e13 : u 13 = .int .i64 (k : Int) := hd 13 (by decide +kernel)
      refine wpOp_of rfl (by rw [← u1_eq e11]; kernel_rfl) ?_
      go_simp
      exact k_of (HK.out (.pointer (some ⟨b2, o2 + k * 2, none⟩)) _ rfl hB (Below.refl _ _)) (by rw [← u1_eq e11, ← u1_eq e12, ← u1_eq e13]; kernel_rfl)
    · intro u W hB _ hd _ K hK
      have HK := Lib.hid hK; clear hK
      have e11 : u 11 = .bool false := hd 11 (by decide +kernel)
      have e14 : u 14 = .pointer (some ⟨b2, o2 + k * 2, none⟩) := hd 14 (by decide +kernel)
      refine wpOp_of rfl (by rw [← u1_eq e11]; kernel_rfl) ?_
      go_simp
      exact k_of (HK.out (.pointer (some ⟨b2, o2 + k * 2 + 1, none⟩)) _ rfl hB (Below.refl _ _)) (by rw [← u1_eq e11, ← u1_eq e14]; kernel_rfl)
    · intro u W hB _ hd _ K hK
      have HK := Lib.hid hK; clear hK
      have e11 : u 11 = .bool false := hd 11 (by decide +kernel)
      have e15 : u 15 = .pointer (some ⟨b2, o2 + k * 2 + 1, none⟩) := hd 15 (by decide +kernel)
      refine wpOp_of rfl (by rw [← u1_eq e11]; kernel_rfl) ?_
      obtain ⟨d0, d1⟩ := h2 W hB.out
      go_simp
      exact k_of (HK.out (.int .i64 v1) _ rfl hB (Below.refl _ _)) (by rw [← u1_eq e11, ← u1_eq e15]; kernel_rfl)
    · intro u W hB _ hd _ K hK
      have HK := Lib.hid hK; clear hK
      have e11 : u 11 = .bool false := hd 11 (by decide +kernel)
      refine wpOp_of rfl (by rw [← u1_eq e11]; kernel_rfl) ?_
      go_simp
      exact k_of (HK.out (.slice (some ⟨b1, o1, none⟩) rl c1) _ rfl hB (Below.refl _ _)) (by rw [← u1_eq e11]; kernel_rfl)
    · intro u W hB _ hd _ K hK
      have HK := Lib.hid hK; clear hK
      have e11 : u 11 = .bool false := hd 11 (by decide +kernel)
      refine wpOp_of rfl (by rw [← u1_eq e11]; kernel_rfl) ?_
      go_simp
      exact k_of (HK.out (.int .i64 (k : Int)) _ rfl hB (Below.refl _ _)) (by rw [← u1_eq e11]; kernel_rfl)
    · intro u W hB _ hd _ K hK
      have HK := Lib.hid hK; clear hK
      have e11 : u 11 = .bool false := hd 11 (by decide +kernel)
      have e17 : u 17 = .slice (some ⟨b1, o1, none⟩) rl c1 := hd 17 (by decide +kernel)
      have e18 : u 18 = .int .i64 (k : Int) := hd 18 (by decide +kernel)
      refine wpOp_of rfl (by rw [← u1_eq e11]; kernel_rfl) ?_
      go_simp
      exact k_of (HK.out (.pointer (some ⟨b1, o1 + k * 2, none⟩)) _ rfl hB (Below.refl _ _)) (by rw [← u1_eq e11, ← u1_eq e17, ← u1_eq e18]; kernel_rfl)
    · intro u W hB _ hd _ K hK
      have HK := Lib.hid hK; clear hK
      have e11 : u 11 = .bool false := hd 11 (by decide +kernel)
      have e19 : u 19 = .pointer (some ⟨b1, o1 + k * 2, none⟩) := hd 19 (by decide +kernel)
      refine wpOp_of rfl (by rw [← u1_eq e11]; kernel_rfl) ?_
      go_simp
      exact k_of (HK.out (.pointer (some ⟨b1, o1 + k * 2 + 1, none⟩)) _ rfl hB (Below.refl _ _)) (by rw [← u1_eq e11, ← u1_eq e19]; kernel_rfl)
    · intro u W hB _ hd _ K hK
      have HK := Lib.hid hK; clear hK
      have e11 : u 11 = .bool false := hd 11 (by decide +kernel)
      have e20 : u 20 = .pointer (some ⟨b1, o1 + k * 2 + 1, none⟩) := hd 20 (by decide +kernel)
      refine wpOp_of rfl (by rw [← u1_eq e11]; kernel_rfl) ?_
      obtain ⟨d0, d1⟩ := h1 W hB.out
      go_simp
      exact k_of (HK.out (.int .i64 x1) _ rfl hB (Below.refl _ _)) (by rw [← u1_eq e11, ← u1_eq e20]; kernel_rfl)
    · intro u W hB _ hd _ K hK
      have HK := Lib.hid hK; clear hK
      have e11 : u 11 = .bool false := hd 11 (by decide +kernel)
      have e16 : u 16 = .int .i64 v1 := hd 16 (by decide +kernel)
      have e21 : u 21 = .int .i64 x1 := hd 21 (by decide +kernel)
      refine wpOp_of rfl (by rw [← u1_eq e11]; kernel_rfl) ?_
      go_simp
      exact k_of (HK.out (.bool false) _ rfl hB (Below.refl _ _)) (by rw [← u1_eq e11, ← u1_eq e16, ← u1_eq e21]; kernel_rfl)
    · intro u W hB _ hd _ K hK
      have HK := Lib.hid hK; clear hK
      have e11 : u 11 = .bool false := hd 11 (by decide +kernel)
      have e22 : u 22 = .bool false := hd 22 (by decide +kernel)
      refine wpOp_of rfl (by rfl) ?_
      go_simp
      exact k_of (HK.out (.bool false) _ rfl hB (Below.refl _ _)) (by rw [← u1_eq e11, ← u1_eq e22]; kernel_rfl)
  · intro u W hB hd
    have e23 : u 23 = .bool false := hd 23 (by decide)
    exact k_of (HQ.out u W hB.out) (by simp only [e23])
end Go.Proofs.Ytljbjcnfkbmjkaa
