/- BlendCurves: a region. -/
import Derived.Test.YtalghiecjhfflaaZQ
import Derived.Test.YtalghiecjhfflaaZL
import Derived.Lib.MinMax
namespace Go.Proofs.Ytalghiecjhfflaa
open Go.RowKit Go.Shelf Go.Maps
attribute [local go_sem] Oper.semAt_some

/-- What each operation leaves. -/
def lc1R (cn cc k jj cb co : Nat) (nv _ad : Int) (y _x : Pt) : Nat → Value → World → Prop
  | 0, v, _ => v = .int .i64 (k : Int)
  | 1, v, _ => v = .bool true
  | 2, v, _ => v = .bool true
  | 3, v, _ => v = .int .i64 nv
  | 4, v, _ => v = .slice (some ⟨cb, co, none⟩) cn cc
  | 5, v, _ => v = .int .i64 (k : Int)
  | 6, v, _ => v = .int .i64 (jj : Int)
  | 7, v, _ => v = .pointer (some ⟨cb, co + jj * 2, none⟩)
  | 8, v, _ => v = .pointer (some ⟨cb, co + jj * 2, none⟩)
  | 9, v, _ => v = .int .i64 y.p
  | 10, v, _ => v = .bool false
  | 11, v, _ => v = .bool false
  | 12, v, _ => v = .bool false
  | 13, v, _ => v = undef
  | 14, v, _ => v = undef
  | 15, v, _ => v = undef
  | 16, v, _ => v = undef
  | 17, v, _ => v = undef
  | 18, v, _ => v = undef
  | 19, v, _ => v = undef
  | 20, v, _ => v = .bool false
  | 21, v, _ => v = .bool false
  | 22, v, _ => v = undef
  | 23, v, _ => v = undef
  | 24, v, _ => v = undef
  | 25, v, _ => v = undef
  | 26, v, _ => v = undef
  | 27, v, _ => v = undef
  | 28, v, _ => v = undef
  | 29, v, _ => v = undef
  | 30, v, _ => v = undef
  | 31, v, _ => v = undef
  | 32, v, _ => v = undef
  | 33, v, _ => v = undef
  | 34, v, _ => v = undef
  | 35, v, _ => v = undef
  | 36, v, _ => v = undef
  | 37, v, _ => v = undef
  | 38, v, _ => v = undef
  | 39, v, _ => v = undef
  | 40, v, _ => v = undef
  | 41, v, _ => v = undef
  | 42, v, _ => v = undef
  | 43, v, _ => v = undef
  | 44, v, _ => v = undef
  | 45, v, _ => v = undef
  | 46, v, _ => v = undef
  | 47, v, _ => v = undef
  | 48, v, _ => v = undef
  | 49, v, _ => v = undef
  | 50, v, _ => v = undef
  | 51, v, _ => v = undef
  | 52, v, _ => v = .bool false
  | _, _, _ => True
theorem lc1R_on (cn cc k jj cb co : Nat) (nv ad : Int) (y x : Pt) : ∀ i, i < 53 → ∀ v W W', lc1R cn cc k jj cb co nv ad y x i v W → Below W.heap.size W W' → lc1R cn cc k jj cb co nv ad y x i v W' := by
  iterate 53 (refine all_succ ?_ ?_)
  · exact all_zero
  · exact fun _ _ _ h _ => h
  · exact fun _ _ _ h _ => h
  · exact fun _ _ _ h _ => h
  · exact fun _ _ _ h _ => h
  · exact fun _ _ _ h _ => h
  · exact fun _ _ _ h _ => h
  · exact fun _ _ _ h _ => h
  · exact fun _ _ _ h _ => h
  · exact fun _ _ _ h _ => h
  · exact fun _ _ _ h _ => h
  · exact fun _ _ _ h _ => h
  · exact fun _ _ _ h _ => h
  · exact fun _ _ _ h _ => h
  · exact fun _ _ _ h _ => h
  · exact fun _ _ _ h _ => h
  · exact fun _ _ _ h _ => h
  · exact fun _ _ _ h _ => h
  · exact fun _ _ _ h _ => h
  · exact fun _ _ _ h _ => h
  · exact fun _ _ _ h _ => h
  · exact fun _ _ _ h _ => h
  · exact fun _ _ _ h _ => h
  · exact fun _ _ _ h _ => h
  · exact fun _ _ _ h _ => h
  · exact fun _ _ _ h _ => h
  · exact fun _ _ _ h _ => h
  · exact fun _ _ _ h _ => h
  · exact fun _ _ _ h _ => h
  · exact fun _ _ _ h _ => h
  · exact fun _ _ _ h _ => h
  · exact fun _ _ _ h _ => h
  · exact fun _ _ _ h _ => h
  · exact fun _ _ _ h _ => h
  · exact fun _ _ _ h _ => h
  · exact fun _ _ _ h _ => h
  · exact fun _ _ _ h _ => h
  · exact fun _ _ _ h _ => h
  · exact fun _ _ _ h _ => h
  · exact fun _ _ _ h _ => h
  · exact fun _ _ _ h _ => h
  · exact fun _ _ _ h _ => h
  · exact fun _ _ _ h _ => h
  · exact fun _ _ _ h _ => h
  · exact fun _ _ _ h _ => h
  · exact fun _ _ _ h _ => h
  · exact fun _ _ _ h _ => h
  · exact fun _ _ _ h _ => h
  · exact fun _ _ _ h _ => h
  · exact fun _ _ _ h _ => h
  · exact fun _ _ _ h _ => h
  · exact fun _ _ _ h _ => h
  · exact fun _ _ _ h _ => h
  · exact fun _ _ _ h _ => h
set_option maxRecDepth 100000 in
set_option maxHeartbeats 8000000 in
theorem lc1_region {S : World → Prop} (hon : ∀ W W', S W → Below W.heap.size W W' → S W') {cn cc k jj cb co : Nat} {nv ad : Int} {y x : Pt} (hz : 0 < k) (_hkm : (k : Int) < cn) (hjm : (jj : Int) < cn) (hsub : IntKind.i64.wrap ((k : Int) - 1) = (jj : Int)) (_hx : ∀ W, S W → W.cell? ⟨cb, co + k * 2, none⟩ = some (.int .i64 x.p) ∧ W.cell? ⟨cb, co + k * 2 + 1, none⟩ = some (.int .i64 x.a)) (hy : ∀ W, S W → W.cell? ⟨cb, co + jj * 2, none⟩ = some (.int .i64 y.p) ∧ W.cell? ⟨cb, co + jj * 2 + 1, none⟩ = some (.int .i64 y.a)) (hc1 : decide (nv > y.p) = false) {Q : Exit → Act → World → Prop} {s0 s1 s2 s3 s4 s5 s6 s7 s11 s13 s14 s15 s16 s17 s18 s19 s20 s21 s22 s23 s24 s25 s26 s27 s28 s29 s30 s31 s32 s33 s34 s35 s36 s37 s38 s39 s40 s41 s42 s43 s44 s45 s46 s47 s48 s49 s50 s51 s52 s53 s54 s55 s56 s57 s58 s59 s60 s61 s62 s63 s64 s65 s66 s67 s68 s69 s70 s71 s72 s73 s74 s75 s76 s77 s78 s79 s133 s134 s135 s136 s137 s138 s139 s140 s141 s142 s143 s144 s145 s146 s147 s148 s149 s150 s151 s152 s153 s154 s155 s156 s157 s158 s159 s160 s161 s162 s163 s164 s165 s166 s167 s168 s169 s170 s171 s172 s173 s174 s80 s81 s82 s83 s84 s85 s86 s87 s88 s89 s90 s91 s92 s93 s94 s95 s96 s97 s98 s99 s100 s101 s102 s103 s104 s105 s106 s107 s108 s109 s110 s111 s112 s113 s114 s115 s116 s117 s118 s119 s120 s121 s122 s123 s124 s125 s126 s127 s128 s129 s130 s131 s132 : Value} {W0 : World} (HL : Hid (S W0))
    (HQ : Hid (∀ (u : Nat → Value) (W : World), S W → Q .normal ⟨#[s0, s1, s2, s3, s4, s5, s6, s7, .slice (some ⟨cb, co, none⟩) cn cc, .int .i64 nv, .int .i64 ad, s11, .int .i64 (k : Int), s13, s14, s15, s16, s17, s18, s19, s20, s21, s22, s23, s24, s25, s26, s27, s28, s29, s30, s31, s32, s33, s34, s35, s36, s37, s38, s39, s40, s41, s42, s43, s44, s45, s46, s47, s48, s49, s50, s51, s52, s53, s54, s55, s56, s57, s58, s59, s60, s61, s62, s63, s64, s65, s66, s67, s68, s69, s70, s71, s72, s73, s74, s75, s76, s77, s78, s79, u 0, u 1, u 2, u 3, u 4, u 5, u 6, u 7, u 8, u 9, u 10, u 11, u 12, u 13, u 14, u 15, u 16, u 17, u 18, u 19, u 20, u 21, u 22, u 23, u 24, u 25, u 26, u 27, u 28, u 29, u 30, u 31, u 32, u 33, u 34, u 35, u 36, u 37, u 38, u 39, u 40, u 41, u 42, u 43, u 44, u 45, u 46, u 47, u 48, u 49, u 50, u 51, .bool false, s133, s134, s135, s136, s137, s138, s139, s140, s141, s142, s143, s144, s145, s146, s147, s148, s149, s150, s151, s152, s153, s154, s155, s156, s157, s158, s159, s160, s161, s162, s163, s164, s165, s166, s167, s168, s169, s170, s171, s172, s173, s174], []⟩ W)) :
    Code.wp Try.prog ((Try.f13.body.bind (regionAt 17)).getD .skip) Q ⟨#[s0, s1, s2, s3, s4, s5, s6, s7, .slice (some ⟨cb, co, none⟩) cn cc, .int .i64 nv, .int .i64 ad, s11, .int .i64 (k : Int), s13, s14, s15, s16, s17, s18, s19, s20, s21, s22, s23, s24, s25, s26, s27, s28, s29, s30, s31, s32, s33, s34, s35, s36, s37, s38, s39, s40, s41, s42, s43, s44, s45, s46, s47, s48, s49, s50, s51, s52, s53, s54, s55, s56, s57, s58, s59, s60, s61, s62, s63, s64, s65, s66, s67, s68, s69, s70, s71, s72, s73, s74, s75, s76, s77, s78, s79, s80, s81, s82, s83, s84, s85, s86, s87, s88, s89, s90, s91, s92, s93, s94, s95, s96, s97, s98, s99, s100, s101, s102, s103, s104, s105, s106, s107, s108, s109, s110, s111, s112, s113, s114, s115, s116, s117, s118, s119, s120, s121, s122, s123, s124, s125, s126, s127, s128, s129, s130, s131, s132, s133, s134, s135, s136, s137, s138, s139, s140, s141, s142, s143, s144, s145, s146, s147, s148, s149, s150, s151, s152, s153, s154, s155, s156, s157, s158, s159, s160, s161, s162, s163, s164, s165, s166, s167, s168, s169, s170, s171, s172, s173, s174], []⟩ W0 := by
  conv => arg 2; whnf
  refine wp_region_spec (by kernel_rfl) 53 (by kernel_rfl) (fun u => ⟨#[s0, s1, s2, s3, s4, s5, s6, s7, .slice (some ⟨cb, co, none⟩) cn cc, .int .i64 nv, .int .i64 ad, s11, .int .i64 (k : Int), s13, s14, s15, s16, s17, s18, s19, s20, s21, s22, s23, s24, s25, s26, s27, s28, s29, s30, s31, s32, s33, s34, s35, s36, s37, s38, s39, s40, s41, s42, s43, s44, s45, s46, s47, s48, s49, s50, s51, s52, s53, s54, s55, s56, s57, s58, s59, s60, s61, s62, s63, s64, s65, s66, s67, s68, s69, s70, s71, s72, s73, s74, s75, s76, s77, s78, s79, u 0, u 1, u 2, u 3, u 4, u 5, u 6, u 7, u 8, u 9, u 10, u 11, u 12, u 13, u 14, u 15, u 16, u 17, u 18, u 19, u 20, u 21, u 22, u 23, u 24, u 25, u 26, u 27, u 28, u 29, u 30, u 31, u 32, u 33, u 34, u 35, u 36, u 37, u 38, u 39, u 40, u 41, u 42, u 43, u 44, u 45, u 46, u 47, u 48, u 49, u 50, u 51, u 52, s133, s134, s135, s136, s137, s138, s139, s140, s141, s142, s143, s144, s145, s146, s147, s148, s149, s150, s151, s152, s153, s154, s155, s156, s157, s158, s159, s160, s161, s162, s163, s164, s165, s166, s167, s168, s169, s170, s171, s172, s173, s174], []⟩) (fun i => if i = 0 then s80 else if i = 1 then s81 else if i = 2 then s82 else if i = 3 then s83 else if i = 4 then s84 else if i = 5 then s85 else if i = 6 then s86 else if i = 7 then s87 else if i = 8 then s88 else if i = 9 then s89 else if i = 10 then s90 else if i = 11 then s91 else if i = 12 then s92 else if i = 13 then s93 else if i = 14 then s94 else if i = 15 then s95 else if i = 16 then s96 else if i = 17 then s97 else if i = 18 then s98 else if i = 19 then s99 else if i = 20 then s100 else if i = 21 then s101 else if i = 22 then s102 else if i = 23 then s103 else if i = 24 then s104 else if i = 25 then s105 else if i = 26 then s106 else if i = 27 then s107 else if i = 28 then s108 else if i = 29 then s109 else if i = 30 then s110 else if i = 31 then s111 else if i = 32 then s112 else if i = 33 then s113 else if i = 34 then s114 else if i = 35 then s115 else if i = 36 then s116 else if i = 37 then s117 else if i = 38 then s118 else if i = 39 then s119 else if i = 40 then s120 else if i = 41 then s121 else if i = 42 then s122 else if i = 43 then s123 else if i = 44 then s124 else if i = 45 then s125 else if i = 46 then s126 else if i = 47 then s127 else if i = 48 then s128 else if i = 49 then s129 else if i = 50 then s130 else if i = 51 then s131 else if i = 52 then s132 else undef) (fun W => Hid (S W)) (lc1R cn cc k jj cb co nv ad y x) (by kernel_rfl) (hon _ _ HL.out (Below.refl _ _).drew) (fun i v W W2 hi h hb => lc1R_on cn cc k jj cb co nv ad y x i hi v W W2 h hb) (by decide +kernel) ?_ ?_
  · iterate 53 (refine all_succ ?_ ?_)
    · exact all_zero
    · intro u W hB _ hd _ K hK
      have HK := Lib.hid hK; clear hK
      refine wpOp_of rfl (by rfl) ?_
      go_simp
      exact k_of (HK.out (.int .i64 (k : Int)) _ rfl hB (Below.refl _ _)) (by kernel_rfl)
    · intro u W hB _ hd _ K hK
      have HK := Lib.hid hK; clear hK
      have e0 : u 0 = .int .i64 (k : Int) := hd 0 (by decide +kernel)
      refine wpOp_of rfl (by rfl) ?_
      go_simp
      exact k_of (HK.out (.bool true) _ rfl hB (Below.refl _ _)) (by rw [← u1_eq e0]; kernel_rfl)
    · intro u W hB _ hd _ K hK
      have HK := Lib.hid hK; clear hK
      have e1 : u 1 = .bool true := hd 1 (by decide +kernel)
      refine wpOp_of rfl (by rfl) ?_
      go_simp
      exact k_of (HK.out (.bool true) _ rfl hB (Below.refl _ _)) (by rw [← u1_eq e1]; kernel_rfl)
    · intro u W hB _ hd _ K hK
      have HK := Lib.hid hK; clear hK
      have e2 : u 2 = .bool true := hd 2 (by decide +kernel)
      refine wpOp_of rfl (by rw [← u1_eq e2]; kernel_rfl) ?_
      go_simp
      exact k_of (HK.out (.int .i64 nv) _ rfl hB (Below.refl _ _)) (by rw [← u1_eq e2]; kernel_rfl)
    · intro u W hB _ hd _ K hK
      have HK := Lib.hid hK; clear hK
      have e2 : u 2 = .bool true := hd 2 (by decide +kernel)
      refine wpOp_of rfl (by rw [← u1_eq e2]; kernel_rfl) ?_
      go_simp
      exact k_of (HK.out (.slice (some ⟨cb, co, none⟩) cn cc) _ rfl hB (Below.refl _ _)) (by rw [← u1_eq e2]; kernel_rfl)
    · intro u W hB _ hd _ K hK
      have HK := Lib.hid hK; clear hK
      have e2 : u 2 = .bool true := hd 2 (by decide +kernel)
      refine wpOp_of rfl (by rw [← u1_eq e2]; kernel_rfl) ?_
      go_simp
      exact k_of (HK.out (.int .i64 (k : Int)) _ rfl hB (Below.refl _ _)) (by rw [← u1_eq e2]; kernel_rfl)
    · intro u W hB _ hd _ K hK
      have HK := Lib.hid hK; clear hK
      have e2 : u 2 = .bool true := hd 2 (by decide +kernel)
      have e5 : u 5 = .int .i64 (k : Int) := hd 5 (by decide +kernel)
      refine wpOp_of rfl (by rw [← u1_eq e2]; kernel_rfl) ?_
      go_simp
      exact k_of (HK.out (.int .i64 (jj : Int)) _ rfl hB (Below.refl _ _)) (by rw [← u1_eq e2, ← u1_eq e5]; kernel_rfl)
    · intro u W hB _ hd _ K hK
      have HK := Lib.hid hK; clear hK
      have e2 : u 2 = .bool true := hd 2 (by decide +kernel)
      have e4 : u 4 = .slice (some ⟨cb, co, none⟩) cn cc := hd 4 (by decide +kernel)
      have e6 : u 6 = .int .i64 (jj : Int) := hd 6 (by decide +kernel)
      refine wpOp_of rfl (by rw [← u1_eq e2]; kernel_rfl) ?_
      go_simp
      exact k_of (HK.out (.pointer (some ⟨cb, co + jj * 2, none⟩)) _ rfl hB (Below.refl _ _)) (by rw [← u1_eq e2, ← u1_eq e4, ← u1_eq e6]; kernel_rfl)
    · intro u W hB _ hd _ K hK
      have HK := Lib.hid hK; clear hK
      have e2 : u 2 = .bool true := hd 2 (by decide +kernel)
      have e7 : u 7 = .pointer (some ⟨cb, co + jj * 2, none⟩) := hd 7 (by decide +kernel)
      refine wpOp_of rfl (by rw [← u1_eq e2]; kernel_rfl) ?_
      go_simp
      exact k_of (HK.out (.pointer (some ⟨cb, co + jj * 2, none⟩)) _ rfl hB (Below.refl _ _)) (by rw [← u1_eq e2, ← u1_eq e7]; kernel_rfl)
    · intro u W hB _ hd _ K hK
      have HK := Lib.hid hK; clear hK
      have e2 : u 2 = .bool true := hd 2 (by decide +kernel)
      have e8 : u 8 = .pointer (some ⟨cb, co + jj * 2, none⟩) := hd 8 (by decide +kernel)
      refine wpOp_of rfl (by rw [← u1_eq e2]; kernel_rfl) ?_
      obtain ⟨z0, z1⟩ := hy W hB.out
      go_simp
      exact k_of (HK.out (.int .i64 y.p) _ rfl hB (Below.refl _ _)) (by rw [← u1_eq e2, ← u1_eq e8]; kernel_rfl)
    · intro u W hB _ hd _ K hK
      have HK := Lib.hid hK; clear hK
      have e2 : u 2 = .bool true := hd 2 (by decide +kernel)
      have e3 : u 3 = .int .i64 nv := hd 3 (by decide +kernel)
      have e9 : u 9 = .int .i64 y.p := hd 9 (by decide +kernel)
      refine wpOp_of rfl (by rw [← u1_eq e2]; kernel_rfl) ?_
      go_simp
      exact k_of (HK.out (.bool false) _ rfl hB (Below.refl _ _)) (by rw [← u1_eq e2, ← u1_eq e3, ← u1_eq e9]; kernel_rfl)
    · intro u W hB _ hd _ K hK
      have HK := Lib.hid hK; clear hK
      have e2 : u 2 = .bool true := hd 2 (by decide +kernel)
      have e10 : u 10 = .bool false := hd 10 (by decide +kernel)
      refine wpOp_of rfl (by rfl) ?_
      go_simp
      exact k_of (HK.out (.bool false) _ rfl hB (Below.refl _ _)) (by rw [← u1_eq e2, ← u1_eq e10]; kernel_rfl)
    · intro u W hB _ hd _ K hK
      have HK := Lib.hid hK; clear hK
      have e11 : u 11 = .bool false := hd 11 (by decide +kernel)
      refine wpOp_of rfl (by rfl) ?_
      go_simp
      exact k_of (HK.out (.bool false) _ rfl hB (Below.refl _ _)) (by rw [← u1_eq e11]; kernel_rfl)
    · intro u W hB _ hd _ K hK
      have HK := Lib.hid hK; clear hK
      have e12 : u 12 = .bool false := hd 12 (by decide +kernel)
      refine wpOp_skip rfl (by rw [← u1_eq e12]; kernel_rfl) ?_
      exact k_of (HK.out undef _ rfl hB (Below.refl _ _)) (by rw [← u1_eq e12]; kernel_rfl)
    · intro u W hB _ hd _ K hK
      have HK := Lib.hid hK; clear hK
      have e12 : u 12 = .bool false := hd 12 (by decide +kernel)
      refine wpOp_skip rfl (by rw [← u1_eq e12]; kernel_rfl) ?_
      exact k_of (HK.out undef _ rfl hB (Below.refl _ _)) (by rw [← u1_eq e12]; kernel_rfl)
    · intro u W hB _ hd _ K hK
      have HK := Lib.hid hK; clear hK
      have e12 : u 12 = .bool false := hd 12 (by decide +kernel)
      refine wpOp_skip rfl (by rw [← u1_eq e12]; kernel_rfl) ?_
      exact k_of (HK.out undef _ rfl hB (Below.refl _ _)) (by rw [← u1_eq e12]; kernel_rfl)
    · intro u W hB _ hd _ K hK
      have HK := Lib.hid hK; clear hK
      have e12 : u 12 = .bool false := hd 12 (by decide +kernel)
      refine wpOp_skip rfl (by rw [← u1_eq e12]; kernel_rfl) ?_
      exact k_of (HK.out undef _ rfl hB (Below.refl _ _)) (by rw [← u1_eq e12]; kernel_rfl)
    · intro u W hB _ hd _ K hK
      have HK := Lib.hid hK; clear hK
      have e12 : u 12 = .bool false := hd 12 (by decide +kernel)
      refine wpOp_skip rfl (by rw [← u1_eq e12]; kernel_rfl) ?_
      exact k_of (HK.out undef _ rfl hB (Below.refl _ _)) (by rw [← u1_eq e12]; kernel_rfl)
    · intro u W hB _ hd _ K hK
      have HK := Lib.hid hK; clear hK
      have e12 : u 12 = .bool false := hd 12 (by decide +kernel)
      refine wpOp_skip rfl (by rw [← u1_eq e12]; kernel_rfl) ?_
      exact k_of (HK.out undef _ rfl hB (Below.refl _ _)) (by rw [← u1_eq e12]; kernel_rfl)
    · intro u W hB _ hd _ K hK
      have HK := Lib.hid hK; clear hK
      have e12 : u 12 = .bool false := hd 12 (by decide +kernel)
      refine wpOp_skip rfl (by rw [← u1_eq e12]; kernel_rfl) ?_
      exact k_of (HK.out undef _ rfl hB (Below.refl _ _)) (by rw [← u1_eq e12]; kernel_rfl)
    · intro u W hB _ hd _ K hK
      have HK := Lib.hid hK; clear hK
      have e12 : u 12 = .bool false := hd 12 (by decide +kernel)
      have e19 : u 19 = undef := hd 19 (by decide +kernel)
      refine wpOp_of rfl (by rfl) ?_
      go_simp
      exact k_of (HK.out (.bool false) _ rfl hB (Below.refl _ _)) (by rw [← u1_eq e12, ← u1_eq e19]; kernel_rfl)
    · intro u W hB _ hd _ K hK
      have HK := Lib.hid hK; clear hK
      have e20 : u 20 = .bool false := hd 20 (by decide +kernel)
      refine wpOp_of rfl (by rfl) ?_
      go_simp
      exact k_of (HK.out (.bool false) _ rfl hB (Below.refl _ _)) (by rw [← u1_eq e20]; kernel_rfl)
    · intro u W hB _ hd _ K hK
      have HK := Lib.hid hK; clear hK
      have e21 : u 21 = .bool false := hd 21 (by decide +kernel)
      refine wpOp_skip rfl (by rw [← u1_eq e21]; kernel_rfl) ?_
      exact k_of (HK.out undef _ rfl hB (Below.refl _ _)) (by rw [← u1_eq e21]; kernel_rfl)
    · intro u W hB _ hd _ K hK
      have HK := Lib.hid hK; clear hK
      have e21 : u 21 = .bool false := hd 21 (by decide +kernel)
      refine wpOp_skip rfl (by rw [← u1_eq e21]; kernel_rfl) ?_
      exact k_of (HK.out undef _ rfl hB (Below.refl _ _)) (by rw [← u1_eq e21]; kernel_rfl)
    · intro u W hB _ hd _ K hK
      have HK := Lib.hid hK; clear hK
      have e21 : u 21 = .bool false := hd 21 (by decide +kernel)
      refine wpOp_skip rfl (by rw [← u1_eq e21]; kernel_rfl) ?_
      exact k_of (HK.out undef _ rfl hB (Below.refl _ _)) (by rw [← u1_eq e21]; kernel_rfl)
    · intro u W hB _ hd _ K hK
      have HK := Lib.hid hK; clear hK
      have e21 : u 21 = .bool false := hd 21 (by decide +kernel)
      refine wpOp_skip rfl (by rw [← u1_eq e21]; kernel_rfl) ?_
      exact k_of (HK.out undef _ rfl hB (Below.refl _ _)) (by rw [← u1_eq e21]; kernel_rfl)
    · intro u W hB _ hd _ K hK
      have HK := Lib.hid hK; clear hK
      have e21 : u 21 = .bool false := hd 21 (by decide +kernel)
      refine wpOp_skip rfl (by rw [← u1_eq e21]; kernel_rfl) ?_
      exact k_of (HK.out undef _ rfl hB (Below.refl _ _)) (by rw [← u1_eq e21]; kernel_rfl)
    · intro u W hB _ hd _ K hK
      have HK := Lib.hid hK; clear hK
      have e21 : u 21 = .bool false := hd 21 (by decide +kernel)
      refine wpOp_skip rfl (by rw [← u1_eq e21]; kernel_rfl) ?_
      exact k_of (HK.out undef _ rfl hB (Below.refl _ _)) (by rw [← u1_eq e21]; kernel_rfl)
    · intro u W hB _ hd _ K hK
      have HK := Lib.hid hK; clear hK
      have e21 : u 21 = .bool false := hd 21 (by decide +kernel)
      refine wpOp_skip rfl (by rw [← u1_eq e21]; kernel_rfl) ?_
      exact k_of (HK.out undef _ rfl hB (Below.refl _ _)) (by rw [← u1_eq e21]; kernel_rfl)
    · intro u W hB _ hd _ K hK
      have HK := Lib.hid hK; clear hK
      have e21 : u 21 = .bool false := hd 21 (by decide +kernel)
      refine wpOp_skip rfl (by rw [← u1_eq e21]; kernel_rfl) ?_
      exact k_of (HK.out undef _ rfl hB (Below.refl _ _)) (by rw [← u1_eq e21]; kernel_rfl)
    · intro u W hB _ hd _ K hK
      have HK := Lib.hid hK; clear hK
      have e21 : u 21 = .bool false := hd 21 (by decide +kernel)
      refine wpOp_skip rfl (by rw [← u1_eq e21]; kernel_rfl) ?_
      exact k_of (HK.out undef _ rfl hB (Below.refl _ _)) (by rw [← u1_eq e21]; kernel_rfl)
    · intro u W hB _ hd _ K hK
      have HK := Lib.hid hK; clear hK
      have e21 : u 21 = .bool false := hd 21 (by decide +kernel)
      refine wpOp_skip rfl (by rw [← u1_eq e21]; kernel_rfl) ?_
      exact k_of (HK.out undef _ rfl hB (Below.refl _ _)) (by rw [← u1_eq e21]; kernel_rfl)
    · intro u W hB _ hd _ K hK
      have HK := Lib.hid hK; clear hK
      have e21 : u 21 = .bool false := hd 21 (by decide +kernel)
      refine wpOp_skip rfl (by rw [← u1_eq e21]; kernel_rfl) ?_
      exact k_of (HK.out undef _ rfl hB (Below.refl _ _)) (by rw [← u1_eq e21]; kernel_rfl)
    · intro u W hB _ hd _ K hK
      have HK := Lib.hid hK; clear hK
      have e21 : u 21 = .bool false := hd 21 (by decide +kernel)
      refine wpOp_skip rfl (by rw [← u1_eq e21]; kernel_rfl) ?_
      exact k_of (HK.out undef _ rfl hB (Below.refl _ _)) (by rw [← u1_eq e21]; kernel_rfl)
    · intro u W hB _ hd _ K hK
      have HK := Lib.hid hK; clear hK
      have e21 : u 21 = .bool false := hd 21 (by decide +kernel)
      refine wpOp_skip rfl (by rw [← u1_eq e21]; kernel_rfl) ?_
      exact k_of (HK.out undef _ rfl hB (Below.refl _ _)) (by rw [← u1_eq e21]; kernel_rfl)
    · intro u W hB _ hd _ K hK
      have HK := Lib.hid hK; clear hK
      have e21 : u 21 = .bool false := hd 21 (by decide +kernel)
      refine wpOp_skip rfl (by rw [← u1_eq e21]; kernel_rfl) ?_
      exact k_of (HK.out undef _ rfl hB (Below.refl _ _)) (by rw [← u1_eq e21]; kernel_rfl)
    · intro u W hB _ hd _ K hK
      have HK := Lib.hid hK; clear hK
      have e21 : u 21 = .bool false := hd 21 (by decide +kernel)
      refine wpOp_skip rfl (by rw [← u1_eq e21]; kernel_rfl) ?_
      exact k_of (HK.out undef _ rfl hB (Below.refl _ _)) (by rw [← u1_eq e21]; kernel_rfl)
    · intro u W hB _ hd _ K hK
      have HK := Lib.hid hK; clear hK
      have e36 : u 36 = undef := hd 36 (by decide +kernel)
      refine wpOp_skip rfl (by rw [← u1_eq e36]; kernel_rfl) ?_
      exact k_of (HK.out undef _ rfl hB (Below.refl _ _)) (by rw [← u1_eq e36]; kernel_rfl)
    · intro u W hB _ hd _ K hK
      have HK := Lib.hid hK; clear hK
      have e36 : u 36 = undef := hd 36 (by decide +kernel)
      refine wpOp_skip rfl (by rw [← u1_eq e36]; kernel_rfl) ?_
      exact k_of (HK.out undef _ rfl hB (Below.refl _ _)) (by rw [← u1_eq e36]; kernel_rfl)
    · intro u W hB _ hd _ K hK
      have HK := Lib.hid hK; clear hK
      have e36 : u 36 = undef := hd 36 (by decide +kernel)
      refine wpOp_skip rfl (by rw [← u1_eq e36]; kernel_rfl) ?_
      exact k_of (HK.out undef _ rfl hB (Below.refl _ _)) (by rw [← u1_eq e36]; kernel_rfl)
    · intro u W hB _ hd _ K hK
      have HK := Lib.hid hK; clear hK
      have e36 : u 36 = undef := hd 36 (by decide +kernel)
      refine wpOp_skip rfl (by rw [← u1_eq e36]; kernel_rfl) ?_
      exact k_of (HK.out undef _ rfl hB (Below.refl _ _)) (by rw [← u1_eq e36]; kernel_rfl)
    · intro u W hB _ hd _ K hK
      have HK := Lib.hid hK; clear hK
      have e36 : u 36 = undef := hd 36 (by decide +kernel)
      refine wpOp_skip rfl (by rw [← u1_eq e36]; kernel_rfl) ?_
      exact k_of (HK.out undef _ rfl hB (Below.refl _ _)) (by rw [← u1_eq e36]; kernel_rfl)
    · intro u W hB _ hd _ K hK
      have HK := Lib.hid hK; clear hK
      have e36 : u 36 = undef := hd 36 (by decide +kernel)
      refine wpOp_skip rfl (by rw [← u1_eq e36]; kernel_rfl) ?_
      exact k_of (HK.out undef _ rfl hB (Below.refl _ _)) (by rw [← u1_eq e36]; kernel_rfl)
    · intro u W hB _ hd _ K hK
      have HK := Lib.hid hK; clear hK
      have e36 : u 36 = undef := hd 36 (by decide +kernel)
      refine wpOp_skip rfl (by rw [← u1_eq e36]; kernel_rfl) ?_
      exact k_of (HK.out undef _ rfl hB (Below.refl _ _)) (by rw [← u1_eq e36]; kernel_rfl)
    · intro u W hB _ hd _ K hK
      have HK := Lib.hid hK; clear hK
      have e36 : u 36 = undef := hd 36 (by decide +kernel)
      refine wpOp_skip rfl (by rw [← u1_eq e36]; kernel_rfl) ?_
      exact k_of (HK.out undef _ rfl hB (Below.refl _ _)) (by rw [← u1_eq e36]; kernel_rfl)
    · intro u W hB _ hd _ K hK
      have HK := Lib.hid hK; clear hK
      have e36 : u 36 = undef := hd 36 (by decide +kernel)
      refine wpOp_skip rfl (by rw [← u1_eq e36]; kernel_rfl) ?_
      exact k_of (HK.out undef _ rfl hB (Below.refl _ _)) (by rw [← u1_eq e36]; kernel_rfl)
    · intro u W hB _ hd _ K hK
      have HK := Lib.hid hK; clear hK
      have e36 : u 36 = undef := hd 36 (by decide +kernel)
      refine wpOp_skip rfl (by rw [← u1_eq e36]; kernel_rfl) ?_
      exact k_of (HK.out undef _ rfl hB (Below.refl _ _)) (by rw [← u1_eq e36]; kernel_rfl)
    · intro u W hB _ hd _ K hK
      have HK := Lib.hid hK; clear hK
      have e36 : u 36 = undef := hd 36 (by decide +kernel)
      refine wpOp_skip rfl (by rw [← u1_eq e36]; kernel_rfl) ?_
      exact k_of (HK.out undef _ rfl hB (Below.refl _ _)) (by rw [← u1_eq e36]; kernel_rfl)
    · intro u W hB _ hd _ K hK
      have HK := Lib.hid hK; clear hK
      have e36 : u 36 = undef := hd 36 (by decide +kernel)
      refine wpOp_skip rfl (by rw [← u1_eq e36]; kernel_rfl) ?_
      exact k_of (HK.out undef _ rfl hB (Below.refl _ _)) (by rw [← u1_eq e36]; kernel_rfl)
    · intro u W hB _ hd _ K hK
      have HK := Lib.hid hK; clear hK
      have e36 : u 36 = undef := hd 36 (by decide +kernel)
      refine wpOp_skip rfl (by rw [← u1_eq e36]; kernel_rfl) ?_
      exact k_of (HK.out undef _ rfl hB (Below.refl _ _)) (by rw [← u1_eq e36]; kernel_rfl)
    · intro u W hB _ hd _ K hK
      have HK := Lib.hid hK; clear hK
      have e36 : u 36 = undef := hd 36 (by decide +kernel)
      refine wpOp_skip rfl (by rw [← u1_eq e36]; kernel_rfl) ?_
      exact k_of (HK.out undef _ rfl hB (Below.refl _ _)) (by rw [← u1_eq e36]; kernel_rfl)
    · intro u W hB _ hd _ K hK
      have HK := Lib.hid hK; clear hK
      have e21 : u 21 = .bool false := hd 21 (by decide +kernel)
      refine wpOp_skip rfl (by rw [← u1_eq e21]; kernel_rfl) ?_
      exact k_of (HK.out undef _ rfl hB (Below.refl _ _)) (by rw [← u1_eq e21]; kernel_rfl)
    · intro u W hB _ hd _ K hK
      have HK := Lib.hid hK; clear hK
      have e21 : u 21 = .bool false := hd 21 (by decide +kernel)
      have e51 : u 51 = undef := hd 51 (by decide +kernel)
      refine wpOp_of rfl (by rfl) ?_
      go_simp
      exact k_of (HK.out (.bool false) _ rfl hB (Below.refl _ _)) (by rw [← u1_eq e21, ← u1_eq e51]; kernel_rfl)
  · intro u W hB hd
    have e52 : u 52 = .bool false := hd 52 (by decide)
    exact k_of (HQ.out u W hB.out) (by simp only [e52])
end Go.Proofs.Ytalghiecjhfflaa
