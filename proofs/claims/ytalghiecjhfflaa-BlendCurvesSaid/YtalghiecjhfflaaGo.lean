/- Layer blend, a part: Stays: regions. No statement is proved here. -/
import Derived.Test.YtalghiecjhfflaaGn
namespace Go.Proofs.Ytalghiecjhfflaa
open Go.RowKit Go.Shelf Go.Maps
attribute [local go_sem] Oper.semAt_some

/-- What each operation leaves. -/
def st12R (_Q1 _X g1 m c1 g2 c2 kk : Nat) (n1 n2 p1 p2 : Int) : Nat → Value → World → Prop
  | 0, v, _ => v = .slice (some ⟨g1, 0, none⟩) m c1
  | 1, v, _ => v = .int .i64 (kk : Int)
  | 2, v, _ => v = .pointer (some ⟨g1, kk * 2, none⟩)
  | 3, v, _ => v = .pointer (some ⟨g1, kk * 2 + 1, none⟩)
  | 4, v, _ => v = .int .i64 n1
  | 5, v, _ => v = .slice (some ⟨g2, 0, none⟩) m c2
  | 6, v, _ => v = .int .i64 (kk : Int)
  | 7, v, _ => v = .pointer (some ⟨g2, kk * 2, none⟩)
  | 8, v, _ => v = .pointer (some ⟨g2, kk * 2 + 1, none⟩)
  | 9, v, _ => v = .int .i64 n2
  | 10, v, _ => v = .int .i64 (n1 - n2)
  | 11, v, _ => v = .slice (some ⟨g2, 0, none⟩) m c2
  | 12, v, _ => v = .int .i64 p2
  | 13, v, _ => v = .slice (some ⟨g1, 0, none⟩) m c1
  | 14, v, _ => v = .int .i64 p1
  | 15, v, _ => v = .int .i64 (p2 - p1)
  | 16, v, _ => v = .int .i64 (n1 - n2)
  | 17, v, _ => v = .int .i64 (p2 - p1)
  | _, _, _ => True
theorem st12R_on (Q1 X g1 m c1 g2 c2 kk : Nat) (n1 n2 p1 p2 : Int) : ∀ i, i < 18 → ∀ v W W', st12R Q1 X g1 m c1 g2 c2 kk n1 n2 p1 p2 i v W → Below W.heap.size W W' → st12R Q1 X g1 m c1 g2 c2 kk n1 n2 p1 p2 i v W' := by
  iterate 18 (refine all_succ ?_ ?_)
  · exact all_zero
  · exact fun _ _ _ h _ => h
  · exact fun _ _ _ h _ => h
  · exact fun _ _ _ h _ => h
  · exact fun _ _ _ h _ => h
  · exact fun _ _ _ h _ => h
  · exact fun _ _ _ h _ => h
  · exact fun _ _ _ h _ => h
  · exact fun _ _ _ h _ => h
  · exact fun _ _ _ h _ => h
  · exact fun _ _ _ h _ => h
  · exact fun _ _ _ h _ => h
  · exact fun _ _ _ h _ => h
  · exact fun _ _ _ h _ => h
  · exact fun _ _ _ h _ => h
  · exact fun _ _ _ h _ => h
  · exact fun _ _ _ h _ => h
  · exact fun _ _ _ h _ => h
  · exact fun _ _ _ h _ => h
set_option maxRecDepth 100000 in
set_option maxHeartbeats 8000000 in
theorem st12_region {S : World → Prop} (hon : ∀ W W', S W → Below W.heap.size W W' → S W') {Q1 X g1 m c1 g2 c2 kk : Nat} {n1 n2 p1 p2 : Int} {lo : Nat} (hkm : kk < m) (hw1 : IntKind.i64.wrap (n1 - n2) = n1 - n2) (hw2 : IntKind.i64.wrap (p2 - p1) = p2 - p1) (hQ : ∀ W, S W → Blk W Q1 107 #[.slice (some ⟨g1, 0, none⟩) m c1]) (hX : ∀ W, S W → Blk W X 3 #[.int .i64 (kk : Int)]) (h1 : ∀ W, S W → W.cell? ⟨g1, kk * 2 + 1, none⟩ = some (.int .i64 n1)) (h2 : ∀ W, S W → W.cell? ⟨g2, kk * 2 + 1, none⟩ = some (.int .i64 n2)) (HC12 : Hid (∀ (W : World), S W → Calls Try.prog 72 #[.slice (some ⟨g2, 0, none⟩) m c2] W fun e w' => e = .returned (.int .i64 p2) ∧ Below W.heap.size W w')) (HC14 : Hid (∀ (W : World), S W → Calls Try.prog 72 #[.slice (some ⟨g1, 0, none⟩) m c1] W fun e w' => e = .returned (.int .i64 p1) ∧ Below W.heap.size W w')) {Q : Exit → Act → World → Prop} {s0 s1 s2 s3 s4 s5 s6 s8 s9 s10 s11 s13 s17 s18 s19 s20 s21 s22 s23 s24 s25 s26 s27 s28 s29 s30 s31 s32 s33 s34 s35 s36 s37 s38 s39 s40 s41 s42 s43 s44 s45 s46 s47 s48 s49 s50 s51 s52 s69 s70 s71 s72 s73 s74 s75 s76 s77 s78 s79 s80 s81 s82 s83 s84 s85 s86 s87 s88 s89 s90 s91 s92 s93 s94 s95 s96 s97 s98 s99 s100 s101 s15 s16 s53 s54 s55 s56 s57 s58 s59 s60 s61 s62 s63 s64 s65 s66 s67 s68 : Value} {W0 : World} (HL : Hid (S W0))
    (HQ : Hid (∀ (u : Nat → Value) (W : World), S W → Q .normal ⟨#[s0, s1, s2, s3, s4, s5, s6, .pointer (some ⟨X, 0, none⟩), s8, s9, s10, s11, .pointer (some ⟨Q1, 0, none⟩), s13, .slice (some ⟨g2, 0, none⟩) m c2, .int .i64 (n1 - n2), .int .i64 (p2 - p1), s17, s18, s19, s20, s21, s22, s23, s24, s25, s26, s27, s28, s29, s30, s31, s32, s33, s34, s35, s36, s37, s38, s39, s40, s41, s42, s43, s44, s45, s46, s47, s48, s49, s50, s51, s52, u 0, u 1, u 2, u 3, u 4, u 5, u 6, u 7, u 8, u 9, u 10, u 11, u 12, u 13, u 14, u 15, s69, s70, s71, s72, s73, s74, s75, s76, s77, s78, s79, s80, s81, s82, s83, s84, s85, s86, s87, s88, s89, s90, s91, s92, s93, s94, s95, s96, s97, s98, s99, s100, s101], []⟩ W)) :
    Code.wpIn (Fence.wide.inRound lo) 10 Try.prog ((Try.f31.body.bind (regionAt2 12)).getD .skip) Q ⟨#[s0, s1, s2, s3, s4, s5, s6, .pointer (some ⟨X, 0, none⟩), s8, s9, s10, s11, .pointer (some ⟨Q1, 0, none⟩), s13, .slice (some ⟨g2, 0, none⟩) m c2, s15, s16, s17, s18, s19, s20, s21, s22, s23, s24, s25, s26, s27, s28, s29, s30, s31, s32, s33, s34, s35, s36, s37, s38, s39, s40, s41, s42, s43, s44, s45, s46, s47, s48, s49, s50, s51, s52, s53, s54, s55, s56, s57, s58, s59, s60, s61, s62, s63, s64, s65, s66, s67, s68, s69, s70, s71, s72, s73, s74, s75, s76, s77, s78, s79, s80, s81, s82, s83, s84, s85, s86, s87, s88, s89, s90, s91, s92, s93, s94, s95, s96, s97, s98, s99, s100, s101], []⟩ W0 := by
  conv => arg 4; whnf
  refine wpIn_region_spec (by kernel_rfl) 18 (by kernel_rfl) (fun u => ⟨#[s0, s1, s2, s3, s4, s5, s6, .pointer (some ⟨X, 0, none⟩), s8, s9, s10, s11, .pointer (some ⟨Q1, 0, none⟩), s13, .slice (some ⟨g2, 0, none⟩) m c2, u 16, u 17, s17, s18, s19, s20, s21, s22, s23, s24, s25, s26, s27, s28, s29, s30, s31, s32, s33, s34, s35, s36, s37, s38, s39, s40, s41, s42, s43, s44, s45, s46, s47, s48, s49, s50, s51, s52, u 0, u 1, u 2, u 3, u 4, u 5, u 6, u 7, u 8, u 9, u 10, u 11, u 12, u 13, u 14, u 15, s69, s70, s71, s72, s73, s74, s75, s76, s77, s78, s79, s80, s81, s82, s83, s84, s85, s86, s87, s88, s89, s90, s91, s92, s93, s94, s95, s96, s97, s98, s99, s100, s101], []⟩) (fun i => if i = 0 then s53 else if i = 1 then s54 else if i = 2 then s55 else if i = 3 then s56 else if i = 4 then s57 else if i = 5 then s58 else if i = 6 then s59 else if i = 7 then s60 else if i = 8 then s61 else if i = 9 then s62 else if i = 10 then s63 else if i = 11 then s64 else if i = 12 then s65 else if i = 13 then s66 else if i = 14 then s67 else if i = 15 then s68 else if i = 16 then s15 else if i = 17 then s16 else undef) (fun W => Hid (S W)) (st12R Q1 X g1 m c1 g2 c2 kk n1 n2 p1 p2) (by kernel_rfl) (hon _ _ HL.out (Below.refl _ _).drew) (fun i v W W2 hi h hb => st12R_on Q1 X g1 m c1 g2 c2 kk n1 n2 p1 p2 i hi v W W2 h hb) (by decide +kernel) ?_ ?_
  · iterate 18 (refine all_succ ?_ ?_)
    · exact all_zero
    · intro u W hB _ hd _ K hK
      have HK := Lib.hid hK; clear hK
      refine wpOpI_of (fun _ => trivial) rfl (by rfl) ?_
      have z0 := (hQ W hB.out).cell 0
      go_simp
      exact k_of (HK.out (.slice (some ⟨g1, 0, none⟩) m c1) _ rfl hB (Below.refl _ _)) (by kernel_rfl)
    · intro u W hB _ hd _ K hK
      have HK := Lib.hid hK; clear hK
      refine wpOpI_of (fun _ => trivial) rfl (by rfl) ?_
      have z0 := (hX W hB.out).cell 0
      go_simp
      exact k_of (HK.out (.int .i64 (kk : Int)) _ rfl hB (Below.refl _ _)) (by kernel_rfl)
    · intro u W hB _ hd _ K hK
      have HK := Lib.hid hK; clear hK
      have e0 : u 0 = .slice (some ⟨g1, 0, none⟩) m c1 := hd 0 (by decide +kernel)
      have e1 : u 1 = .int .i64 (kk : Int) := hd 1 (by decide +kernel)
      refine wpOpI_of (fun _ => trivial) rfl (by rfl) ?_
      go_simp
      exact k_of (HK.out (.pointer (some ⟨g1, kk * 2, none⟩)) _ rfl hB (Below.refl _ _)) (by rw [← u1_eq e0, ← u1_eq e1]; kernel_rfl)
    · intro u W hB _ hd _ K hK
      have HK := Lib.hid hK; clear hK
      have e2 : u 2 = .pointer (some ⟨g1, kk * 2, none⟩) := hd 2 (by decide +kernel)
      refine wpOpI_of (fun _ => trivial) rfl (by rfl) ?_
      go_simp
      exact k_of (HK.out (.pointer (some ⟨g1, kk * 2 + 1, none⟩)) _ rfl hB (Below.refl _ _)) (by rw [← u1_eq e2]; kernel_rfl)
    · intro u W hB _ hd _ K hK
      have HK := Lib.hid hK; clear hK
      have e3 : u 3 = .pointer (some ⟨g1, kk * 2 + 1, none⟩) := hd 3 (by decide +kernel)
      refine wpOpI_of (fun _ => trivial) rfl (by rfl) ?_
      have z1 := h1 W hB.out
      go_simp
      exact k_of (HK.out (.int .i64 n1) _ rfl hB (Below.refl _ _)) (by rw [← u1_eq e3]; kernel_rfl)
    · intro u W hB _ hd _ K hK
      have HK := Lib.hid hK; clear hK
      refine wpOpI_of (fun _ => trivial) rfl (by rfl) ?_
      go_simp
      exact k_of (HK.out (.slice (some ⟨g2, 0, none⟩) m c2) _ rfl hB (Below.refl _ _)) (by kernel_rfl)
    · intro u W hB _ hd _ K hK
      have HK := Lib.hid hK; clear hK
      refine wpOpI_of (fun _ => trivial) rfl (by rfl) ?_
      have z0 := (hX W hB.out).cell 0
      go_simp
      exact k_of (HK.out (.int .i64 (kk : Int)) _ rfl hB (Below.refl _ _)) (by kernel_rfl)
    · intro u W hB _ hd _ K hK
      have HK := Lib.hid hK; clear hK
      have e5 : u 5 = .slice (some ⟨g2, 0, none⟩) m c2 := hd 5 (by decide +kernel)
      have e6 : u 6 = .int .i64 (kk : Int) := hd 6 (by decide +kernel)
      refine wpOpI_of (fun _ => trivial) rfl (by rfl) ?_
      go_simp
      exact k_of (HK.out (.pointer (some ⟨g2, kk * 2, none⟩)) _ rfl hB (Below.refl _ _)) (by rw [← u1_eq e5, ← u1_eq e6]; kernel_rfl)
    · intro u W hB _ hd _ K hK
      have HK := Lib.hid hK; clear hK
      have e7 : u 7 = .pointer (some ⟨g2, kk * 2, none⟩) := hd 7 (by decide +kernel)
      refine wpOpI_of (fun _ => trivial) rfl (by rfl) ?_
      go_simp
      exact k_of (HK.out (.pointer (some ⟨g2, kk * 2 + 1, none⟩)) _ rfl hB (Below.refl _ _)) (by rw [← u1_eq e7]; kernel_rfl)
    · intro u W hB _ hd _ K hK
      have HK := Lib.hid hK; clear hK
      have e8 : u 8 = .pointer (some ⟨g2, kk * 2 + 1, none⟩) := hd 8 (by decide +kernel)
      refine wpOpI_of (fun _ => trivial) rfl (by rfl) ?_
      have z2 := h2 W hB.out
      go_simp
      exact k_of (HK.out (.int .i64 n2) _ rfl hB (Below.refl _ _)) (by rw [← u1_eq e8]; kernel_rfl)
    · intro u W hB _ hd _ K hK
      have HK := Lib.hid hK; clear hK
      have e4 : u 4 = .int .i64 n1 := hd 4 (by decide +kernel)
      have e9 : u 9 = .int .i64 n2 := hd 9 (by decide +kernel)
      refine wpOpI_of (fun _ => trivial) rfl (by rfl) ?_
      go_simp
      exact k_of (HK.out (.int .i64 (n1 - n2)) _ rfl hB (Below.refl _ _)) (by rw [← u1_eq e4, ← u1_eq e9]; kernel_rfl)
    · intro u W hB _ hd _ K hK
      have HK := Lib.hid hK; clear hK
      refine wpOpI_of (fun _ => trivial) rfl (by rfl) ?_
      go_simp
      exact k_of (HK.out (.slice (some ⟨g2, 0, none⟩) m c2) _ rfl hB (Below.refl _ _)) (by kernel_rfl)
    · intro u W hB _ hd _ K hK
      have HK := Lib.hid hK; clear hK
      have e11 : u 11 = .slice (some ⟨g2, 0, none⟩) m c2 := hd 11 (by decide +kernel)
      refine wpOpI_of (fun _ => trivial) rfl (by rfl) ?_
      go_simp
      refine CallsIn.mono (callsIn_round (HC12.out W hB.out)) ?_
      rintro e w' ⟨rfl, hb⟩
      exact k_of (HK.out (.int .i64 p2) _ rfl (hon _ _ hB.out hb) hb) (by rw [← u1_eq e11]; kernel_rfl)
    · intro u W hB _ hd _ K hK
      have HK := Lib.hid hK; clear hK
      refine wpOpI_of (fun _ => trivial) rfl (by rfl) ?_
      have z0 := (hQ W hB.out).cell 0
      go_simp
      exact k_of (HK.out (.slice (some ⟨g1, 0, none⟩) m c1) _ rfl hB (Below.refl _ _)) (by kernel_rfl)
    · intro u W hB _ hd _ K hK
      have HK := Lib.hid hK; clear hK
      have e13 : u 13 = .slice (some ⟨g1, 0, none⟩) m c1 := hd 13 (by decide +kernel)
      refine wpOpI_of (fun _ => trivial) rfl (by rfl) ?_
      go_simp
      refine CallsIn.mono (callsIn_round (HC14.out W hB.out)) ?_
      rintro e w' ⟨rfl, hb⟩
      exact k_of (HK.out (.int .i64 p1) _ rfl (hon _ _ hB.out hb) hb) (by rw [← u1_eq e13]; kernel_rfl)
    · intro u W hB _ hd _ K hK
      have HK := Lib.hid hK; clear hK
      have e12 : u 12 = .int .i64 p2 := hd 12 (by decide +kernel)
      have e14 : u 14 = .int .i64 p1 := hd 14 (by decide +kernel)
      refine wpOpI_of (fun _ => trivial) rfl (by rfl) ?_
      go_simp
      exact k_of (HK.out (.int .i64 (p2 - p1)) _ rfl hB (Below.refl _ _)) (by rw [← u1_eq e12, ← u1_eq e14]; kernel_rfl)
    · intro u W hB _ hd _ K hK
      have HK := Lib.hid hK; clear hK
      have e10 : u 10 = .int .i64 (n1 - n2) := hd 10 (by decide +kernel)
      refine wpOpI_of (fun _ => trivial) rfl (by rfl) ?_
      go_simp
      exact k_of (HK.out (.int .i64 (n1 - n2)) _ rfl hB (Below.refl _ _)) (by rw [← u1_eq e10]; kernel_rfl)
    · intro u W hB _ hd _ K hK
      have HK := Lib.hid hK; clear hK
      have e15 : u 15 = .int .i64 (p2 - p1) := hd 15 (by decide +kernel)
      refine wpOpI_of (fun _ => trivial) rfl (by rfl) ?_
      go_simp
      exact k_of (HK.out (.int .i64 (p2 - p1)) _ rfl hB (Below.refl _ _)) (by rw [← u1_eq e15]; kernel_rfl)
  · intro u W hB hd
    have e16 : u 16 = .int .i64 (n1 - n2) := hd 16 (by decide)
    have e17 : u 17 = .int .i64 (p2 - p1) := hd 17 (by decide)
    exact k_of (HQ.out u W hB.out) (by simp only [e16, e17])

/-- What each operation leaves. -/
def st14R (Q2 : Nat) (_pl ph mo sv f : Int) : Nat → Value → World → Prop
  | 0, v, _ => v = .pointer (some ⟨Q2, 1, none⟩)
  | 1, v, _ => v = .int .i64 ph
  | 2, v, _ => v = .int .i64 sv
  | 3, v, _ => v = .int .i64 mo
  | 4, v, _ => v = .int .i64 f
  | 5, v, _ => v = .int .i64 (min ph f)
  | 6, v, _ => v = .pointer (some ⟨Q2, 1, none⟩)
  | 7, _, _ => True
  | _, _, _ => True
theorem st14R_on (Q2 : Nat) (pl ph mo sv f : Int) : ∀ i, i < 8 → ∀ v W W', st14R Q2 pl ph mo sv f i v W → Below W.heap.size W W' → st14R Q2 pl ph mo sv f i v W' := by
  iterate 8 (refine all_succ ?_ ?_)
  · exact all_zero
  · exact fun _ _ _ h _ => h
  · exact fun _ _ _ h _ => h
  · exact fun _ _ _ h _ => h
  · exact fun _ _ _ h _ => h
  · exact fun _ _ _ h _ => h
  · exact fun _ _ _ h _ => h
  · exact fun _ _ _ h _ => h
  · exact fun _ _ _ h _ => h
set_option maxRecDepth 100000 in
set_option maxHeartbeats 8000000 in
theorem st14_region {S S1 : World → Prop} (hon : ∀ W W', S W → Below W.heap.size W W' → S W') {Q2 : Nat} {pl ph mo sv f : Int} {lo : Nat} (hQ : ∀ W, S W → Blk W Q2 36 #[.int .i64 pl, .int .i64 ph]) (hst : ∀ W, S W → S1 (W.setCell ⟨Q2, 1, none⟩ (.int .i64 (min ph f)))) (HC : Hid (∀ (W : World), S W → Calls Try.prog 75 #[.int .i64 sv, .int .i64 mo] W fun e w' => e = .returned (.int .i64 f) ∧ Below W.heap.size W w')) {Q : Exit → Act → World → Prop} {s0 s1 s2 s3 s4 s5 s6 s7 s8 s9 s10 s11 s12 s14 s17 s18 s19 s20 s21 s22 s23 s24 s25 s26 s27 s28 s29 s30 s31 s32 s33 s34 s35 s36 s37 s38 s39 s40 s41 s42 s43 s44 s45 s46 s47 s48 s49 s50 s51 s52 s53 s54 s55 s56 s57 s58 s59 s60 s61 s62 s63 s64 s65 s66 s67 s68 s69 s70 s71 s79 s80 s81 s82 s83 s84 s85 s86 s87 s88 s89 s90 s91 s92 s93 s94 s95 s96 s97 s98 s99 s100 s101 s72 s73 s74 s75 s76 s77 s78 : Value} {W0 : World} (HL : Hid (S W0))
    (HQ : Hid (∀ (u : Nat → Value) (W : World), S1 W → Q .normal ⟨#[s0, s1, s2, s3, s4, s5, s6, s7, s8, s9, s10, s11, s12, .pointer (some ⟨Q2, 0, none⟩), s14, .int .i64 mo, .int .i64 sv, s17, s18, s19, s20, s21, s22, s23, s24, s25, s26, s27, s28, s29, s30, s31, s32, s33, s34, s35, s36, s37, s38, s39, s40, s41, s42, s43, s44, s45, s46, s47, s48, s49, s50, s51, s52, s53, s54, s55, s56, s57, s58, s59, s60, s61, s62, s63, s64, s65, s66, s67, s68, s69, s70, s71, u 0, u 1, u 2, u 3, u 4, u 5, u 6, s79, s80, s81, s82, s83, s84, s85, s86, s87, s88, s89, s90, s91, s92, s93, s94, s95, s96, s97, s98, s99, s100, s101], []⟩ W)) :
    Code.wpIn (Fence.wide.inRound lo) 10 Try.prog ((Try.f31.body.bind (regionAt2 14)).getD .skip) Q ⟨#[s0, s1, s2, s3, s4, s5, s6, s7, s8, s9, s10, s11, s12, .pointer (some ⟨Q2, 0, none⟩), s14, .int .i64 mo, .int .i64 sv, s17, s18, s19, s20, s21, s22, s23, s24, s25, s26, s27, s28, s29, s30, s31, s32, s33, s34, s35, s36, s37, s38, s39, s40, s41, s42, s43, s44, s45, s46, s47, s48, s49, s50, s51, s52, s53, s54, s55, s56, s57, s58, s59, s60, s61, s62, s63, s64, s65, s66, s67, s68, s69, s70, s71, s72, s73, s74, s75, s76, s77, s78, s79, s80, s81, s82, s83, s84, s85, s86, s87, s88, s89, s90, s91, s92, s93, s94, s95, s96, s97, s98, s99, s100, s101], []⟩ W0 := by
  conv => arg 4; whnf
  refine wpIn_region_spec2u (by kernel_rfl) 8 (by kernel_rfl) (fun u => ⟨#[s0, s1, s2, s3, s4, s5, s6, s7, s8, s9, s10, s11, s12, .pointer (some ⟨Q2, 0, none⟩), s14, .int .i64 mo, .int .i64 sv, s17, s18, s19, s20, s21, s22, s23, s24, s25, s26, s27, s28, s29, s30, s31, s32, s33, s34, s35, s36, s37, s38, s39, s40, s41, s42, s43, s44, s45, s46, s47, s48, s49, s50, s51, s52, s53, s54, s55, s56, s57, s58, s59, s60, s61, s62, s63, s64, s65, s66, s67, s68, s69, s70, s71, u 0, u 1, u 2, u 3, u 4, u 5, u 6, s79, s80, s81, s82, s83, s84, s85, s86, s87, s88, s89, s90, s91, s92, s93, s94, s95, s96, s97, s98, s99, s100, s101], []⟩) (fun i => if i = 0 then s72 else if i = 1 then s73 else if i = 2 then s74 else if i = 3 then s75 else if i = 4 then s76 else if i = 5 then s77 else if i = 6 then s78 else undef) (fun L W => Hid (sel1 (L 7) (S) (S1) W)) (st14R Q2 pl ph mo sv f) (by kernel_rfl) (hon _ _ HL.out (Below.refl _ _).drew) (by decide +kernel) ?_ ?_
  · iterate 8 (refine all_succ ?_ ?_)
    · exact all_zero
    · intro L u W hB hi hC hd hU0 K hK
      clear hU0
      have HK := Lib.hid hK; clear hK
      refine wpOpI_of (fun _ => trivial) rfl (by rfl) ?_
      go_simp
      exact k_of (HK.out (.pointer (some ⟨Q2, 1, none⟩)) _ rfl hB (fun _ _ _ _ h => h)) (by kernel_rfl)
    · intro L u W hB hi hC hd hU0 K hK
      clear hU0
      have HK := Lib.hid hK; clear hK
      have h7 : L 7 = false := by
        cases h : L 7 with
        | false => rfl
        | true => exact absurd (hC 7 (by decide) h 1 (by decide +kernel)) (by rw [hi]; decide)
      have hM : S W := by
        have h := hB.out
        rw [h7] at h
        exact h
      have hN : ∀ W', S W' → Hid (sel1 (setL L 1 7) (S) (S1) W') := fun W' h => by
        show Hid (sel1 (L 7) (S) (S1) W')
        rw [h7]
        exact h
      clear hB
      have hB := Lib.hid hM
      clear hM
      have e0 : u 0 = .pointer (some ⟨Q2, 1, none⟩) := (hd 0 (by decide +kernel)).2
      refine wpOpI_of (fun _ => trivial) rfl (by rfl) ?_
      have z1 := (hQ W hB.out).cell 1
      go_simp
      exact k_of (HK.out (.int .i64 ph) _ rfl (hN _ hB.out) (fun _ _ _ _ h => h)) (by rw [← u1_eq e0]; kernel_rfl)
    · intro L u W hB hi hC hd hU0 K hK
      clear hU0
      have HK := Lib.hid hK; clear hK
      refine wpOpI_of (fun _ => trivial) rfl (by rfl) ?_
      go_simp
      exact k_of (HK.out (.int .i64 sv) _ rfl hB (fun _ _ _ _ h => h)) (by kernel_rfl)
    · intro L u W hB hi hC hd hU0 K hK
      clear hU0
      have HK := Lib.hid hK; clear hK
      refine wpOpI_of (fun _ => trivial) rfl (by rfl) ?_
      go_simp
      exact k_of (HK.out (.int .i64 mo) _ rfl hB (fun _ _ _ _ h => h)) (by kernel_rfl)
    · intro L u W hB hi hC hd hU0 K hK
      clear hU0
      have HK := Lib.hid hK; clear hK
      have h7 : L 7 = false := by
        cases h : L 7 with
        | false => rfl
        | true => exact absurd (hC 7 (by decide) h 4 (by decide +kernel)) (by rw [hi]; decide)
      have hM : S W := by
        have h := hB.out
        rw [h7] at h
        exact h
      have hN : ∀ W', S W' → Hid (sel1 (setL L 4 7) (S) (S1) W') := fun W' h => by
        show Hid (sel1 (L 7) (S) (S1) W')
        rw [h7]
        exact h
      clear hB
      have hB := Lib.hid hM
      clear hM
      have e2 : u 2 = .int .i64 sv := (hd 2 (by decide +kernel)).2
      have e3 : u 3 = .int .i64 mo := (hd 3 (by decide +kernel)).2
      refine wpOpI_of (fun _ => trivial) rfl (by rfl) ?_
      go_simp
      refine CallsIn.mono (callsIn_round (HC.out W hB.out)) ?_
      rintro e w' ⟨rfl, hb⟩
      exact k_of (HK.out (.int .i64 f) _ rfl (hN _ (hon _ _ hB.out hb)) (fun j v hj _ hR => st14R_on Q2 pl ph mo sv f j hj v _ _ hR hb)) (by rw [← u1_eq e2, ← u1_eq e3]; kernel_rfl)
    · intro L u W hB hi hC hd hU0 K hK
      clear hU0
      have HK := Lib.hid hK; clear hK
      have h7 : L 7 = false := by
        cases h : L 7 with
        | false => rfl
        | true => exact absurd (hC 7 (by decide) h 5 (by decide +kernel)) (by rw [hi]; decide)
      have hM : S W := by
        have h := hB.out
        rw [h7] at h
        exact h
      have hN : ∀ W', S W' → Hid (sel1 (setL L 5 7) (S) (S1) W') := fun W' h => by
        show Hid (sel1 (L 7) (S) (S1) W')
        rw [h7]
        exact h
      clear hB
      have hB := Lib.hid hM
      clear hM
      have e1 : u 1 = .int .i64 ph := (hd 1 (by decide +kernel)).2
      have e4 : u 4 = .int .i64 f := (hd 4 (by decide +kernel)).2
      refine wpOpI_of (fun _ => trivial) rfl (by rfl) ?_
      go_simp
      exact k_of (HK.out (.int .i64 (min ph f)) _ rfl (hN _ hB.out) (fun _ _ _ _ h => h)) (by rw [← u1_eq e1, ← u1_eq e4]; kernel_rfl)
    · intro L u W hB hi hC hd hU0 K hK
      clear hU0
      have HK := Lib.hid hK; clear hK
      refine wpOpI_of (fun _ => trivial) rfl (by rfl) ?_
      go_simp
      exact k_of (HK.out (.pointer (some ⟨Q2, 1, none⟩)) _ rfl hB (fun _ _ _ _ h => h)) (by kernel_rfl)
    · intro L u W hB hi hC hd hU0 K hK
      clear hU0
      have HK := Lib.hid hK; clear hK
      have h7 : L 7 = false := hi
      have hM : S W := by
        have h := hB.out
        rw [h7] at h
        exact h
      have hN : ∀ W', S1 W' → Hid (sel1 (setL L 7 7) (S) (S1) W') := fun W' h => by
        show Hid (sel1 true (S) (S1) W')
        exact h
      clear hB
      have hB := Lib.hid hM
      clear hM
      have e6 : u 6 = .pointer (some ⟨Q2, 1, none⟩) := (hd 6 (by decide +kernel)).2
      have e5 : u 5 = .int .i64 (min ph f) := (hd 5 (by decide +kernel)).2
      refine wpOpI_of (fun _ => trivial) rfl (by rfl) ?_
      have fz := (hQ W hB.out).frozen 1
      have cl := (hQ W hB.out).cell 1
      have gl := (hQ W hB.out).lt
      go_simp
      exact k_of (HK.out undef _ trivial (hN _ (hst _ hB.out)) (fun j v hj h1 h2 => by
        have hkeep : ∀ j, j < 8 → ∀ v, st14R Q2 pl ph mo sv f j v W → st14R Q2 pl ph mo sv f j v (W.setCell ⟨Q2, 1, none⟩ (.int .i64 (min ph f))) := by
          iterate 8 (refine all_succ ?_ ?_)
          · exact all_zero
          all_goals exact fun _ h => h
        exact hkeep j hj v h2)) (by rw [← u1_eq e6, ← u1_eq e5]; kernel_rfl)
  · intro L u W hL hB hd
    have hM : S1 W := by
      have h := hB.out
      rw [hL 7 (by decide)] at h
      exact h
    exact k_of (HQ.out u W hM) (rfl)

/-- What each operation leaves. -/
def st16R (Q2 : Nat) (pl _ph mo sv f : Int) : Nat → Value → World → Prop
  | 0, v, _ => v = .pointer (some ⟨Q2, 0, none⟩)
  | 1, v, _ => v = .int .i64 pl
  | 2, v, _ => v = .int .i64 sv
  | 3, v, _ => v = .int .i64 mo
  | 4, v, _ => v = .int .i64 (-mo)
  | 5, v, _ => v = .int .i64 f
  | 6, v, _ => v = .int .i64 (-f)
  | 7, v, _ => v = .int .i64 (max pl (-f))
  | 8, v, _ => v = .pointer (some ⟨Q2, 0, none⟩)
  | 9, _, _ => True
  | _, _, _ => True
theorem st16R_on (Q2 : Nat) (pl ph mo sv f : Int) : ∀ i, i < 10 → ∀ v W W', st16R Q2 pl ph mo sv f i v W → Below W.heap.size W W' → st16R Q2 pl ph mo sv f i v W' := by
  iterate 10 (refine all_succ ?_ ?_)
  · exact all_zero
  · exact fun _ _ _ h _ => h
  · exact fun _ _ _ h _ => h
  · exact fun _ _ _ h _ => h
  · exact fun _ _ _ h _ => h
  · exact fun _ _ _ h _ => h
  · exact fun _ _ _ h _ => h
  · exact fun _ _ _ h _ => h
  · exact fun _ _ _ h _ => h
  · exact fun _ _ _ h _ => h
  · exact fun _ _ _ h _ => h
set_option maxRecDepth 100000 in
set_option maxHeartbeats 8000000 in
theorem st16_region {S S1 : World → Prop} (hon : ∀ W W', S W → Below W.heap.size W W' → S W') {Q2 : Nat} {pl ph mo sv f : Int} {lo : Nat} (hQ : ∀ W, S W → Blk W Q2 36 #[.int .i64 pl, .int .i64 ph]) (hst : ∀ W, S W → S1 (W.setCell ⟨Q2, 0, none⟩ (.int .i64 (max pl (-f))))) (hw1 : IntKind.i64.wrap (-mo) = -mo) (hw2 : IntKind.i64.wrap (-f) = -f) (HC : Hid (∀ (W : World), S W → Calls Try.prog 75 #[.int .i64 sv, .int .i64 (-mo)] W fun e w' => e = .returned (.int .i64 f) ∧ Below W.heap.size W w')) {Q : Exit → Act → World → Prop} {s0 s1 s2 s3 s4 s5 s6 s7 s8 s9 s10 s11 s12 s14 s17 s18 s19 s20 s21 s22 s23 s24 s25 s26 s27 s28 s29 s30 s31 s32 s33 s34 s35 s36 s37 s38 s39 s40 s41 s42 s43 s44 s45 s46 s47 s48 s49 s50 s51 s52 s53 s54 s55 s56 s57 s58 s59 s60 s61 s62 s63 s64 s65 s66 s67 s68 s69 s70 s71 s72 s73 s74 s75 s76 s77 s78 s79 s80 s81 s91 s92 s93 s94 s95 s96 s97 s98 s99 s100 s101 s82 s83 s84 s85 s86 s87 s88 s89 s90 : Value} {W0 : World} (HL : Hid (S W0))
    (HQ : Hid (∀ (u : Nat → Value) (W : World), S1 W → Q .normal ⟨#[s0, s1, s2, s3, s4, s5, s6, s7, s8, s9, s10, s11, s12, .pointer (some ⟨Q2, 0, none⟩), s14, .int .i64 mo, .int .i64 sv, s17, s18, s19, s20, s21, s22, s23, s24, s25, s26, s27, s28, s29, s30, s31, s32, s33, s34, s35, s36, s37, s38, s39, s40, s41, s42, s43, s44, s45, s46, s47, s48, s49, s50, s51, s52, s53, s54, s55, s56, s57, s58, s59, s60, s61, s62, s63, s64, s65, s66, s67, s68, s69, s70, s71, s72, s73, s74, s75, s76, s77, s78, s79, s80, s81, u 0, u 1, u 2, u 3, u 4, u 5, u 6, u 7, u 8, s91, s92, s93, s94, s95, s96, s97, s98, s99, s100, s101], []⟩ W)) :
    Code.wpIn (Fence.wide.inRound lo) 10 Try.prog ((Try.f31.body.bind (regionAt2 16)).getD .skip) Q ⟨#[s0, s1, s2, s3, s4, s5, s6, s7, s8, s9, s10, s11, s12, .pointer (some ⟨Q2, 0, none⟩), s14, .int .i64 mo, .int .i64 sv, s17, s18, s19, s20, s21, s22, s23, s24, s25, s26, s27, s28, s29, s30, s31, s32, s33, s34, s35, s36, s37, s38, s39, s40, s41, s42, s43, s44, s45, s46, s47, s48, s49, s50, s51, s52, s53, s54, s55, s56, s57, s58, s59, s60, s61, s62, s63, s64, s65, s66, s67, s68, s69, s70, s71, s72, s73, s74, s75, s76, s77, s78, s79, s80, s81, s82, s83, s84, s85, s86, s87, s88, s89, s90, s91, s92, s93, s94, s95, s96, s97, s98, s99, s100, s101], []⟩ W0 := by
  conv => arg 4; whnf
  refine wpIn_region_spec2u (by kernel_rfl) 10 (by kernel_rfl) (fun u => ⟨#[s0, s1, s2, s3, s4, s5, s6, s7, s8, s9, s10, s11, s12, .pointer (some ⟨Q2, 0, none⟩), s14, .int .i64 mo, .int .i64 sv, s17, s18, s19, s20, s21, s22, s23, s24, s25, s26, s27, s28, s29, s30, s31, s32, s33, s34, s35, s36, s37, s38, s39, s40, s41, s42, s43, s44, s45, s46, s47, s48, s49, s50, s51, s52, s53, s54, s55, s56, s57, s58, s59, s60, s61, s62, s63, s64, s65, s66, s67, s68, s69, s70, s71, s72, s73, s74, s75, s76, s77, s78, s79, s80, s81, u 0, u 1, u 2, u 3, u 4, u 5, u 6, u 7, u 8, s91, s92, s93, s94, s95, s96, s97, s98, s99, s100, s101], []⟩) (fun i => if i = 0 then s82 else if i = 1 then s83 else if i = 2 then s84 else if i = 3 then s85 else if i = 4 then s86 else if i = 5 then s87 else if i = 6 then s88 else if i = 7 then s89 else if i = 8 then s90 else undef) (fun L W => Hid (sel1 (L 9) (S) (S1) W)) (st16R Q2 pl ph mo sv f) (by kernel_rfl) (hon _ _ HL.out (Below.refl _ _).drew) (by decide +kernel) ?_ ?_
  · iterate 10 (refine all_succ ?_ ?_)
    · exact all_zero
    · intro L u W hB hi hC hd hU0 K hK
      clear hU0
      have HK := Lib.hid hK; clear hK
      refine wpOpI_of (fun _ => trivial) rfl (by rfl) ?_
      go_simp
      exact k_of (HK.out (.pointer (some ⟨Q2, 0, none⟩)) _ rfl hB (fun _ _ _ _ h => h)) (by kernel_rfl)
    · intro L u W hB hi hC hd hU0 K hK
      clear hU0
      have HK := Lib.hid hK; clear hK
      have h9 : L 9 = false := by
        cases h : L 9 with
        | false => rfl
        | true => exact absurd (hC 9 (by decide) h 1 (by decide +kernel)) (by rw [hi]; decide)
      have hM : S W := by
        have h := hB.out
        rw [h9] at h
        exact h
      have hN : ∀ W', S W' → Hid (sel1 (setL L 1 9) (S) (S1) W') := fun W' h => by
        show Hid (sel1 (L 9) (S) (S1) W')
        rw [h9]
        exact h
      clear hB
      have hB := Lib.hid hM
      clear hM
      have e0 : u 0 = .pointer (some ⟨Q2, 0, none⟩) := (hd 0 (by decide +kernel)).2
      refine wpOpI_of (fun _ => trivial) rfl (by rfl) ?_
      have z0 := (hQ W hB.out).cell 0
      go_simp
      exact k_of (HK.out (.int .i64 pl) _ rfl (hN _ hB.out) (fun _ _ _ _ h => h)) (by rw [← u1_eq e0]; kernel_rfl)
    · intro L u W hB hi hC hd hU0 K hK
      clear hU0
      have HK := Lib.hid hK; clear hK
      refine wpOpI_of (fun _ => trivial) rfl (by rfl) ?_
      go_simp
      exact k_of (HK.out (.int .i64 sv) _ rfl hB (fun _ _ _ _ h => h)) (by kernel_rfl)
    · intro L u W hB hi hC hd hU0 K hK
      clear hU0
      have HK := Lib.hid hK; clear hK
      refine wpOpI_of (fun _ => trivial) rfl (by rfl) ?_
      go_simp
      exact k_of (HK.out (.int .i64 mo) _ rfl hB (fun _ _ _ _ h => h)) (by kernel_rfl)
    · intro L u W hB hi hC hd hU0 K hK
      clear hU0
      have HK := Lib.hid hK; clear hK
      have e3 : u 3 = .int .i64 mo := (hd 3 (by decide +kernel)).2
      refine wpOpI_of (fun _ => trivial) rfl (by rfl) ?_
      go_simp
      exact k_of (HK.out (.int .i64 (-mo)) _ rfl hB (fun _ _ _ _ h => h)) (by rw [← u1_eq e3]; kernel_rfl)
    · intro L u W hB hi hC hd hU0 K hK
      clear hU0
      have HK := Lib.hid hK; clear hK
      have h9 : L 9 = false := by
        cases h : L 9 with
        | false => rfl
        | true => exact absurd (hC 9 (by decide) h 5 (by decide +kernel)) (by rw [hi]; decide)
      have hM : S W := by
        have h := hB.out
        rw [h9] at h
        exact h
      have hN : ∀ W', S W' → Hid (sel1 (setL L 5 9) (S) (S1) W') := fun W' h => by
        show Hid (sel1 (L 9) (S) (S1) W')
        rw [h9]
        exact h
      clear hB
      have hB := Lib.hid hM
      clear hM
      have e2 : u 2 = .int .i64 sv := (hd 2 (by decide +kernel)).2
      have e4 : u 4 = .int .i64 (-mo) := (hd 4 (by decide +kernel)).2
      refine wpOpI_of (fun _ => trivial) rfl (by rfl) ?_
      go_simp
      refine CallsIn.mono (callsIn_round (HC.out W hB.out)) ?_
      rintro e w' ⟨rfl, hb⟩
      exact k_of (HK.out (.int .i64 f) _ rfl (hN _ (hon _ _ hB.out hb)) (fun j v hj _ hR => st16R_on Q2 pl ph mo sv f j hj v _ _ hR hb)) (by rw [← u1_eq e2, ← u1_eq e4]; kernel_rfl)
    · intro L u W hB hi hC hd hU0 K hK
      clear hU0
      have HK := Lib.hid hK; clear hK
      have e5 : u 5 = .int .i64 f := (hd 5 (by decide +kernel)).2
      refine wpOpI_of (fun _ => trivial) rfl (by rfl) ?_
      go_simp
      exact k_of (HK.out (.int .i64 (-f)) _ rfl hB (fun _ _ _ _ h => h)) (by rw [← u1_eq e5]; kernel_rfl)
    · intro L u W hB hi hC hd hU0 K hK
      clear hU0
      have HK := Lib.hid hK; clear hK
      have h9 : L 9 = false := by
        cases h : L 9 with
        | false => rfl
        | true => exact absurd (hC 9 (by decide) h 7 (by decide +kernel)) (by rw [hi]; decide)
      have hM : S W := by
        have h := hB.out
        rw [h9] at h
        exact h
      have hN : ∀ W', S W' → Hid (sel1 (setL L 7 9) (S) (S1) W') := fun W' h => by
        show Hid (sel1 (L 9) (S) (S1) W')
        rw [h9]
        exact h
      clear hB
      have hB := Lib.hid hM
      clear hM
      have e1 : u 1 = .int .i64 pl := (hd 1 (by decide +kernel)).2
      have e6 : u 6 = .int .i64 (-f) := (hd 6 (by decide +kernel)).2
      refine wpOpI_of (fun _ => trivial) rfl (by rfl) ?_
      go_simp
      exact k_of (HK.out (.int .i64 (max pl (-f))) _ rfl (hN _ hB.out) (fun _ _ _ _ h => h)) (by rw [← u1_eq e1, ← u1_eq e6]; kernel_rfl)
    · intro L u W hB hi hC hd hU0 K hK
      clear hU0
      have HK := Lib.hid hK; clear hK
      refine wpOpI_of (fun _ => trivial) rfl (by rfl) ?_
      go_simp
      exact k_of (HK.out (.pointer (some ⟨Q2, 0, none⟩)) _ rfl hB (fun _ _ _ _ h => h)) (by kernel_rfl)
    · intro L u W hB hi hC hd hU0 K hK
      clear hU0
      have HK := Lib.hid hK; clear hK
      have h9 : L 9 = false := hi
      have hM : S W := by
        have h := hB.out
        rw [h9] at h
        exact h
      have hN : ∀ W', S1 W' → Hid (sel1 (setL L 9 9) (S) (S1) W') := fun W' h => by
        show Hid (sel1 true (S) (S1) W')
        exact h
      clear hB
      have hB := Lib.hid hM
      clear hM
      have e8 : u 8 = .pointer (some ⟨Q2, 0, none⟩) := (hd 8 (by decide +kernel)).2
      have e7 : u 7 = .int .i64 (max pl (-f)) := (hd 7 (by decide +kernel)).2
      refine wpOpI_of (fun _ => trivial) rfl (by rfl) ?_
      have fz := (hQ W hB.out).frozen 0
      have cl := (hQ W hB.out).cell 0
      have gl := (hQ W hB.out).lt
      go_simp
      exact k_of (HK.out undef _ trivial (hN _ (hst _ hB.out)) (fun j v hj h1 h2 => by
        have hkeep : ∀ j, j < 10 → ∀ v, st16R Q2 pl ph mo sv f j v W → st16R Q2 pl ph mo sv f j v (W.setCell ⟨Q2, 0, none⟩ (.int .i64 (max pl (-f)))) := by
          iterate 10 (refine all_succ ?_ ?_)
          · exact all_zero
          all_goals exact fun _ h => h
        exact hkeep j hj v h2)) (by rw [← u1_eq e8, ← u1_eq e7]; kernel_rfl)
  · intro L u W hL hB hd
    have hM : S1 W := by
      have h := hB.out
      rw [hL 9 (by decide)] at h
      exact h
    exact k_of (HQ.out u W hM) (rfl)
end Go.Proofs.Ytalghiecjhfflaa

namespace Go.Proofs.Ytalghiecjhfflaa
open Go.RowKit Go.Shelf Go.Maps
attribute [local go_sem] Oper.semAt_some

/-- What each operation leaves. -/
def st1R (_P _X m0 c0 m2 c2 pn pc : Nat) (A0 A2 pa : Option Addr) (x1 x2 x3 x4 ix : Int) (e0_ : Int) (e1_ : Int) (e2_ : Int) (e3_ : Int) : Nat → Value → World → Prop
  | 0, v, _ => v = .slice A0 m0 c0
  | 1, v, _ => v = .int .i64 e0_
  | 2, v, _ => v = .slice A0 m0 c0
  | 3, v, _ => v = .agg #[.slice pa pn pc, .int .i64 x1, .int .i64 x2, .int .i64 x3, .int .i64 x4]
  | 4, v, _ => v = .int .i64 e1_
  | 5, v, _ => v = .slice A0 m0 c0
  | 6, v, _ => v = .slice A2 m2 c2
  | 7, v, _ => v = .int .i64 e2_
  | 8, v, _ => v = .slice A0 m0 c0
  | 9, v, _ => v = .int .i64 ix
  | 10, v, _ => v = .int .i64 e3_
  | 11, v, W => ∃ b_11, v = .slice (some ⟨b_11, 0, none⟩) 4 4 ∧ IntsIn W (some ⟨b_11, 0, none⟩) [e0_, e1_, e2_, e3_]
  | 12, v, _ => v = .int .i64 (orE [e0_, e1_, e2_, e3_])
  | 13, v, _ => v = .int .i64 (orE [e0_, e1_, e2_, e3_])
  | _, _, _ => True
theorem st1R_on (P X m0 c0 m2 c2 pn pc : Nat) (A0 A2 pa : Option Addr) (x1 x2 x3 x4 ix : Int) (e0_ : Int) (e1_ : Int) (e2_ : Int) (e3_ : Int) : ∀ i, i < 14 → ∀ v W W', st1R P X m0 c0 m2 c2 pn pc A0 A2 pa x1 x2 x3 x4 ix e0_ e1_ e2_ e3_ i v W → Below W.heap.size W W' → st1R P X m0 c0 m2 c2 pn pc A0 A2 pa x1 x2 x3 x4 ix e0_ e1_ e2_ e3_ i v W' := by
  iterate 14 (refine all_succ ?_ ?_)
  · exact all_zero
  · exact fun _ _ _ h _ => h
  · exact fun _ _ _ h _ => h
  · exact fun _ _ _ h _ => h
  · exact fun _ _ _ h _ => h
  · exact fun _ _ _ h _ => h
  · exact fun _ _ _ h _ => h
  · exact fun _ _ _ h _ => h
  · exact fun _ _ _ h _ => h
  · exact fun _ _ _ h _ => h
  · exact fun _ _ _ h _ => h
  · exact fun _ _ _ h _ => h
  · rintro v W W' ⟨b_11, e, h0⟩ hb; exact ⟨b_11, e, h0.on hb⟩
  · exact fun _ _ _ h _ => h
  · exact fun _ _ _ h _ => h
set_option maxRecDepth 100000 in
set_option maxHeartbeats 8000000 in
theorem st1_region {S : World → Prop} (hon : ∀ W W', S W → Below W.heap.size W W' → S W') {P X m0 c0 m2 c2 pn pc : Nat} {A0 A2 pa : Option Addr} {x1 x2 x3 x4 ix : Int} {e0_ : Int} {e1_ : Int} {e2_ : Int} {e3_ : Int} (hP : ∀ W, S W → Blk W P 46 #[.slice pa pn pc, .int .i64 x1, .int .i64 x2, .int .i64 x3, .int .i64 x4]) (hX : ∀ W, S W → Blk W X 3 #[.int .i64 ix]) (HC0 : Hid (∀ (W : World), S W → Calls Try.prog 55 #[.slice A0 m0 c0] W fun e w' => e = .returned (.int .i64 e0_) ∧ Below W.heap.size W w')) (HC1 : Hid (∀ (W : World), S W → Calls Try.prog 69 #[.slice A0 m0 c0, .agg #[.slice pa pn pc, .int .i64 x1, .int .i64 x2, .int .i64 x3, .int .i64 x4]] W fun e w' => e = .returned (.int .i64 e1_) ∧ Below W.heap.size W w')) (HC2 : Hid (∀ (W : World), S W → Calls Try.prog 59 #[.slice A0 m0 c0, .slice A2 m2 c2] W fun e w' => e = .returned (.int .i64 e2_) ∧ Below W.heap.size W w')) (HC3 : Hid (∀ (W : World), S W → Calls Try.prog 56 #[.slice A0 m0 c0, .int .i64 ix] W fun e w' => e = .returned (.int .i64 e3_) ∧ Below W.heap.size W w')) {Q : Exit → Act → World → Prop} {s1 s3 s4 s6 s8 s9 s11 s12 s13 s14 s15 s16 s30 s31 s32 s33 s34 s35 s36 s37 s38 s39 s40 s41 s42 s43 s44 s45 s46 s47 s48 s49 s50 s51 s52 s53 s54 s55 s56 s57 s58 s59 s60 s61 s62 s63 s64 s65 s66 s67 s68 s69 s70 s71 s72 s73 s74 s75 s76 s77 s78 s79 s80 s81 s82 s83 s84 s85 s86 s87 s88 s89 s90 s91 s92 s93 s94 s95 s96 s97 s98 s99 s100 s101 : Value} {W0 : World} (HL : Hid (S W0))
    (HQ : Hid (∀ (u : Nat → Value) (W : World), S W → Q .normal ⟨#[.slice A0 m0 c0, s1, .slice A2 m2 c2, s3, s4, .pointer (some ⟨P, 0, none⟩), s6, .pointer (some ⟨X, 0, none⟩), s8, s9, .int .i64 (orE [e0_, e1_, e2_, e3_]), s11, s12, s13, s14, s15, s16, u 0, u 1, u 2, u 3, u 4, u 5, u 6, u 7, u 8, u 9, u 10, u 11, u 12, s30, s31, s32, s33, s34, s35, s36, s37, s38, s39, s40, s41, s42, s43, s44, s45, s46, s47, s48, s49, s50, s51, s52, s53, s54, s55, s56, s57, s58, s59, s60, s61, s62, s63, s64, s65, s66, s67, s68, s69, s70, s71, s72, s73, s74, s75, s76, s77, s78, s79, s80, s81, s82, s83, s84, s85, s86, s87, s88, s89, s90, s91, s92, s93, s94, s95, s96, s97, s98, s99, s100, s101], []⟩ W)) :
    Code.wp Try.prog ((Try.f31.body.bind (regionAt 1)).getD .skip) Q ⟨#[.slice A0 m0 c0, s1, .slice A2 m2 c2, s3, s4, .pointer (some ⟨P, 0, none⟩), s6, .pointer (some ⟨X, 0, none⟩), s8, s9, undef, s11, s12, s13, s14, s15, s16, undef, undef, undef, undef, undef, undef, undef, undef, undef, undef, undef, undef, undef, s30, s31, s32, s33, s34, s35, s36, s37, s38, s39, s40, s41, s42, s43, s44, s45, s46, s47, s48, s49, s50, s51, s52, s53, s54, s55, s56, s57, s58, s59, s60, s61, s62, s63, s64, s65, s66, s67, s68, s69, s70, s71, s72, s73, s74, s75, s76, s77, s78, s79, s80, s81, s82, s83, s84, s85, s86, s87, s88, s89, s90, s91, s92, s93, s94, s95, s96, s97, s98, s99, s100, s101], []⟩ W0 := by
  conv => arg 2; whnf
  refine wp_region_spec (by kernel_rfl) 14 (by kernel_rfl) (fun u => ⟨#[.slice A0 m0 c0, s1, .slice A2 m2 c2, s3, s4, .pointer (some ⟨P, 0, none⟩), s6, .pointer (some ⟨X, 0, none⟩), s8, s9, u 13, s11, s12, s13, s14, s15, s16, u 0, u 1, u 2, u 3, u 4, u 5, u 6, u 7, u 8, u 9, u 10, u 11, u 12, s30, s31, s32, s33, s34, s35, s36, s37, s38, s39, s40, s41, s42, s43, s44, s45, s46, s47, s48, s49, s50, s51, s52, s53, s54, s55, s56, s57, s58, s59, s60, s61, s62, s63, s64, s65, s66, s67, s68, s69, s70, s71, s72, s73, s74, s75, s76, s77, s78, s79, s80, s81, s82, s83, s84, s85, s86, s87, s88, s89, s90, s91, s92, s93, s94, s95, s96, s97, s98, s99, s100, s101], []⟩) (fun i => undef) (fun W => Hid (S W)) (st1R P X m0 c0 m2 c2 pn pc A0 A2 pa x1 x2 x3 x4 ix e0_ e1_ e2_ e3_) (by kernel_rfl) (hon _ _ HL.out (Below.refl _ _).drew) (fun i v W W2 hi h hb => st1R_on P X m0 c0 m2 c2 pn pc A0 A2 pa x1 x2 x3 x4 ix e0_ e1_ e2_ e3_ i hi v W W2 h hb) (by decide +kernel) ?_ ?_
  · iterate 14 (refine all_succ ?_ ?_)
    · exact all_zero
    · intro u W hB _ hd _ K hK
      have HK := Lib.hid hK; clear hK
      refine wpOp_of rfl (by rfl) ?_
      go_simp
      exact k_of (HK.out (.slice A0 m0 c0) _ rfl hB (Below.refl _ _)) (by kernel_rfl)
    · intro u W hB _ hd _ K hK
      have HK := Lib.hid hK; clear hK
      have e0 : u 0 = .slice A0 m0 c0 := hd 0 (by decide +kernel)
      refine wpOp_of rfl (by rfl) ?_
      go_simp
      refine (HC0.out W hB.out).mono ?_
      rintro e w' ⟨rfl, hb⟩
      exact k_of (HK.out (.int .i64 e0_) _ rfl (hon _ _ hB.out hb) hb) (by rw [← u1_eq e0]; kernel_rfl)
    · intro u W hB _ hd _ K hK
      have HK := Lib.hid hK; clear hK
      refine wpOp_of rfl (by rfl) ?_
      go_simp
      exact k_of (HK.out (.slice A0 m0 c0) _ rfl hB (Below.refl _ _)) (by kernel_rfl)
    · intro u W hB _ hd _ K hK
      have HK := Lib.hid hK; clear hK
      refine wpOp_of rfl (by rfl) ?_
      have z0 := (hP W hB.out).cell 0; have z1 := (hP W hB.out).cell 1; have z2 := (hP W hB.out).cell 2; have z3 := (hP W hB.out).cell 3; have z4 := (hP W hB.out).cell 4
      go_simp
      exact k_of (HK.out (.agg #[.slice pa pn pc, .int .i64 x1, .int .i64 x2, .int .i64 x3, .int .i64 x4]) _ rfl hB (Below.refl _ _)) (by kernel_rfl)
    · intro u W hB _ hd _ K hK
      have HK := Lib.hid hK; clear hK
      have e2 : u 2 = .slice A0 m0 c0 := hd 2 (by decide +kernel)
      have e3 : u 3 = .agg #[.slice pa pn pc, .int .i64 x1, .int .i64 x2, .int .i64 x3, .int .i64 x4] := hd 3 (by decide +kernel)
      refine wpOp_of rfl (by rfl) ?_
      go_simp
      refine (HC1.out W hB.out).mono ?_
      rintro e w' ⟨rfl, hb⟩
      exact k_of (HK.out (.int .i64 e1_) _ rfl (hon _ _ hB.out hb) hb) (by rw [← u1_eq e2, ← u1_eq e3]; kernel_rfl)
    · intro u W hB _ hd _ K hK
      have HK := Lib.hid hK; clear hK
      refine wpOp_of rfl (by rfl) ?_
      go_simp
      exact k_of (HK.out (.slice A0 m0 c0) _ rfl hB (Below.refl _ _)) (by kernel_rfl)
    · intro u W hB _ hd _ K hK
      have HK := Lib.hid hK; clear hK
      refine wpOp_of rfl (by rfl) ?_
      go_simp
      exact k_of (HK.out (.slice A2 m2 c2) _ rfl hB (Below.refl _ _)) (by kernel_rfl)
    · intro u W hB _ hd _ K hK
      have HK := Lib.hid hK; clear hK
      have e5 : u 5 = .slice A0 m0 c0 := hd 5 (by decide +kernel)
      have e6 : u 6 = .slice A2 m2 c2 := hd 6 (by decide +kernel)
      refine wpOp_of rfl (by rfl) ?_
      go_simp
      refine (HC2.out W hB.out).mono ?_
      rintro e w' ⟨rfl, hb⟩
      exact k_of (HK.out (.int .i64 e2_) _ rfl (hon _ _ hB.out hb) hb) (by rw [← u1_eq e5, ← u1_eq e6]; kernel_rfl)
    · intro u W hB _ hd _ K hK
      have HK := Lib.hid hK; clear hK
      refine wpOp_of rfl (by rfl) ?_
      go_simp
      exact k_of (HK.out (.slice A0 m0 c0) _ rfl hB (Below.refl _ _)) (by kernel_rfl)
    · intro u W hB _ hd _ K hK
      have HK := Lib.hid hK; clear hK
      refine wpOp_of rfl (by rfl) ?_
      have z0 := (hX W hB.out).cell 0
      go_simp
      exact k_of (HK.out (.int .i64 ix) _ rfl hB (Below.refl _ _)) (by kernel_rfl)
    · intro u W hB _ hd _ K hK
      have HK := Lib.hid hK; clear hK
      have e8 : u 8 = .slice A0 m0 c0 := hd 8 (by decide +kernel)
      have e9 : u 9 = .int .i64 ix := hd 9 (by decide +kernel)
      refine wpOp_of rfl (by rfl) ?_
      go_simp
      refine (HC3.out W hB.out).mono ?_
      rintro e w' ⟨rfl, hb⟩
      exact k_of (HK.out (.int .i64 e3_) _ rfl (hon _ _ hB.out hb) hb) (by rw [← u1_eq e8, ← u1_eq e9]; kernel_rfl)
    · intro u W hB _ hd _ K hK
      have HK := Lib.hid hK; clear hK
      have e1 : u 1 = .int .i64 e0_ := hd 1 (by decide +kernel)
      have e4 : u 4 = .int .i64 e1_ := hd 4 (by decide +kernel)
      have e7 : u 7 = .int .i64 e2_ := hd 7 (by decide +kernel)
      have e10 : u 10 = .int .i64 e3_ := hd 10 (by decide +kernel)
      refine wpOp_of rfl (by rfl) ?_
      go_simp
      exact k_of (HK.out (.slice (some ⟨W.heap.size, 0, none⟩) 4 4) _ ⟨_, rfl, ints_blk (Blk.new _ _ _) rfl (by simp)⟩ (hon _ _ hB.out ((Below.refl _ W).alloc (Nat.le_refl _) _)) ((Below.refl _ W).alloc (Nat.le_refl _) _)) (by rw [← u1_eq e1, ← u1_eq e4, ← u1_eq e7, ← u1_eq e10]; kernel_rfl)
    · intro u W hB _ hd _ K hK
      have HK := Lib.hid hK; clear hK
      obtain ⟨b_11, e11, f11_0⟩ : st1R P X m0 c0 m2 c2 pn pc A0 A2 pa x1 x2 x3 x4 ix e0_ e1_ e2_ e3_ 11 (u 11) W := hd 11 (by decide +kernel)
      refine wpOp_of rfl (by rfl) ?_
      go_simp
      refine (or_any (c := 4) f11_0).mono ?_
      rintro e w' ⟨rfl, rfl⟩
      exact k_of (HK.out (.int .i64 (orE [e0_, e1_, e2_, e3_])) _ rfl hB (Below.refl _ _)) (by rw [← u1_eq e11]; kernel_rfl)
    · intro u W hB _ hd _ K hK
      have HK := Lib.hid hK; clear hK
      have e12 : u 12 = .int .i64 (orE [e0_, e1_, e2_, e3_]) := hd 12 (by decide +kernel)
      refine wpOp_of rfl (by rfl) ?_
      go_simp
      exact k_of (HK.out (.int .i64 (orE [e0_, e1_, e2_, e3_])) _ rfl hB (Below.refl _ _)) (by rw [← u1_eq e12]; kernel_rfl)
  · intro u W hB hd
    have e13 : u 13 = .int .i64 (orE [e0_, e1_, e2_, e3_]) := hd 13 (by decide)
    exact k_of (HQ.out u W hB.out) (by simp only [e13])
end Go.Proofs.Ytalghiecjhfflaa
