/- BlendWeighed: a region. -/
import Derived.Test.YtalghiecjhfflaaZF
namespace Go.Proofs.Ytalghiecjhfflaa
open Go.RowKit Go.Shelf Go.Maps
attribute [local go_sem] Oper.semAt_some


theorem wg_at {g : Int} {r : List Int} {k m : Nat} (hk : k < m) : (wgL g r m)[k]? = some (g * sumL (r.take (k + 1)) / 20 - g * sumL (r.take k) / 20) := by
  simp [wgL, hk]
theorem cells2 {W : World} {A B : Option Addr} {a b : List Int} {ab ao rb ro k : Nat} {x y : Int} (hA : IntsIn W A a) (hB : IntsIn W B b) (eA : A = some ⟨ab, ao, none⟩) (eB : B = some ⟨rb, ro, none⟩) (hx : a[k]? = some x) (hy : b[k]? = some y) : W.cell? ⟨ab, ao + k, none⟩ = some (.int .i64 x) ∧ W.cell? ⟨rb, ro + k, none⟩ = some (.int .i64 y) := by
  obtain ⟨b1, o1, e1, _, d1⟩ := ints_at hA.at_ hx
  obtain ⟨b2, o2, e2, _, d2⟩ := ints_at hB.at_ hy
  rw [eA] at e1
  rw [eB] at e2
  cases e1
  cases e2
  exact ⟨d1, d2⟩

/-- What each operation leaves. -/
def lw13R (m k ab ao ac rb ro rc : Nat) (nn x y : Int) : Nat → Value → World → Prop
  | 0, v, _ => v = .slice (some ⟨ab, ao, none⟩) m ac
  | 1, v, _ => v = .int .i64 (k : Int)
  | 2, v, _ => v = .pointer (some ⟨ab, ao + k, none⟩)
  | 3, v, _ => v = .int .i64 x
  | 4, v, _ => v = .int .i64 (20 * x)
  | 5, v, _ => v = .int .i64 nn
  | 6, v, _ => v = .slice (some ⟨rb, ro, none⟩) m rc
  | 7, v, _ => v = .int .i64 (k : Int)
  | 8, v, _ => v = .pointer (some ⟨rb, ro + k, none⟩)
  | 9, v, _ => v = .int .i64 y
  | 10, v, _ => v = .int .i64 (nn * y)
  | 11, v, _ => v = .int .i64 (20 * x - nn * y)
  | 12, v, _ => v = .int .i64 (20 * x - nn * y)
  | _, _, _ => True
theorem lw13R_on (m k ab ao ac rb ro rc : Nat) (nn x y : Int) : ∀ i, i < 13 → ∀ v W W', lw13R m k ab ao ac rb ro rc nn x y i v W → Below W.heap.size W W' → lw13R m k ab ao ac rb ro rc nn x y i v W' := by
  iterate 13 (refine all_succ ?_ ?_)
  · exact all_zero
  · exact fun _ _ _ h _ => h
  · exact fun _ _ _ h _ => h
  · exact fun _ _ _ h _ => h
  · exact fun _ _ _ h _ => h
  · exact fun _ _ _ h _ => h
  · exact fun _ _ _ h _ => h
  · exact fun _ _ _ h _ => h
  · exact fun _ _ _ h _ => h
  · exact fun _ _ _ h _ => h
  · exact fun _ _ _ h _ => h
  · exact fun _ _ _ h _ => h
  · exact fun _ _ _ h _ => h
  · exact fun _ _ _ h _ => h
set_option maxRecDepth 100000 in
set_option maxHeartbeats 8000000 in
theorem lw13_region {S : World → Prop} (hon : ∀ W W', S W → Below W.heap.size W W' → S W') {m k ab ao ac rb ro rc : Nat} {nn x y : Int} (hkm : (k : Int) < m) (hw1 : IntKind.i64.wrap (20 * x) = 20 * x) (hw2 : IntKind.i64.wrap (nn * y) = nn * y) (hw3 : IntKind.i64.wrap (20 * x - nn * y) = 20 * x - nn * y) (hc : ∀ W, S W → W.cell? ⟨ab, ao + k, none⟩ = some (.int .i64 x) ∧ W.cell? ⟨rb, ro + k, none⟩ = some (.int .i64 y)) {Q : Exit → Act → World → Prop} {s0 s1 s2 s3 s4 s5 s6 s8 s9 s12 s13 s16 s17 s18 s19 s20 s21 s22 s23 s24 s25 s26 s27 s28 s29 s30 s31 s32 s33 s34 s35 s36 s37 s38 s39 s40 s41 s42 s43 s44 s45 s46 s47 s48 s49 s50 s51 s52 s53 s54 s55 s56 s57 s58 s59 s60 s61 s62 s63 s76 s77 s78 s79 s80 s81 s82 s83 s84 s85 s86 s87 s88 s89 s90 s91 s92 s93 s94 s95 s96 s97 s98 s99 s100 s15 s64 s65 s66 s67 s68 s69 s70 s71 s72 s73 s74 s75 : Value} {W0 : World} (HL : Hid (S W0))
    (HQ : Hid (∀ (u : Nat → Value) (W : World), S W → Q .normal ⟨#[s0, s1, s2, s3, s4, s5, s6, .int .i64 nn, s8, s9, .slice (some ⟨rb, ro, none⟩) m rc, .slice (some ⟨ab, ao, none⟩) m ac, s12, s13, .int .i64 (k : Int), .int .i64 (20 * x - nn * y), s16, s17, s18, s19, s20, s21, s22, s23, s24, s25, s26, s27, s28, s29, s30, s31, s32, s33, s34, s35, s36, s37, s38, s39, s40, s41, s42, s43, s44, s45, s46, s47, s48, s49, s50, s51, s52, s53, s54, s55, s56, s57, s58, s59, s60, s61, s62, s63, u 0, u 1, u 2, u 3, u 4, u 5, u 6, u 7, u 8, u 9, u 10, u 11, s76, s77, s78, s79, s80, s81, s82, s83, s84, s85, s86, s87, s88, s89, s90, s91, s92, s93, s94, s95, s96, s97, s98, s99, s100], []⟩ W)) :
    Code.wp Try.prog ((Try.f11.body.bind (regionAt 13)).getD .skip) Q ⟨#[s0, s1, s2, s3, s4, s5, s6, .int .i64 nn, s8, s9, .slice (some ⟨rb, ro, none⟩) m rc, .slice (some ⟨ab, ao, none⟩) m ac, s12, s13, .int .i64 (k : Int), s15, s16, s17, s18, s19, s20, s21, s22, s23, s24, s25, s26, s27, s28, s29, s30, s31, s32, s33, s34, s35, s36, s37, s38, s39, s40, s41, s42, s43, s44, s45, s46, s47, s48, s49, s50, s51, s52, s53, s54, s55, s56, s57, s58, s59, s60, s61, s62, s63, s64, s65, s66, s67, s68, s69, s70, s71, s72, s73, s74, s75, s76, s77, s78, s79, s80, s81, s82, s83, s84, s85, s86, s87, s88, s89, s90, s91, s92, s93, s94, s95, s96, s97, s98, s99, s100], []⟩ W0 := by
  conv => arg 2; whnf
  refine wp_region_spec (by kernel_rfl) 13 (by kernel_rfl) (fun u => ⟨#[s0, s1, s2, s3, s4, s5, s6, .int .i64 nn, s8, s9, .slice (some ⟨rb, ro, none⟩) m rc, .slice (some ⟨ab, ao, none⟩) m ac, s12, s13, .int .i64 (k : Int), u 12, s16, s17, s18, s19, s20, s21, s22, s23, s24, s25, s26, s27, s28, s29, s30, s31, s32, s33, s34, s35, s36, s37, s38, s39, s40, s41, s42, s43, s44, s45, s46, s47, s48, s49, s50, s51, s52, s53, s54, s55, s56, s57, s58, s59, s60, s61, s62, s63, u 0, u 1, u 2, u 3, u 4, u 5, u 6, u 7, u 8, u 9, u 10, u 11, s76, s77, s78, s79, s80, s81, s82, s83, s84, s85, s86, s87, s88, s89, s90, s91, s92, s93, s94, s95, s96, s97, s98, s99, s100], []⟩) (fun i => if i = 0 then s64 else if i = 1 then s65 else if i = 2 then s66 else if i = 3 then s67 else if i = 4 then s68 else if i = 5 then s69 else if i = 6 then s70 else if i = 7 then s71 else if i = 8 then s72 else if i = 9 then s73 else if i = 10 then s74 else if i = 11 then s75 else if i = 12 then s15 else undef) (fun W => Hid (S W)) (lw13R m k ab ao ac rb ro rc nn x y) (by kernel_rfl) (hon _ _ HL.out (Below.refl _ _).drew) (fun i v W W2 hi h hb => lw13R_on m k ab ao ac rb ro rc nn x y i hi v W W2 h hb) (by decide +kernel) ?_ ?_
  · iterate 13 (refine all_succ ?_ ?_)
    · exact all_zero
    · intro u W hB _ hd _ K hK
      have HK := Lib.hid hK; clear hK
      refine wpOp_of rfl (by rfl) ?_
      go_simp
      exact k_of (HK.out (.slice (some ⟨ab, ao, none⟩) m ac) _ rfl hB (Below.refl _ _)) (by kernel_rfl)
    · intro u W hB _ hd _ K hK
      have HK := Lib.hid hK; clear hK
      refine wpOp_of rfl (by rfl) ?_
      go_simp
      exact k_of (HK.out (.int .i64 (k : Int)) _ rfl hB (Below.refl _ _)) (by kernel_rfl)
    · intro u W hB _ hd _ K hK
      have HK := Lib.hid hK; clear hK
      have e0 : u 0 = .slice (some ⟨ab, ao, none⟩) m ac := hd 0 (by decide +kernel)
      have e1 : u 1 = .int .i64 (k : Int) := hd 1 (by decide +kernel)
      refine wpOp_of rfl (by rfl) ?_
      go_simp
      exact k_of (HK.out (.pointer (some ⟨ab, ao + k, none⟩)) _ rfl hB (Below.refl _ _)) (by rw [← u1_eq e0, ← u1_eq e1]; kernel_rfl)
    · intro u W hB _ hd _ K hK
      have HK := Lib.hid hK; clear hK
      have e2 : u 2 = .pointer (some ⟨ab, ao + k, none⟩) := hd 2 (by decide +kernel)
      refine wpOp_of rfl (by rfl) ?_
      have z0 := (hc W hB.out).1
      go_simp
      exact k_of (HK.out (.int .i64 x) _ rfl hB (Below.refl _ _)) (by rw [← u1_eq e2]; kernel_rfl)
    · intro u W hB _ hd _ K hK
      have HK := Lib.hid hK; clear hK
      have e3 : u 3 = .int .i64 x := hd 3 (by decide +kernel)
      refine wpOp_of rfl (by rfl) ?_
      have g1 := hw1
      go_simp
      exact k_of (HK.out (.int .i64 (20 * x)) _ rfl hB (Below.refl _ _)) (by rw [← u1_eq e3]; kernel_rfl)
    · intro u W hB _ hd _ K hK
      have HK := Lib.hid hK; clear hK
      refine wpOp_of rfl (by rfl) ?_
      go_simp
      exact k_of (HK.out (.int .i64 nn) _ rfl hB (Below.refl _ _)) (by kernel_rfl)
    · intro u W hB _ hd _ K hK
      have HK := Lib.hid hK; clear hK
      refine wpOp_of rfl (by rfl) ?_
      go_simp
      exact k_of (HK.out (.slice (some ⟨rb, ro, none⟩) m rc) _ rfl hB (Below.refl _ _)) (by kernel_rfl)
    · intro u W hB _ hd _ K hK
      have HK := Lib.hid hK; clear hK
      refine wpOp_of rfl (by rfl) ?_
      go_simp
      exact k_of (HK.out (.int .i64 (k : Int)) _ rfl hB (Below.refl _ _)) (by kernel_rfl)
    · intro u W hB _ hd _ K hK
      have HK := Lib.hid hK; clear hK
      have e6 : u 6 = .slice (some ⟨rb, ro, none⟩) m rc := hd 6 (by decide +kernel)
      have e7 : u 7 = .int .i64 (k : Int) := hd 7 (by decide +kernel)
      refine wpOp_of rfl (by rfl) ?_
      go_simp
      exact k_of (HK.out (.pointer (some ⟨rb, ro + k, none⟩)) _ rfl hB (Below.refl _ _)) (by rw [← u1_eq e6, ← u1_eq e7]; kernel_rfl)
    · intro u W hB _ hd _ K hK
      have HK := Lib.hid hK; clear hK
      have e8 : u 8 = .pointer (some ⟨rb, ro + k, none⟩) := hd 8 (by decide +kernel)
      refine wpOp_of rfl (by rfl) ?_
      have z0 := (hc W hB.out).2
      go_simp
      exact k_of (HK.out (.int .i64 y) _ rfl hB (Below.refl _ _)) (by rw [← u1_eq e8]; kernel_rfl)
    · intro u W hB _ hd _ K hK
      have HK := Lib.hid hK; clear hK
      have e5 : u 5 = .int .i64 nn := hd 5 (by decide +kernel)
      have e9 : u 9 = .int .i64 y := hd 9 (by decide +kernel)
      refine wpOp_of rfl (by rfl) ?_
      have g1 := hw2
      go_simp
      exact k_of (HK.out (.int .i64 (nn * y)) _ rfl hB (Below.refl _ _)) (by rw [← u1_eq e5, ← u1_eq e9]; kernel_rfl)
    · intro u W hB _ hd _ K hK
      have HK := Lib.hid hK; clear hK
      have e4 : u 4 = .int .i64 (20 * x) := hd 4 (by decide +kernel)
      have e10 : u 10 = .int .i64 (nn * y) := hd 10 (by decide +kernel)
      refine wpOp_of rfl (by rfl) ?_
      have g1 := hw3
      go_simp
      exact k_of (HK.out (.int .i64 (20 * x - nn * y)) _ rfl hB (Below.refl _ _)) (by rw [← u1_eq e4, ← u1_eq e10]; kernel_rfl)
    · intro u W hB _ hd _ K hK
      have HK := Lib.hid hK; clear hK
      have e11 : u 11 = .int .i64 (20 * x - nn * y) := hd 11 (by decide +kernel)
      refine wpOp_of rfl (by rfl) ?_
      go_simp
      exact k_of (HK.out (.int .i64 (20 * x - nn * y)) _ rfl hB (Below.refl _ _)) (by rw [← u1_eq e11]; kernel_rfl)
  · intro u W hB hd
    have e12 : u 12 = .int .i64 (20 * x - nn * y) := hd 12 (by decide)
    exact k_of (HQ.out u W hB.out) (by simp only [e12])
end Go.Proofs.Ytalghiecjhfflaa
