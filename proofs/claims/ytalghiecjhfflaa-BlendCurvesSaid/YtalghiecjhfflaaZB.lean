/- ref02.curve: its region that draws its order. -/
import Derived.Test.YtalghiecjhfflaaZA
namespace Go.Proofs.Ytalghiecjhfflaa
open Go.RowKit Go.Shelf Go.Maps
attribute [local go_sem] Oper.semAt_some


def cvE (l : List Pt) : Int := if 6 < l.length then 3 else curveE (-1) l
theorem curveE_nil {bef : Int} : curveE bef [] = 0 := rfl

/-- What each operation leaves. -/
def rc0R (_n _c : Nat) (_A : Option Addr) : Nat → Value → World → Prop
  | 0, v, _ => v = .int .i64 0
  | 1, v, _ => v = .bool false
  | 2, v, _ => v = .bool false
  | 3, v, _ => v = undef
  | 4, v, _ => v = undef
  | 5, v, _ => v = undef
  | 6, v, _ => v = undef
  | 7, v, _ => v = undef
  | 8, v, _ => v = undef
  | 9, v, _ => v = undef
  | 10, v, _ => v = undef
  | 11, v, _ => v = undef
  | 12, v, _ => v = undef
  | 13, v, _ => v = undef
  | 14, v, _ => v = undef
  | 15, v, _ => v = .bool false
  | _, _, _ => True
theorem rc0R_on (n c : Nat) (A : Option Addr) : ∀ i, i < 16 → ∀ v W W', rc0R n c A i v W → Below W.heap.size W W' → rc0R n c A i v W' := by
  iterate 16 (refine all_succ ?_ ?_)
  · exact all_zero
  · exact fun _ _ _ h _ => h
  · exact fun _ _ _ h _ => h
  · exact fun _ _ _ h _ => h
  · exact fun _ _ _ h _ => h
  · exact fun _ _ _ h _ => h
  · exact fun _ _ _ h _ => h
  · exact fun _ _ _ h _ => h
  · exact fun _ _ _ h _ => h
  · exact fun _ _ _ h _ => h
  · exact fun _ _ _ h _ => h
  · exact fun _ _ _ h _ => h
  · exact fun _ _ _ h _ => h
  · exact fun _ _ _ h _ => h
  · exact fun _ _ _ h _ => h
  · exact fun _ _ _ h _ => h
  · exact fun _ _ _ h _ => h
set_option maxRecDepth 100000 in
set_option maxHeartbeats 8000000 in
theorem rc0_region {S : World → Prop} (hon : ∀ W W', S W → Below W.heap.size W W' → S W') {n c : Nat} {A : Option Addr} {Q : Exit → Act → World → Prop} {s1 s2 s4 s5 s6 s7 s8 s9 s10 s11 s12 s13 s14 s15 s16 s17 s18 s19 s20 s21 s22 s23 s24 s25 s26 s27 s28 s29 s30 s31 s32 s33 s34 s35 s36 s37 s38 s39 s40 s41 s42 s43 s44 : Value} {W0 : World} (HL : Hid (S W0))
    (HQ : Hid (∀ (u : Nat → Value) (W : World), S W → Q .normal ⟨#[.slice A n c, s1, s2, .int .i64 0, s4, s5, s6, s7, s8, s9, s10, s11, s12, s13, s14, s15, s16, s17, s18, s19, s20, s21, s22, s23, s24, s25, s26, s27, s28, u 0, u 1, u 2, u 3, u 4, u 5, u 6, u 7, u 8, u 9, u 10, u 11, u 12, u 13, u 14, .bool false], []⟩ W)) :
    Code.wp Try.prog ((Try.f53.body.bind (regionAt 8)).getD .skip) Q ⟨#[.slice A n c, s1, s2, .int .i64 0, s4, s5, s6, s7, s8, s9, s10, s11, s12, s13, s14, s15, s16, s17, s18, s19, s20, s21, s22, s23, s24, s25, s26, s27, s28, s29, s30, s31, s32, s33, s34, s35, s36, s37, s38, s39, s40, s41, s42, s43, s44], []⟩ W0 := by
  conv => arg 2; whnf
  refine wp_region_spec (by kernel_rfl) 16 (by kernel_rfl) (fun u => ⟨#[.slice A n c, s1, s2, .int .i64 0, s4, s5, s6, s7, s8, s9, s10, s11, s12, s13, s14, s15, s16, s17, s18, s19, s20, s21, s22, s23, s24, s25, s26, s27, s28, u 0, u 1, u 2, u 3, u 4, u 5, u 6, u 7, u 8, u 9, u 10, u 11, u 12, u 13, u 14, u 15], []⟩) (fun i => if i = 0 then s29 else if i = 1 then s30 else if i = 2 then s31 else if i = 3 then s32 else if i = 4 then s33 else if i = 5 then s34 else if i = 6 then s35 else if i = 7 then s36 else if i = 8 then s37 else if i = 9 then s38 else if i = 10 then s39 else if i = 11 then s40 else if i = 12 then s41 else if i = 13 then s42 else if i = 14 then s43 else if i = 15 then s44 else undef) (fun W => Hid (S W)) (rc0R n c A) (by kernel_rfl) (hon _ _ HL.out (Below.refl _ _).drew) (fun i v W W2 hi h hb => rc0R_on n c A i hi v W W2 h hb) (by decide +kernel) ?_ ?_
  · iterate 16 (refine all_succ ?_ ?_)
    · exact all_zero
    · intro u W hB _ hd _ K hK
      have HK := Lib.hid hK; clear hK
      refine wpOp_of rfl (by rfl) ?_
      go_simp
      exact k_of (HK.out (.int .i64 0) _ rfl hB (Below.refl _ _)) (by kernel_rfl)
    · intro u W hB _ hd _ K hK
      have HK := Lib.hid hK; clear hK
      have e0 : u 0 = .int .i64 0 := hd 0 (by decide +kernel)
      refine wpOp_of rfl (by rfl) ?_
      go_simp
      exact k_of (HK.out (.bool false) _ rfl hB (Below.refl _ _)) (by rw [← u1_eq e0]; kernel_rfl)
    · intro u W hB _ hd _ K hK
      have HK := Lib.hid hK; clear hK
      have e1 : u 1 = .bool false := hd 1 (by decide +kernel)
      refine wpOp_of rfl (by rfl) ?_
      go_simp
      exact k_of (HK.out (.bool false) _ rfl hB (Below.refl _ _)) (by rw [← u1_eq e1]; kernel_rfl)
    · intro u W hB _ hd _ K hK
      have HK := Lib.hid hK; clear hK
      have e2 : u 2 = .bool false := hd 2 (by decide +kernel)
      refine wpOp_skip rfl (by rw [← u1_eq e2]; kernel_rfl) ?_
      exact k_of (HK.out undef _ rfl hB (Below.refl _ _)) (by rw [← u1_eq e2]; kernel_rfl)
    · intro u W hB _ hd _ K hK
      have HK := Lib.hid hK; clear hK
      have e2 : u 2 = .bool false := hd 2 (by decide +kernel)
      refine wpOp_skip rfl (by rw [← u1_eq e2]; kernel_rfl) ?_
      exact k_of (HK.out undef _ rfl hB (Below.refl _ _)) (by rw [← u1_eq e2]; kernel_rfl)
    · intro u W hB _ hd _ K hK
      have HK := Lib.hid hK; clear hK
      have e2 : u 2 = .bool false := hd 2 (by decide +kernel)
      refine wpOp_skip rfl (by rw [← u1_eq e2]; kernel_rfl) ?_
      exact k_of (HK.out undef _ rfl hB (Below.refl _ _)) (by rw [← u1_eq e2]; kernel_rfl)
    · intro u W hB _ hd _ K hK
      have HK := Lib.hid hK; clear hK
      have e2 : u 2 = .bool false := hd 2 (by decide +kernel)
      refine wpOp_skip rfl (by rw [← u1_eq e2]; kernel_rfl) ?_
      exact k_of (HK.out undef _ rfl hB (Below.refl _ _)) (by rw [← u1_eq e2]; kernel_rfl)
    · intro u W hB _ hd _ K hK
      have HK := Lib.hid hK; clear hK
      have e2 : u 2 = .bool false := hd 2 (by decide +kernel)
      refine wpOp_skip rfl (by rw [← u1_eq e2]; kernel_rfl) ?_
      exact k_of (HK.out undef _ rfl hB (Below.refl _ _)) (by rw [← u1_eq e2]; kernel_rfl)
    · intro u W hB _ hd _ K hK
      have HK := Lib.hid hK; clear hK
      have e2 : u 2 = .bool false := hd 2 (by decide +kernel)
      refine wpOp_skip rfl (by rw [← u1_eq e2]; kernel_rfl) ?_
      exact k_of (HK.out undef _ rfl hB (Below.refl _ _)) (by rw [← u1_eq e2]; kernel_rfl)
    · intro u W hB _ hd _ K hK
      have HK := Lib.hid hK; clear hK
      have e2 : u 2 = .bool false := hd 2 (by decide +kernel)
      refine wpOp_skip rfl (by rw [← u1_eq e2]; kernel_rfl) ?_
      exact k_of (HK.out undef _ rfl hB (Below.refl _ _)) (by rw [← u1_eq e2]; kernel_rfl)
    · intro u W hB _ hd _ K hK
      have HK := Lib.hid hK; clear hK
      have e2 : u 2 = .bool false := hd 2 (by decide +kernel)
      refine wpOp_skip rfl (by rw [← u1_eq e2]; kernel_rfl) ?_
      exact k_of (HK.out undef _ rfl hB (Below.refl _ _)) (by rw [← u1_eq e2]; kernel_rfl)
    · intro u W hB _ hd _ K hK
      have HK := Lib.hid hK; clear hK
      have e2 : u 2 = .bool false := hd 2 (by decide +kernel)
      refine wpOp_skip rfl (by rw [← u1_eq e2]; kernel_rfl) ?_
      exact k_of (HK.out undef _ rfl hB (Below.refl _ _)) (by rw [← u1_eq e2]; kernel_rfl)
    · intro u W hB _ hd _ K hK
      have HK := Lib.hid hK; clear hK
      have e2 : u 2 = .bool false := hd 2 (by decide +kernel)
      refine wpOp_skip rfl (by rw [← u1_eq e2]; kernel_rfl) ?_
      exact k_of (HK.out undef _ rfl hB (Below.refl _ _)) (by rw [← u1_eq e2]; kernel_rfl)
    · intro u W hB _ hd _ K hK
      have HK := Lib.hid hK; clear hK
      have e2 : u 2 = .bool false := hd 2 (by decide +kernel)
      refine wpOp_skip rfl (by rw [← u1_eq e2]; kernel_rfl) ?_
      exact k_of (HK.out undef _ rfl hB (Below.refl _ _)) (by rw [← u1_eq e2]; kernel_rfl)
    · intro u W hB _ hd _ K hK
      have HK := Lib.hid hK; clear hK
      have e2 : u 2 = .bool false := hd 2 (by decide +kernel)
      refine wpOp_skip rfl (by rw [← u1_eq e2]; kernel_rfl) ?_
      exact k_of (HK.out undef _ rfl hB (Below.refl _ _)) (by rw [← u1_eq e2]; kernel_rfl)
    · intro u W hB _ hd _ K hK
      have HK := Lib.hid hK; clear hK
      have e2 : u 2 = .bool false := hd 2 (by decide +kernel)
      have e14 : u 14 = undef := hd 14 (by decide +kernel)
      refine wpOp_of rfl (by rfl) ?_
      go_simp
      exact k_of (HK.out (.bool false) _ rfl hB (Below.refl _ _)) (by rw [← u1_eq e2, ← u1_eq e14]; kernel_rfl)
  · intro u W hB hd
    have e15 : u 15 = .bool false := hd 15 (by decide)
    exact k_of (HQ.out u W hB.out) (by simp only [e15])

/-- What each operation leaves. -/
def rcfR (n c k jj b o : Nat) (p q : Int) : Nat → Value → World → Prop
  | 0, v, _ => v = .int .i64 (k : Int)
  | 1, v, _ => v = .bool true
  | 2, v, _ => v = .bool true
  | 3, v, _ => v = .slice (some ⟨b, o, none⟩) n c
  | 4, v, _ => v = .int .i64 (k : Int)
  | 5, v, _ => v = .pointer (some ⟨b, o + k * 2, none⟩)
  | 6, v, _ => v = .pointer (some ⟨b, o + k * 2, none⟩)
  | 7, v, _ => v = .int .i64 p
  | 8, v, _ => v = .slice (some ⟨b, o, none⟩) n c
  | 9, v, _ => v = .int .i64 (k : Int)
  | 10, v, _ => v = .int .i64 (jj : Int)
  | 11, v, _ => v = .pointer (some ⟨b, o + jj * 2, none⟩)
  | 12, v, _ => v = .pointer (some ⟨b, o + jj * 2, none⟩)
  | 13, v, _ => v = .int .i64 q
  | 14, v, _ => v = .bool false
  | 15, v, _ => v = .bool false
  | _, _, _ => True
theorem rcfR_on (n c k jj b o : Nat) (p q : Int) : ∀ i, i < 16 → ∀ v W W', rcfR n c k jj b o p q i v W → Below W.heap.size W W' → rcfR n c k jj b o p q i v W' := by
  iterate 16 (refine all_succ ?_ ?_)
  · exact all_zero
  · exact fun _ _ _ h _ => h
  · exact fun _ _ _ h _ => h
  · exact fun _ _ _ h _ => h
  · exact fun _ _ _ h _ => h
  · exact fun _ _ _ h _ => h
  · exact fun _ _ _ h _ => h
  · exact fun _ _ _ h _ => h
  · exact fun _ _ _ h _ => h
  · exact fun _ _ _ h _ => h
  · exact fun _ _ _ h _ => h
  · exact fun _ _ _ h _ => h
  · exact fun _ _ _ h _ => h
  · exact fun _ _ _ h _ => h
  · exact fun _ _ _ h _ => h
  · exact fun _ _ _ h _ => h
  · exact fun _ _ _ h _ => h
set_option maxRecDepth 100000 in
set_option maxHeartbeats 8000000 in
theorem rcf_region {S : World → Prop} (hon : ∀ W W', S W → Below W.heap.size W W' → S W') {n c k jj b o : Nat} {p q : Int} (hz : 0 < k) (hkm : (k : Int) < n) (hjm : (jj : Int) < n) (hsub : IntKind.i64.wrap ((k : Int) - 1) = (jj : Int)) (hxy : decide (p ≤ q) = false) (hc : ∀ W, S W → W.cell? ⟨b, o + k * 2, none⟩ = some (.int .i64 p) ∧ W.cell? ⟨b, o + jj * 2, none⟩ = some (.int .i64 q)) {Q : Exit → Act → World → Prop} {s1 s2 s4 s5 s6 s7 s8 s9 s10 s11 s12 s13 s14 s15 s16 s17 s18 s19 s20 s21 s22 s23 s24 s25 s26 s27 s28 s29 s30 s31 s32 s33 s34 s35 s36 s37 s38 s39 s40 s41 s42 s43 s44 : Value} {W0 : World} (HL : Hid (S W0))
    (HQ : Hid (∀ (u : Nat → Value) (W : World), S W → Q .normal ⟨#[.slice (some ⟨b, o, none⟩) n c, s1, s2, .int .i64 (k : Int), s4, s5, s6, s7, s8, s9, s10, s11, s12, s13, s14, s15, s16, s17, s18, s19, s20, s21, s22, s23, s24, s25, s26, s27, s28, u 0, u 1, u 2, u 3, u 4, u 5, u 6, u 7, u 8, u 9, u 10, u 11, u 12, u 13, u 14, .bool false], []⟩ W)) :
    Code.wp Try.prog ((Try.f53.body.bind (regionAt 8)).getD .skip) Q ⟨#[.slice (some ⟨b, o, none⟩) n c, s1, s2, .int .i64 (k : Int), s4, s5, s6, s7, s8, s9, s10, s11, s12, s13, s14, s15, s16, s17, s18, s19, s20, s21, s22, s23, s24, s25, s26, s27, s28, s29, s30, s31, s32, s33, s34, s35, s36, s37, s38, s39, s40, s41, s42, s43, s44], []⟩ W0 := by
  conv => arg 2; whnf
  refine wp_region_spec (by kernel_rfl) 16 (by kernel_rfl) (fun u => ⟨#[.slice (some ⟨b, o, none⟩) n c, s1, s2, .int .i64 (k : Int), s4, s5, s6, s7, s8, s9, s10, s11, s12, s13, s14, s15, s16, s17, s18, s19, s20, s21, s22, s23, s24, s25, s26, s27, s28, u 0, u 1, u 2, u 3, u 4, u 5, u 6, u 7, u 8, u 9, u 10, u 11, u 12, u 13, u 14, u 15], []⟩) (fun i => if i = 0 then s29 else if i = 1 then s30 else if i = 2 then s31 else if i = 3 then s32 else if i = 4 then s33 else if i = 5 then s34 else if i = 6 then s35 else if i = 7 then s36 else if i = 8 then s37 else if i = 9 then s38 else if i = 10 then s39 else if i = 11 then s40 else if i = 12 then s41 else if i = 13 then s42 else if i = 14 then s43 else if i = 15 then s44 else undef) (fun W => Hid (S W)) (rcfR n c k jj b o p q) (by kernel_rfl) (hon _ _ HL.out (Below.refl _ _).drew) (fun i v W W2 hi h hb => rcfR_on n c k jj b o p q i hi v W W2 h hb) (by decide +kernel) ?_ ?_
  · iterate 16 (refine all_succ ?_ ?_)
    · exact all_zero
    · intro u W hB _ hd _ K hK
      have HK := Lib.hid hK; clear hK
      refine wpOp_of rfl (by rfl) ?_
      go_simp
      exact k_of (HK.out (.int .i64 (k : Int)) _ rfl hB (Below.refl _ _)) (by kernel_rfl)
    · intro u W hB _ hd _ K hK
      have HK := Lib.hid hK; clear hK
      have e0 : u 0 = .int .i64 (k : Int) := hd 0 (by decide +kernel)
      refine wpOp_of rfl (by rfl) ?_
      go_simp
      exact k_of (HK.out (.bool true) _ rfl hB (Below.refl _ _)) (by rw [← u1_eq e0]; kernel_rfl)
    · intro u W hB _ hd _ K hK
      have HK := Lib.hid hK; clear hK
      have e1 : u 1 = .bool true := hd 1 (by decide +kernel)
      refine wpOp_of rfl (by rfl) ?_
      go_simp
      exact k_of (HK.out (.bool true) _ rfl hB (Below.refl _ _)) (by rw [← u1_eq e1]; kernel_rfl)
    · intro u W hB _ hd _ K hK
      have HK := Lib.hid hK; clear hK
      have e2 : u 2 = .bool true := hd 2 (by decide +kernel)
      refine wpOp_of rfl (by rw [← u1_eq e2]; kernel_rfl) ?_
      go_simp
      exact k_of (HK.out (.slice (some ⟨b, o, none⟩) n c) _ rfl hB (Below.refl _ _)) (by rw [← u1_eq e2]; kernel_rfl)
    · intro u W hB _ hd _ K hK
      have HK := Lib.hid hK; clear hK
      have e2 : u 2 = .bool true := hd 2 (by decide +kernel)
      refine wpOp_of rfl (by rw [← u1_eq e2]; kernel_rfl) ?_
      go_simp
      exact k_of (HK.out (.int .i64 (k : Int)) _ rfl hB (Below.refl _ _)) (by rw [← u1_eq e2]; kernel_rfl)
    · intro u W hB _ hd _ K hK
      have HK := Lib.hid hK; clear hK
      have e2 : u 2 = .bool true := hd 2 (by decide +kernel)
      have e3 : u 3 = .slice (some ⟨b, o, none⟩) n c := hd 3 (by decide +kernel)
      have e4 : u 4 = .int .i64 (k : Int) := hd 4 (by decide +kernel)
      refine wpOp_of rfl (by rw [← u1_eq e2]; kernel_rfl) ?_
      go_simp
      exact k_of (HK.out (.pointer (some ⟨b, o + k * 2, none⟩)) _ rfl hB (Below.refl _ _)) (by rw [← u1_eq e2, ← u1_eq e3, ← u1_eq e4]; kernel_rfl)
    · intro u W hB _ hd _ K hK
      have HK := Lib.hid hK; clear hK
      have e2 : u 2 = .bool true := hd 2 (by decide +kernel)
      have e5 : u 5 = .pointer (some ⟨b, o + k * 2, none⟩) := hd 5 (by decide +kernel)
      refine wpOp_of rfl (by rw [← u1_eq e2]; kernel_rfl) ?_
      go_simp
      exact k_of (HK.out (.pointer (some ⟨b, o + k * 2, none⟩)) _ rfl hB (Below.refl _ _)) (by rw [← u1_eq e2, ← u1_eq e5]; kernel_rfl)
    · intro u W hB _ hd _ K hK
      have HK := Lib.hid hK; clear hK
      have e2 : u 2 = .bool true := hd 2 (by decide +kernel)
      have e6 : u 6 = .pointer (some ⟨b, o + k * 2, none⟩) := hd 6 (by decide +kernel)
      refine wpOp_of rfl (by rw [← u1_eq e2]; kernel_rfl) ?_
      have g1 := (hc W hB.out).1
      go_simp
      exact k_of (HK.out (.int .i64 p) _ rfl hB (Below.refl _ _)) (by rw [← u1_eq e2, ← u1_eq e6]; kernel_rfl)
    · intro u W hB _ hd _ K hK
      have HK := Lib.hid hK; clear hK
      have e2 : u 2 = .bool true := hd 2 (by decide +kernel)
      refine wpOp_of rfl (by rw [← u1_eq e2]; kernel_rfl) ?_
      go_simp
      exact k_of (HK.out (.slice (some ⟨b, o, none⟩) n c) _ rfl hB (Below.refl _ _)) (by rw [← u1_eq e2]; kernel_rfl)
    · intro u W hB _ hd _ K hK
      have HK := Lib.hid hK; clear hK
      have e2 : u 2 = .bool true := hd 2 (by decide +kernel)
      refine wpOp_of rfl (by rw [← u1_eq e2]; kernel_rfl) ?_
      go_simp
      exact k_of (HK.out (.int .i64 (k : Int)) _ rfl hB (Below.refl _ _)) (by rw [← u1_eq e2]; kernel_rfl)
    · intro u W hB _ hd _ K hK
      have HK := Lib.hid hK; clear hK
      have e2 : u 2 = .bool true := hd 2 (by decide +kernel)
      have e9 : u 9 = .int .i64 (k : Int) := hd 9 (by decide +kernel)
      refine wpOp_of rfl (by rw [← u1_eq e2]; kernel_rfl) ?_
      go_simp
      exact k_of (HK.out (.int .i64 (jj : Int)) _ rfl hB (Below.refl _ _)) (by rw [← u1_eq e2, ← u1_eq e9]; kernel_rfl)
    · intro u W hB _ hd _ K hK
      have HK := Lib.hid hK; clear hK
      have e2 : u 2 = .bool true := hd 2 (by decide +kernel)
      have e8 : u 8 = .slice (some ⟨b, o, none⟩) n c := hd 8 (by decide +kernel)
      have e10 : u 10 = .int .i64 (jj : Int) := hd 10 (by decide +kernel)
      refine wpOp_of rfl (by rw [← u1_eq e2]; kernel_rfl) ?_
      go_simp
      exact k_of (HK.out (.pointer (some ⟨b, o + jj * 2, none⟩)) _ rfl hB (Below.refl _ _)) (by rw [← u1_eq e2, ← u1_eq e8, ← u1_eq e10]; kernel_rfl)
    · intro u W hB _ hd _ K hK
      have HK := Lib.hid hK; clear hK
      have e2 : u 2 = .bool true := hd 2 (by decide +kernel)
      have e11 : u 11 = .pointer (some ⟨b, o + jj * 2, none⟩) := hd 11 (by decide +kernel)
      refine wpOp_of rfl (by rw [← u1_eq e2]; kernel_rfl) ?_
      go_simp
      exact k_of (HK.out (.pointer (some ⟨b, o + jj * 2, none⟩)) _ rfl hB (Below.refl _ _)) (by rw [← u1_eq e2, ← u1_eq e11]; kernel_rfl)
    · intro u W hB _ hd _ K hK
      have HK := Lib.hid hK; clear hK
      have e2 : u 2 = .bool true := hd 2 (by decide +kernel)
      have e12 : u 12 = .pointer (some ⟨b, o + jj * 2, none⟩) := hd 12 (by decide +kernel)
      refine wpOp_of rfl (by rw [← u1_eq e2]; kernel_rfl) ?_
      have g3 := (hc W hB.out).2
      go_simp
      exact k_of (HK.out (.int .i64 q) _ rfl hB (Below.refl _ _)) (by rw [← u1_eq e2, ← u1_eq e12]; kernel_rfl)
    · intro u W hB _ hd _ K hK
      have HK := Lib.hid hK; clear hK
      have e2 : u 2 = .bool true := hd 2 (by decide +kernel)
      have e7 : u 7 = .int .i64 p := hd 7 (by decide +kernel)
      have e13 : u 13 = .int .i64 q := hd 13 (by decide +kernel)
      refine wpOp_of rfl (by rw [← u1_eq e2]; kernel_rfl) ?_
      go_simp
      exact k_of (HK.out (.bool false) _ rfl hB (Below.refl _ _)) (by rw [← u1_eq e2, ← u1_eq e7, ← u1_eq e13]; kernel_rfl)
    · intro u W hB _ hd _ K hK
      have HK := Lib.hid hK; clear hK
      have e2 : u 2 = .bool true := hd 2 (by decide +kernel)
      have e14 : u 14 = .bool false := hd 14 (by decide +kernel)
      refine wpOp_of rfl (by rfl) ?_
      go_simp
      exact k_of (HK.out (.bool false) _ rfl hB (Below.refl _ _)) (by rw [← u1_eq e2, ← u1_eq e14]; kernel_rfl)
  · intro u W hB hd
    have e15 : u 15 = .bool false := hd 15 (by decide)
    exact k_of (HQ.out u W hB.out) (by simp only [e15])

/-- What each operation leaves. -/
def rctR (n c k jj b o : Nat) (p q : Int) : Nat → Value → World → Prop
  | 0, v, _ => v = .int .i64 (k : Int)
  | 1, v, _ => v = .bool true
  | 2, v, _ => v = .bool true
  | 3, v, _ => v = .slice (some ⟨b, o, none⟩) n c
  | 4, v, _ => v = .int .i64 (k : Int)
  | 5, v, _ => v = .pointer (some ⟨b, o + k * 2, none⟩)
  | 6, v, _ => v = .pointer (some ⟨b, o + k * 2, none⟩)
  | 7, v, _ => v = .int .i64 p
  | 8, v, _ => v = .slice (some ⟨b, o, none⟩) n c
  | 9, v, _ => v = .int .i64 (k : Int)
  | 10, v, _ => v = .int .i64 (jj : Int)
  | 11, v, _ => v = .pointer (some ⟨b, o + jj * 2, none⟩)
  | 12, v, _ => v = .pointer (some ⟨b, o + jj * 2, none⟩)
  | 13, v, _ => v = .int .i64 q
  | 14, v, _ => v = .bool true
  | 15, v, _ => v = .bool true
  | _, _, _ => True
theorem rctR_on (n c k jj b o : Nat) (p q : Int) : ∀ i, i < 16 → ∀ v W W', rctR n c k jj b o p q i v W → Below W.heap.size W W' → rctR n c k jj b o p q i v W' := by
  iterate 16 (refine all_succ ?_ ?_)
  · exact all_zero
  · exact fun _ _ _ h _ => h
  · exact fun _ _ _ h _ => h
  · exact fun _ _ _ h _ => h
  · exact fun _ _ _ h _ => h
  · exact fun _ _ _ h _ => h
  · exact fun _ _ _ h _ => h
  · exact fun _ _ _ h _ => h
  · exact fun _ _ _ h _ => h
  · exact fun _ _ _ h _ => h
  · exact fun _ _ _ h _ => h
  · exact fun _ _ _ h _ => h
  · exact fun _ _ _ h _ => h
  · exact fun _ _ _ h _ => h
  · exact fun _ _ _ h _ => h
  · exact fun _ _ _ h _ => h
  · exact fun _ _ _ h _ => h
set_option maxRecDepth 100000 in
set_option maxHeartbeats 8000000 in
theorem rct_region {S : World → Prop} (hon : ∀ W W', S W → Below W.heap.size W W' → S W') {n c k jj b o : Nat} {p q : Int} (hz : 0 < k) (hkm : (k : Int) < n) (hjm : (jj : Int) < n) (hsub : IntKind.i64.wrap ((k : Int) - 1) = (jj : Int)) (hxy : decide (p ≤ q) = true) (hc : ∀ W, S W → W.cell? ⟨b, o + k * 2, none⟩ = some (.int .i64 p) ∧ W.cell? ⟨b, o + jj * 2, none⟩ = some (.int .i64 q)) {Q : Exit → Act → World → Prop} {s1 s2 s4 s5 s6 s7 s8 s9 s10 s11 s12 s13 s14 s15 s16 s17 s18 s19 s20 s21 s22 s23 s24 s25 s26 s27 s28 s29 s30 s31 s32 s33 s34 s35 s36 s37 s38 s39 s40 s41 s42 s43 s44 : Value} {W0 : World} (HL : Hid (S W0))
    (HQ : Hid (∀ (u : Nat → Value) (W : World), S W → Q .normal ⟨#[.slice (some ⟨b, o, none⟩) n c, s1, s2, .int .i64 (k : Int), s4, s5, s6, s7, s8, s9, s10, s11, s12, s13, s14, s15, s16, s17, s18, s19, s20, s21, s22, s23, s24, s25, s26, s27, s28, u 0, u 1, u 2, u 3, u 4, u 5, u 6, u 7, u 8, u 9, u 10, u 11, u 12, u 13, u 14, .bool true], []⟩ W)) :
    Code.wp Try.prog ((Try.f53.body.bind (regionAt 8)).getD .skip) Q ⟨#[.slice (some ⟨b, o, none⟩) n c, s1, s2, .int .i64 (k : Int), s4, s5, s6, s7, s8, s9, s10, s11, s12, s13, s14, s15, s16, s17, s18, s19, s20, s21, s22, s23, s24, s25, s26, s27, s28, s29, s30, s31, s32, s33, s34, s35, s36, s37, s38, s39, s40, s41, s42, s43, s44], []⟩ W0 := by
  conv => arg 2; whnf
  refine wp_region_spec (by kernel_rfl) 16 (by kernel_rfl) (fun u => ⟨#[.slice (some ⟨b, o, none⟩) n c, s1, s2, .int .i64 (k : Int), s4, s5, s6, s7, s8, s9, s10, s11, s12, s13, s14, s15, s16, s17, s18, s19, s20, s21, s22, s23, s24, s25, s26, s27, s28, u 0, u 1, u 2, u 3, u 4, u 5, u 6, u 7, u 8, u 9, u 10, u 11, u 12, u 13, u 14, u 15], []⟩) (fun i => if i = 0 then s29 else if i = 1 then s30 else if i = 2 then s31 else if i = 3 then s32 else if i = 4 then s33 else if i = 5 then s34 else if i = 6 then s35 else if i = 7 then s36 else if i = 8 then s37 else if i = 9 then s38 else if i = 10 then s39 else if i = 11 then s40 else if i = 12 then s41 else if i = 13 then s42 else if i = 14 then s43 else if i = 15 then s44 else undef) (fun W => Hid (S W)) (rctR n c k jj b o p q) (by kernel_rfl) (hon _ _ HL.out (Below.refl _ _).drew) (fun i v W W2 hi h hb => rctR_on n c k jj b o p q i hi v W W2 h hb) (by decide +kernel) ?_ ?_
  · iterate 16 (refine all_succ ?_ ?_)
    · exact all_zero
    · intro u W hB _ hd _ K hK
      have HK := Lib.hid hK; clear hK
      refine wpOp_of rfl (by rfl) ?_
      go_simp
      exact k_of (HK.out (.int .i64 (k : Int)) _ rfl hB (Below.refl _ _)) (by kernel_rfl)
    · intro u W hB _ hd _ K hK
      have HK := Lib.hid hK; clear hK
      have e0 : u 0 = .int .i64 (k : Int) := hd 0 (by decide +kernel)
      refine wpOp_of rfl (by rfl) ?_
      go_simp
      exact k_of (HK.out (.bool true) _ rfl hB (Below.refl _ _)) (by rw [← u1_eq e0]; kernel_rfl)
    · intro u W hB _ hd _ K hK
      have HK := Lib.hid hK; clear hK
      have e1 : u 1 = .bool true := hd 1 (by decide +kernel)
      refine wpOp_of rfl (by rfl) ?_
      go_simp
      exact k_of (HK.out (.bool true) _ rfl hB (Below.refl _ _)) (by rw [← u1_eq e1]; kernel_rfl)
    · intro u W hB _ hd _ K hK
      have HK := Lib.hid hK; clear hK
      have e2 : u 2 = .bool true := hd 2 (by decide +kernel)
      refine wpOp_of rfl (by rw [← u1_eq e2]; kernel_rfl) ?_
      go_simp
      exact k_of (HK.out (.slice (some ⟨b, o, none⟩) n c) _ rfl hB (Below.refl _ _)) (by rw [← u1_eq e2]; kernel_rfl)
    · intro u W hB _ hd _ K hK
      have HK := Lib.hid hK; clear hK
      have e2 : u 2 = .bool true := hd 2 (by decide +kernel)
      refine wpOp_of rfl (by rw [← u1_eq e2]; kernel_rfl) ?_
      go_simp
      exact k_of (HK.out (.int .i64 (k : Int)) _ rfl hB (Below.refl _ _)) (by rw [← u1_eq e2]; kernel_rfl)
    · intro u W hB _ hd _ K hK
      have HK := Lib.hid hK; clear hK
      have e2 : u 2 = .bool true := hd 2 (by decide +kernel)
      have e3 : u 3 = .slice (some ⟨b, o, none⟩) n c := hd 3 (by decide +kernel)
      have e4 : u 4 = .int .i64 (k : Int) := hd 4 (by decide +kernel)
      refine wpOp_of rfl (by rw [← u1_eq e2]; kernel_rfl) ?_
      go_simp
      exact k_of (HK.out (.pointer (some ⟨b, o + k * 2, none⟩)) _ rfl hB (Below.refl _ _)) (by rw [← u1_eq e2, ← u1_eq e3, ← u1_eq e4]; kernel_rfl)
    · intro u W hB _ hd _ K hK
      have HK := Lib.hid hK; clear hK
      have e2 : u 2 = .bool true := hd 2 (by decide +kernel)
      have e5 : u 5 = .pointer (some ⟨b, o + k * 2, none⟩) := hd 5 (by decide +kernel)
      refine wpOp_of rfl (by rw [← u1_eq e2]; kernel_rfl) ?_
      go_simp
      exact k_of (HK.out (.pointer (some ⟨b, o + k * 2, none⟩)) _ rfl hB (Below.refl _ _)) (by rw [← u1_eq e2, ← u1_eq e5]; kernel_rfl)
    · intro u W hB _ hd _ K hK
      have HK := Lib.hid hK; clear hK
      have e2 : u 2 = .bool true := hd 2 (by decide +kernel)
      have e6 : u 6 = .pointer (some ⟨b, o + k * 2, none⟩) := hd 6 (by decide +kernel)
      refine wpOp_of rfl (by rw [← u1_eq e2]; kernel_rfl) ?_
      have g1 := (hc W hB.out).1
      go_simp
      exact k_of (HK.out (.int .i64 p) _ rfl hB (Below.refl _ _)) (by rw [← u1_eq e2, ← u1_eq e6]; kernel_rfl)
    · intro u W hB _ hd _ K hK
      have HK := Lib.hid hK; clear hK
      have e2 : u 2 = .bool true := hd 2 (by decide +kernel)
      refine wpOp_of rfl (by rw [← u1_eq e2]; kernel_rfl) ?_
      go_simp
      exact k_of (HK.out (.slice (some ⟨b, o, none⟩) n c) _ rfl hB (Below.refl _ _)) (by rw [← u1_eq e2]; kernel_rfl)
    · intro u W hB _ hd _ K hK
      have HK := Lib.hid hK; clear hK
      have e2 : u 2 = .bool true := hd 2 (by decide +kernel)
      refine wpOp_of rfl (by rw [← u1_eq e2]; kernel_rfl) ?_
      go_simp
      exact k_of (HK.out (.int .i64 (k : Int)) _ rfl hB (Below.refl _ _)) (by rw [← u1_eq e2]; kernel_rfl)
    · intro u W hB _ hd _ K hK
      have HK := Lib.hid hK; clear hK
      have e2 : u 2 = .bool true := hd 2 (by decide +kernel)
      have e9 : u 9 = .int .i64 (k : Int) := hd 9 (by decide +kernel)
      refine wpOp_of rfl (by rw [← u1_eq e2]; kernel_rfl) ?_
      go_simp
      exact k_of (HK.out (.int .i64 (jj : Int)) _ rfl hB (Below.refl _ _)) (by rw [← u1_eq e2, ← u1_eq e9]; kernel_rfl)
    · intro u W hB _ hd _ K hK
      have HK := Lib.hid hK; clear hK
      have e2 : u 2 = .bool true := hd 2 (by decide +kernel)
      have e8 : u 8 = .slice (some ⟨b, o, none⟩) n c := hd 8 (by decide +kernel)
      have e10 : u 10 = .int .i64 (jj : Int) := hd 10 (by decide +kernel)
      refine wpOp_of rfl (by rw [← u1_eq e2]; kernel_rfl) ?_
      go_simp
      exact k_of (HK.out (.pointer (some ⟨b, o + jj * 2, none⟩)) _ rfl hB (Below.refl _ _)) (by rw [← u1_eq e2, ← u1_eq e8, ← u1_eq e10]; kernel_rfl)
    · intro u W hB _ hd _ K hK
      have HK := Lib.hid hK; clear hK
      have e2 : u 2 = .bool true := hd 2 (by decide +kernel)
      have e11 : u 11 = .pointer (some ⟨b, o + jj * 2, none⟩) := hd 11 (by decide +kernel)
      refine wpOp_of rfl (by rw [← u1_eq e2]; kernel_rfl) ?_
      go_simp
      exact k_of (HK.out (.pointer (some ⟨b, o + jj * 2, none⟩)) _ rfl hB (Below.refl _ _)) (by rw [← u1_eq e2, ← u1_eq e11]; kernel_rfl)
    · intro u W hB _ hd _ K hK
      have HK := Lib.hid hK; clear hK
      have e2 : u 2 = .bool true := hd 2 (by decide +kernel)
      have e12 : u 12 = .pointer (some ⟨b, o + jj * 2, none⟩) := hd 12 (by decide +kernel)
      refine wpOp_of rfl (by rw [← u1_eq e2]; kernel_rfl) ?_
      have g3 := (hc W hB.out).2
      go_simp
      exact k_of (HK.out (.int .i64 q) _ rfl hB (Below.refl _ _)) (by rw [← u1_eq e2, ← u1_eq e12]; kernel_rfl)
    · intro u W hB _ hd _ K hK
      have HK := Lib.hid hK; clear hK
      have e2 : u 2 = .bool true := hd 2 (by decide +kernel)
      have e7 : u 7 = .int .i64 p := hd 7 (by decide +kernel)
      have e13 : u 13 = .int .i64 q := hd 13 (by decide +kernel)
      refine wpOp_of rfl (by rw [← u1_eq e2]; kernel_rfl) ?_
      go_simp
      exact k_of (HK.out (.bool true) _ rfl hB (Below.refl _ _)) (by rw [← u1_eq e2, ← u1_eq e7, ← u1_eq e13]; kernel_rfl)
    · intro u W hB _ hd _ K hK
      have HK := Lib.hid hK; clear hK
      have e2 : u 2 = .bool true := hd 2 (by decide +kernel)
      have e14 : u 14 = .bool true := hd 14 (by decide +kernel)
      refine wpOp_of rfl (by rfl) ?_
      go_simp
      exact k_of (HK.out (.bool true) _ rfl hB (Below.refl _ _)) (by rw [← u1_eq e2, ← u1_eq e14]; kernel_rfl)
  · intro u W hB hd
    have e15 : u 15 = .bool true := hd 15 (by decide)
    exact k_of (HQ.out u W hB.out) (by simp only [e15])
end Go.Proofs.Ytalghiecjhfflaa
