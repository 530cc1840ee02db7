/- Layer blend, a part: Fits. No statement is proved here. -/
import Derived.Test.YtalghiecjhfflaaGl
namespace Go.Proofs.Ytalghiecjhfflaa
open Go.RowKit Go.Shelf Go.Maps
attribute [local go_sem] Oper.semAt_some

/-- What each operation leaves. -/
def fi1R (_P m0 c0 m2 c2 pn pc : Nat) (A0 A2 pa : Option Addr) (x1 x2 x3 x4 : Int) (e0_ : Int) (e1_ : Int) (e2_ : Int) : Nat → Value → World → Prop
  | 0, v, _ => v = .slice A0 m0 c0
  | 1, v, _ => v = .int .i64 e0_
  | 2, v, _ => v = .slice A0 m0 c0
  | 3, v, _ => v = .agg #[.slice pa pn pc, .int .i64 x1, .int .i64 x2, .int .i64 x3, .int .i64 x4]
  | 4, v, _ => v = .int .i64 e1_
  | 5, v, _ => v = .slice A0 m0 c0
  | 6, v, _ => v = .slice A2 m2 c2
  | 7, v, _ => v = .int .i64 e2_
  | 8, v, W => ∃ b_8, v = .slice (some ⟨b_8, 0, none⟩) 3 3 ∧ IntsIn W (some ⟨b_8, 0, none⟩) [e0_, e1_, e2_]
  | 9, v, _ => v = .int .i64 (orE [e0_, e1_, e2_])
  | 10, v, _ => v = .int .i64 (orE [e0_, e1_, e2_])
  | _, _, _ => True
theorem fi1R_on (P m0 c0 m2 c2 pn pc : Nat) (A0 A2 pa : Option Addr) (x1 x2 x3 x4 : Int) (e0_ : Int) (e1_ : Int) (e2_ : Int) : ∀ i, i < 11 → ∀ v W W', fi1R P m0 c0 m2 c2 pn pc A0 A2 pa x1 x2 x3 x4 e0_ e1_ e2_ i v W → Below W.heap.size W W' → fi1R P m0 c0 m2 c2 pn pc A0 A2 pa x1 x2 x3 x4 e0_ e1_ e2_ i v W' := by
  iterate 11 (refine all_succ ?_ ?_)
  · exact all_zero
  · exact fun _ _ _ h _ => h
  · exact fun _ _ _ h _ => h
  · exact fun _ _ _ h _ => h
  · exact fun _ _ _ h _ => h
  · exact fun _ _ _ h _ => h
  · exact fun _ _ _ h _ => h
  · exact fun _ _ _ h _ => h
  · exact fun _ _ _ h _ => h
  · rintro v W W' ⟨b_8, e, h0⟩ hb; exact ⟨b_8, e, h0.on hb⟩
  · exact fun _ _ _ h _ => h
  · exact fun _ _ _ h _ => h
set_option maxRecDepth 100000 in
set_option maxHeartbeats 8000000 in
theorem fi1_region {S : World → Prop} (hon : ∀ W W', S W → Below W.heap.size W W' → S W') {P m0 c0 m2 c2 pn pc : Nat} {A0 A2 pa : Option Addr} {x1 x2 x3 x4 : Int} {e0_ : Int} {e1_ : Int} {e2_ : Int} (hP : ∀ W, S W → Blk W P 46 #[.slice pa pn pc, .int .i64 x1, .int .i64 x2, .int .i64 x3, .int .i64 x4]) (HC0 : Hid (∀ (W : World), S W → Calls Try.prog 55 #[.slice A0 m0 c0] W fun e w' => e = .returned (.int .i64 e0_) ∧ Below W.heap.size W w')) (HC1 : Hid (∀ (W : World), S W → Calls Try.prog 69 #[.slice A0 m0 c0, .agg #[.slice pa pn pc, .int .i64 x1, .int .i64 x2, .int .i64 x3, .int .i64 x4]] W fun e w' => e = .returned (.int .i64 e1_) ∧ Below W.heap.size W w')) (HC2 : Hid (∀ (W : World), S W → Calls Try.prog 59 #[.slice A0 m0 c0, .slice A2 m2 c2] W fun e w' => e = .returned (.int .i64 e2_) ∧ Below W.heap.size W w')) {Q : Exit → Act → World → Prop} {s1 s3 s5 s6 s7 s19 s20 s21 s22 s23 s24 s25 s26 : Value} {W0 : World} (HL : Hid (S W0))
    (HQ : Hid (∀ (u : Nat → Value) (W : World), S W → Q .normal ⟨#[.slice A0 m0 c0, s1, .slice A2 m2 c2, s3, .pointer (some ⟨P, 0, none⟩), s5, s6, s7, .int .i64 (orE [e0_, e1_, e2_]), u 0, u 1, u 2, u 3, u 4, u 5, u 6, u 7, u 8, u 9, s19, s20, s21, s22, s23, s24, s25, s26], []⟩ W)) :
    Code.wp Try.prog ((Try.f27.body.bind (regionAt 1)).getD .skip) Q ⟨#[.slice A0 m0 c0, s1, .slice A2 m2 c2, s3, .pointer (some ⟨P, 0, none⟩), s5, s6, s7, undef, undef, undef, undef, undef, undef, undef, undef, undef, undef, undef, s19, s20, s21, s22, s23, s24, s25, s26], []⟩ W0 := by
  conv => arg 2; whnf
  refine wp_region_spec (by kernel_rfl) 11 (by kernel_rfl) (fun u => ⟨#[.slice A0 m0 c0, s1, .slice A2 m2 c2, s3, .pointer (some ⟨P, 0, none⟩), s5, s6, s7, u 10, u 0, u 1, u 2, u 3, u 4, u 5, u 6, u 7, u 8, u 9, s19, s20, s21, s22, s23, s24, s25, s26], []⟩) (fun i => undef) (fun W => Hid (S W)) (fi1R P m0 c0 m2 c2 pn pc A0 A2 pa x1 x2 x3 x4 e0_ e1_ e2_) (by kernel_rfl) (hon _ _ HL.out (Below.refl _ _).drew) (fun i v W W2 hi h hb => fi1R_on P m0 c0 m2 c2 pn pc A0 A2 pa x1 x2 x3 x4 e0_ e1_ e2_ i hi v W W2 h hb) (by decide +kernel) ?_ ?_
  · iterate 11 (refine all_succ ?_ ?_)
    · exact all_zero
    · intro u W hB _ hd _ K hK
      have HK := Lib.hid hK; clear hK
      refine wpOp_of rfl (by rfl) ?_
      go_simp
      exact k_of (HK.out (.slice A0 m0 c0) _ rfl hB (Below.refl _ _)) (by kernel_rfl)
    · intro u W hB _ hd _ K hK
      have HK := Lib.hid hK; clear hK
      have e0 : u 0 = .slice A0 m0 c0 := hd 0 (by decide +kernel)
      refine wpOp_of rfl (by rfl) ?_
      go_simp
      refine (HC0.out W hB.out).mono ?_
      rintro e w' ⟨rfl, hb⟩
      exact k_of (HK.out (.int .i64 e0_) _ rfl (hon _ _ hB.out hb) hb) (by rw [← u1_eq e0]; kernel_rfl)
    · intro u W hB _ hd _ K hK
      have HK := Lib.hid hK; clear hK
      refine wpOp_of rfl (by rfl) ?_
      go_simp
      exact k_of (HK.out (.slice A0 m0 c0) _ rfl hB (Below.refl _ _)) (by kernel_rfl)
    · intro u W hB _ hd _ K hK
      have HK := Lib.hid hK; clear hK
      refine wpOp_of rfl (by rfl) ?_
      have z0 := (hP W hB.out).cell 0; have z1 := (hP W hB.out).cell 1; have z2 := (hP W hB.out).cell 2; have z3 := (hP W hB.out).cell 3; have z4 := (hP W hB.out).cell 4
      go_simp
      exact k_of (HK.out (.agg #[.slice pa pn pc, .int .i64 x1, .int .i64 x2, .int .i64 x3, .int .i64 x4]) _ rfl hB (Below.refl _ _)) (by kernel_rfl)
    · intro u W hB _ hd _ K hK
      have HK := Lib.hid hK; clear hK
      have e2 : u 2 = .slice A0 m0 c0 := hd 2 (by decide +kernel)
      have e3 : u 3 = .agg #[.slice pa pn pc, .int .i64 x1, .int .i64 x2, .int .i64 x3, .int .i64 x4] := hd 3 (by decide +kernel)
      refine wpOp_of rfl (by rfl) ?_
      go_simp
      refine (HC1.out W hB.out).mono ?_
      rintro e w' ⟨rfl, hb⟩
      exact k_of (HK.out (.int .i64 e1_) _ rfl (hon _ _ hB.out hb) hb) (by rw [← u1_eq e2, ← u1_eq e3]; kernel_rfl)
    · intro u W hB _ hd _ K hK
      have HK := Lib.hid hK; clear hK
      refine wpOp_of rfl (by rfl) ?_
      go_simp
      exact k_of (HK.out (.slice A0 m0 c0) _ rfl hB (Below.refl _ _)) (by kernel_rfl)
    · intro u W hB _ hd _ K hK
      have HK := Lib.hid hK; clear hK
      refine wpOp_of rfl (by rfl) ?_
      go_simp
      exact k_of (HK.out (.slice A2 m2 c2) _ rfl hB (Below.refl _ _)) (by kernel_rfl)
    · intro u W hB _ hd _ K hK
      have HK := Lib.hid hK; clear hK
      have e5 : u 5 = .slice A0 m0 c0 := hd 5 (by decide +kernel)
      have e6 : u 6 = .slice A2 m2 c2 := hd 6 (by decide +kernel)
      refine wpOp_of rfl (by rfl) ?_
      go_simp
      refine (HC2.out W hB.out).mono ?_
      rintro e w' ⟨rfl, hb⟩
      exact k_of (HK.out (.int .i64 e2_) _ rfl (hon _ _ hB.out hb) hb) (by rw [← u1_eq e5, ← u1_eq e6]; kernel_rfl)
    · intro u W hB _ hd _ K hK
      have HK := Lib.hid hK; clear hK
      have e1 : u 1 = .int .i64 e0_ := hd 1 (by decide +kernel)
      have e4 : u 4 = .int .i64 e1_ := hd 4 (by decide +kernel)
      have e7 : u 7 = .int .i64 e2_ := hd 7 (by decide +kernel)
      refine wpOp_of rfl (by rfl) ?_
      go_simp
      exact k_of (HK.out (.slice (some ⟨W.heap.size, 0, none⟩) 3 3) _ ⟨_, rfl, ints_blk (Blk.new _ _ _) rfl (by simp)⟩ (hon _ _ hB.out ((Below.refl _ W).alloc (Nat.le_refl _) _)) ((Below.refl _ W).alloc (Nat.le_refl _) _)) (by rw [← u1_eq e1, ← u1_eq e4, ← u1_eq e7]; kernel_rfl)
    · intro u W hB _ hd _ K hK
      have HK := Lib.hid hK; clear hK
      obtain ⟨b_8, e8, f8_0⟩ : fi1R P m0 c0 m2 c2 pn pc A0 A2 pa x1 x2 x3 x4 e0_ e1_ e2_ 8 (u 8) W := hd 8 (by decide +kernel)
      refine wpOp_of rfl (by rfl) ?_
      go_simp
      refine (or_any (c := 3) f8_0).mono ?_
      rintro e w' ⟨rfl, rfl⟩
      exact k_of (HK.out (.int .i64 (orE [e0_, e1_, e2_])) _ rfl hB (Below.refl _ _)) (by rw [← u1_eq e8]; kernel_rfl)
    · intro u W hB _ hd _ K hK
      have HK := Lib.hid hK; clear hK
      have e9 : u 9 = .int .i64 (orE [e0_, e1_, e2_]) := hd 9 (by decide +kernel)
      refine wpOp_of rfl (by rfl) ?_
      go_simp
      exact k_of (HK.out (.int .i64 (orE [e0_, e1_, e2_])) _ rfl hB (Below.refl _ _)) (by rw [← u1_eq e9]; kernel_rfl)
  · intro u W hB hd
    have e10 : u 10 = .int .i64 (orE [e0_, e1_, e2_]) := hd 10 (by decide)
    exact k_of (HQ.out u W hB.out) (by simp only [e10])

/-- What each operation leaves. -/
def fi4R (_P m0 c0 m2 c2 pn pc : Nat) (A0 A2 pa : Option Addr) (x1 x2 x3 x4 z : Int) (xs : List Po) : Nat → Value → World → Prop
  | 0, v, _ => v = .slice A0 m0 c0
  | 1, v, _ => v = .slice A2 m2 c2
  | 2, v, W => ∃ g_2 cap_2, v = .slice (some ⟨g_2, 0, none⟩) m0 cap_2 ∧ PosIn W (some ⟨g_2, 0, none⟩) xs
  | 3, v, _ => v = .agg #[.slice pa pn pc, .int .i64 x1, .int .i64 x2, .int .i64 x3, .int .i64 x4]
  | 4, v, _ => v = .int .i64 z
  | 5, v, _ => v = .int .i64 z
  | 6, v, _ => v = .int .i64 0
  | _, _, _ => True
theorem fi4R_on (P m0 c0 m2 c2 pn pc : Nat) (A0 A2 pa : Option Addr) (x1 x2 x3 x4 z : Int) (xs : List Po) : ∀ i, i < 7 → ∀ v W W', fi4R P m0 c0 m2 c2 pn pc A0 A2 pa x1 x2 x3 x4 z xs i v W → Below W.heap.size W W' → fi4R P m0 c0 m2 c2 pn pc A0 A2 pa x1 x2 x3 x4 z xs i v W' := by
  iterate 7 (refine all_succ ?_ ?_)
  · exact all_zero
  · exact fun _ _ _ h _ => h
  · exact fun _ _ _ h _ => h
  · rintro v W W' ⟨g_2, cap_2, e, h0⟩ hb; exact ⟨g_2, cap_2, e, h0.on hb⟩
  · exact fun _ _ _ h _ => h
  · exact fun _ _ _ h _ => h
  · exact fun _ _ _ h _ => h
  · exact fun _ _ _ h _ => h
set_option maxRecDepth 100000 in
set_option maxHeartbeats 8000000 in
theorem fi4_region {S : World → Prop} (hon : ∀ W W', S W → Below W.heap.size W W' → S W') {P m0 c0 m2 c2 pn pc : Nat} {A0 A2 pa : Option Addr} {x1 x2 x3 x4 z : Int} {xs : List Po} (hP : ∀ W, S W → Blk W P 46 #[.slice pa pn pc, .int .i64 x1, .int .i64 x2, .int .i64 x3, .int .i64 x4]) (HCM : Hid (∀ (W : World), S W → Calls Try.prog 60 #[.slice A0 m0 c0, .slice A2 m2 c2] W fun e w' => ∃ g cap, e = .returned (.slice (some ⟨g, 0, none⟩) m0 cap) ∧ PosIn w' (some ⟨g, 0, none⟩) xs ∧ Below W.heap.size W w')) (HCF : Hid (∀ (W : World) (g cap : Nat), S W → PosIn W (some ⟨g, 0, none⟩) xs → Calls Try.prog 70 #[.slice (some ⟨g, 0, none⟩) m0 cap, .agg #[.slice pa pn pc, .int .i64 x1, .int .i64 x2, .int .i64 x3, .int .i64 x4]] W fun e w' => e = .returned (.int .i64 z) ∧ Below W.heap.size W w')) {Q : Exit → Act → World → Prop} {s1 s3 s5 s8 s9 s10 s11 s12 s13 s14 s15 s16 s17 s18 s19 s20 s21 : Value} {W0 : World} (HL : Hid (S W0))
    (HQ : Hid (∀ (u : Nat → Value) (W : World), S W → Q .normal ⟨#[.slice A0 m0 c0, s1, .slice A2 m2 c2, s3, .pointer (some ⟨P, 0, none⟩), s5, .int .i64 z, .int .i64 0, s8, s9, s10, s11, s12, s13, s14, s15, s16, s17, s18, s19, s20, s21, u 0, u 1, u 2, u 3, u 4], []⟩ W)) :
    Code.wp Try.prog ((Try.f27.body.bind (regionAt 4)).getD .skip) Q ⟨#[.slice A0 m0 c0, s1, .slice A2 m2 c2, s3, .pointer (some ⟨P, 0, none⟩), s5, .int .i64 0, .int .i64 0, s8, s9, s10, s11, s12, s13, s14, s15, s16, s17, s18, s19, s20, s21, undef, undef, undef, undef, undef], []⟩ W0 := by
  conv => arg 2; whnf
  refine wp_region_spec (by kernel_rfl) 7 (by kernel_rfl) (fun u => ⟨#[.slice A0 m0 c0, s1, .slice A2 m2 c2, s3, .pointer (some ⟨P, 0, none⟩), s5, u 5, u 6, s8, s9, s10, s11, s12, s13, s14, s15, s16, s17, s18, s19, s20, s21, u 0, u 1, u 2, u 3, u 4], []⟩) (fun i => if i = 5 then .int .i64 0 else if i = 6 then .int .i64 0 else undef) (fun W => Hid (S W)) (fi4R P m0 c0 m2 c2 pn pc A0 A2 pa x1 x2 x3 x4 z xs) (by kernel_rfl) (hon _ _ HL.out (Below.refl _ _).drew) (fun i v W W2 hi h hb => fi4R_on P m0 c0 m2 c2 pn pc A0 A2 pa x1 x2 x3 x4 z xs i hi v W W2 h hb) (by decide +kernel) ?_ ?_
  · iterate 7 (refine all_succ ?_ ?_)
    · exact all_zero
    · intro u W hB _ hd _ K hK
      have HK := Lib.hid hK; clear hK
      refine wpOp_of rfl (by rfl) ?_
      go_simp
      exact k_of (HK.out (.slice A0 m0 c0) _ rfl hB (Below.refl _ _)) (by kernel_rfl)
    · intro u W hB _ hd _ K hK
      have HK := Lib.hid hK; clear hK
      refine wpOp_of rfl (by rfl) ?_
      go_simp
      exact k_of (HK.out (.slice A2 m2 c2) _ rfl hB (Below.refl _ _)) (by kernel_rfl)
    · intro u W hB _ hd _ K hK
      have HK := Lib.hid hK; clear hK
      have e0 : u 0 = .slice A0 m0 c0 := hd 0 (by decide +kernel)
      have e1 : u 1 = .slice A2 m2 c2 := hd 1 (by decide +kernel)
      refine wpOp_of rfl (by rfl) ?_
      go_simp
      refine (HCM.out W hB.out).mono ?_
      rintro e w' ⟨g, cap, rfl, hp, hb⟩
      exact k_of (HK.out (.slice (some ⟨g, 0, none⟩) m0 cap) _ ⟨g, cap, rfl, hp⟩ (hon _ _ hB.out hb) hb) (by rw [← u1_eq e0, ← u1_eq e1]; kernel_rfl)
    · intro u W hB _ hd _ K hK
      have HK := Lib.hid hK; clear hK
      refine wpOp_of rfl (by rfl) ?_
      have z0 := (hP W hB.out).cell 0; have z1 := (hP W hB.out).cell 1; have z2 := (hP W hB.out).cell 2; have z3 := (hP W hB.out).cell 3; have z4 := (hP W hB.out).cell 4
      go_simp
      exact k_of (HK.out (.agg #[.slice pa pn pc, .int .i64 x1, .int .i64 x2, .int .i64 x3, .int .i64 x4]) _ rfl hB (Below.refl _ _)) (by kernel_rfl)
    · intro u W hB _ hd _ K hK
      have HK := Lib.hid hK; clear hK
      obtain ⟨g_2, cap_2, e2, f2_0⟩ : fi4R P m0 c0 m2 c2 pn pc A0 A2 pa x1 x2 x3 x4 z xs 2 (u 2) W := hd 2 (by decide +kernel)
      have e3 : u 3 = .agg #[.slice pa pn pc, .int .i64 x1, .int .i64 x2, .int .i64 x3, .int .i64 x4] := hd 3 (by decide +kernel)
      refine wpOp_of rfl (by rfl) ?_
      go_simp
      refine (HCF.out W _ _ hB.out f2_0).mono ?_
      rintro e w' ⟨rfl, hb⟩
      exact k_of (HK.out (.int .i64 z) _ rfl (hon _ _ hB.out hb) hb) (by rw [← u1_eq e2, ← u1_eq e3]; kernel_rfl)
    · intro u W hB _ hd _ K hK
      have HK := Lib.hid hK; clear hK
      have e4 : u 4 = .int .i64 z := hd 4 (by decide +kernel)
      refine wpOp_of rfl (by rfl) ?_
      go_simp
      exact k_of (HK.out (.int .i64 z) _ rfl hB (Below.refl _ _)) (by rw [← u1_eq e4]; kernel_rfl)
    · intro u W hB _ hd _ K hK
      have HK := Lib.hid hK; clear hK
      refine wpOp_of rfl (by rfl) ?_
      go_simp
      exact k_of (HK.out (.int .i64 0) _ rfl hB (Below.refl _ _)) (by kernel_rfl)
  · intro u W hB hd
    have e5 : u 5 = .int .i64 z := hd 5 (by decide)
    have e6 : u 6 = .int .i64 0 := hd 6 (by decide)
    exact k_of (HQ.out u W hB.out) (by simp only [e5, e6])
end Go.Proofs.Ytalghiecjhfflaa

namespace Go.Proofs.Ytalghiecjhfflaa
open Go.RowKit Go.Shelf Go.Maps
attribute [local go_sem] Oper.semAt_some


theorem orE_congr {a : Int} {s t : List Int} (h : a = 0 → orE s = orE t) : orE (a :: s) = orE (a :: t) := by
  simp only [orE]
  by_cases h0 : a = 0
  · simp [h0, h h0]
  · simp [h0]
theorem or_bdw {l : List Bw} {m : Int} {r t : List Int} : orE (bdE l :: m :: recQ l.length r :: t) = orE (bdE l :: m :: recE l.length r :: t) := by
  refine orE_congr fun h => ?_
  rw [recQ_eq (by have := (bd_ok h).1; omega)]
/-- What Fits answers. -/
def fitsV (l : List Bw) (x : Ws) (r : List Int) : Int × Int := if orE [bdE l, wishE l.length x, recE l.length r] ≠ 0 then (0, orE [bdE l, wishE l.length x, recE l.length r]) else (whyV l x r, 0)
theorem ret_fits {l : List Bw} {x : Ws} {r : List Int} {a b : Int} (h : fitsV l x r = (a, b)) : Ending.returned (.tuple #[.int .i64 a, .int .i64 b]) = .returned (.tuple #[.int .i64 (fitsV l x r).1, .int .i64 (fitsV l x r).2]) := by rw [h]


set_option maxRecDepth 100000 in
set_option maxHeartbeats 4000000 in
theorem fits_any {w : World} {A R : Option Addr} {c rc : Nat} {l : List Bw} {r : List Int} {q : Wm} (h : BwsIn w A l) (hc : l.length ≤ c) (hs : SpansIn w q.pa q.w.ps) (hr : IntsIn w R r) :
    Calls Try.prog 27 #[.slice A l.length c, .agg #[.slice q.pa q.w.ps.length q.pc, .int .i64 q.w.mlo, .int .i64 q.w.mhi, .int .i64 q.w.slo, .int .i64 q.w.shi], .slice R r.length rc] w fun e w' => e = .returned (.tuple #[.int .i64 (fitsV l q.w r).1, .int .i64 (fitsV l q.w r).2]) ∧ Below w.heap.size w w' := by
  have HE1 := Lib.hid (fun (W : World) (hb : Below w.heap.size w W) => waxes_any (h.on hb) hc)
  have HE2 := Lib.hid (fun (W : World) (hb : Below w.heap.size w W) => wishE_any (A0 := A) (c0 := c) (pc := q.pc) (m := l.length) (x := q.w) (hs.on hb))
  have HE3 := Lib.hid (fun (W : World) (hb : Below w.heap.size w W) => (recE_any (A0 := A) (c0 := c) (c := rc) (m := l.length) rfl (hr.on hb)).mono (fun e w' (hq : e = .returned (.int .i64 (recQ l.length r)) ∧ w' = W) => (⟨hq.1, by rw [hq.2]; exact Below.refl _ _⟩ : e = .returned (.int .i64 (recQ l.length r)) ∧ Below W.heap.size W w')))
  have hb0 := (Bx.nil w).alloc #[.slice q.pa q.w.ps.length q.pc, .int .i64 q.w.mlo, .int .i64 q.w.mhi, .int .i64 q.w.slo, .int .i64 q.w.shi] 46
  have HB := Lib.hid hb0
  have hq := or_bdw (l := l) (m := wishE l.length q.w) (r := r) (t := [])
  by_cases hz : orE [bdE l, wishE l.length q.w, recE l.length r] = 0
  · rw [hz] at hq
    have HQ := Lib.hid hq
    have HV := Lib.hid (show fitsV l q.w r = (whyV l q.w r, 0) by unfold fitsV; rw [if_neg (by simpa using hz)])
    have hok := bd_ok (orE_zero.1 hz (bdE l) (by simp))
    have hrk := rec_ok.1 (orE_zero.1 hz (recE l.length r) (by simp))
    have hwk := wish_ok.1 (orE_zero.1 hz (wishE l.length q.w) (by simp))
    obtain ⟨b, o, rfl⟩ := h.addr hok.1.1
    have HM := Lib.hid (fun (W : World) (hb : Bx w [(w.heap.size, 46, #[.slice q.pa q.w.ps.length q.pc, .int .i64 q.w.mlo, .int .i64 q.w.mhi, .int .i64 q.w.slo, .int .i64 q.w.shi])] W) => (mixOf_any (c := c) (rc := rc) (h.on hb.b) (hr.on hb.b) hrk.len hok.1).mono (fun e w' (hq : ∃ g cap, e = .returned (.slice (some ⟨g, 0, none⟩) l.length cap) ∧ PosOut W.heap.size w' (.slice (some ⟨g, 0, none⟩) l.length cap) (mixL b o l r) ∧ Below W.heap.size W w') => (by
      obtain ⟨g, cap, e1, hp, hb2⟩ := hq
      exact ⟨g, cap, e1, (mix_in (h.on hb.b) hb2 hp).2, hb2⟩ : ∃ g cap, e = .returned (.slice (some ⟨g, 0, none⟩) l.length cap) ∧ PosIn w' (some ⟨g, 0, none⟩) (mixL b o l r) ∧ Below W.heap.size W w')))
    have HF := Lib.hid (fun (W : World) (g cap : Nat) (hb : Bx w [(w.heap.size, 46, #[.slice q.pa q.w.ps.length q.pc, .int .i64 q.w.mlo, .int .i64 q.w.mhi, .int .i64 q.w.slo, .int .i64 q.w.shi])] W) (hp : PosIn W (some ⟨g, 0, none⟩) (mixL b o l r)) => fault_any (c := cap) hp hok.2 hok.1 hrk hwk (hs.on hb.b))
    clear h hs hr hz hok hrk hwk hb0 hq
    go_enter Try.func27, Try.ntmps27
    go_wp2_with fail
    refine wp_of_eq (fi1_region (S := Bx w [(w.heap.size, 46, #[.slice q.pa q.w.ps.length q.pc, .int .i64 q.w.mlo, .int .i64 q.w.mhi, .int .i64 q.w.slo, .int .i64 q.w.shi])]) (fun _ _ h hb => h.on hb) (P := w.heap.size) (x1 := q.w.mlo) (x2 := q.w.mhi) (x3 := q.w.slo) (x4 := q.w.shi) (fun W h => h.get (by simp)) (Lib.hid fun W h => HE1.out W h.b) (Lib.hid fun W h => HE2.out W h.b) (Lib.hid fun W h => HE3.out W h.b) HB (Lib.hid fun u W hS => ?_)) (by kernel_rfl)
    rw [HQ.out]
    have HS := Lib.hid hS
    clear hS
    go_wp2_with fail
    refine wp_of_eq (fi4_region (S := Bx w [(w.heap.size, 46, #[.slice q.pa q.w.ps.length q.pc, .int .i64 q.w.mlo, .int .i64 q.w.mhi, .int .i64 q.w.slo, .int .i64 q.w.shi])]) (fun _ _ h hb => h.on hb) (P := w.heap.size) (x1 := q.w.mlo) (x2 := q.w.mhi) (x3 := q.w.slo) (x4 := q.w.shi) (z := whyV l q.w r) (xs := mixL b o l r) (fun W h => h.get (by simp)) HM HF HS (Lib.hid fun u W2 hS => ?_)) (by kernel_rfl)
    have HF2 := Lib.hid hS.b
    clear hS
    go_wp2_with fail
    go_ret2
    exact ⟨ret_fits HV.out, HF2.out⟩
  · have HV := Lib.hid (show fitsV l q.w r = (0, orE [bdE l, wishE l.length q.w, recE l.length r]) by unfold fitsV; rw [if_pos hz])
    have hz2 : (orE [bdE l, wishE l.length q.w, recE l.length r] != 0) = true := by simpa using hz
    generalize orE [bdE l, wishE l.length q.w, recE l.length r] = z at *
    have HQ := Lib.hid hq
    clear h hs hr hz hb0 hq
    go_enter Try.func27, Try.ntmps27
    go_wp2_with fail
    refine wp_of_eq (fi1_region (S := Bx w [(w.heap.size, 46, #[.slice q.pa q.w.ps.length q.pc, .int .i64 q.w.mlo, .int .i64 q.w.mhi, .int .i64 q.w.slo, .int .i64 q.w.shi])]) (fun _ _ h hb => h.on hb) (P := w.heap.size) (x1 := q.w.mlo) (x2 := q.w.mhi) (x3 := q.w.slo) (x4 := q.w.shi) (fun W h => h.get (by simp)) (Lib.hid fun W h => HE1.out W h.b) (Lib.hid fun W h => HE2.out W h.b) (Lib.hid fun W h => HE3.out W h.b) HB (Lib.hid fun u W hS => ?_)) (by kernel_rfl)
    rw [HQ.out]
    have HF2 := Lib.hid hS.b
    clear hS
    go_wp2_with fail
    go_ret2
    exact ⟨ret_fits HV.out, HF2.out⟩
end Go.Proofs.Ytalghiecjhfflaa

namespace Go.Proofs.Ytalghiecjhfflaa
open Go.RowKit Go.Shelf Go.Maps
attribute [local go_sem] Oper.semAt_some


set_option maxRecDepth 100000 in
theorem price_any {w : World} {b o g c : Nat} {l : List Bw} {r : List Int} (h : PosIn w (some ⟨g, 0, none⟩) (mixL b o l r)) (hl : ∀ x ∈ l, BwOk x) (hlen : l.length ≤ 5) (hr : RcOk l.length r) :
    Calls Try.prog 72 #[.slice (some ⟨g, 0, none⟩) l.length c] w fun e w' => e = .returned (.int .i64 (figR l r).c) ∧ Below w.heap.size w w' := by
  have hm := mix_ok (b := b) (o := o) hl hr.in_
  have H := Lib.hid (fun (W : World) (hb : Below w.heap.size w W) => sumP_any (c := c) (F := 93) (g := (fun x n => n * x.pr)) (h.on hb) (enters_of Try.func93 (by kernel_rfl) rfl) (fun W' hb' p hp => by
    have HW := (h.wx p hp).on (hb.trans (hb'.mono hb.size))
    have ok := hm p hp
    exact costs_any HW ok.2 ok.1.pr))
  rw [mixL_len b o l r hr.len, fig_sum (g := fun x n => n * x.pr) hl hlen hr.in_ (fun x n ok hn => mul_in2 (m := 100000) ok.pr (by decide) hn)] at H
  have HE := Lib.hid (show (figR l r).c = figV (fun x n => n * x.pr) l r from rfl)
  clear h hm hl hr hlen
  generalize figV (fun x n => n * x.pr) l r = z at *
  rw [HE.out]
  go_enter Try.func72, Try.ntmps72
  go_wp2_with (first | (go_at_call 94; (with_reducible refine (H.out _ (Below.refl _ _)).mono ?_); rintro e w1 ⟨rfl, hb⟩; have HB := Lib.hid hb; clear hb) | fail)
  go_ret
  exact ⟨rfl, HB.out⟩
set_option maxRecDepth 100000 in
set_option maxHeartbeats 2000000 in
theorem mrec_any {w : World} {A : Option Addr} {c : Nat} {ps : List Po} (h : PosIn w A ps) (h8 : ps.length ≤ 1000) :
    Calls Try.prog 73 #[.slice A ps.length c] w fun e w' => ∃ v, e = .returned v ∧ IntsOut w.heap.size w' v (ps.map Po.n) ∧ Below w.heap.size w w' := by
  have HI := Lib.hid h
  clear h
  go_enter Try.func73, Try.ntmps73
  go_wp2_with fail
  go_loopw [3, 8] (fun v i W => ∃ k : Nat, k ≤ ps.length ∧ i = .int .i64 k ∧ Hid (IntsOut w.heap.size W v ((ps.take k).map Po.n)) ∧ Hid (Below w.heap.size w W)) (fun _ i _ => ps.length - (intOf i).toNat)
  case atStart => exact ⟨0, by omega, rfl, IntsOut.nil _ _, Below.refl _ _⟩
  case round =>
    obtain ⟨k, hk, rfl, HO, HB⟩ := hrel
    by_cases hlt : k < ps.length
    · obtain ⟨p, hp⟩ : ∃ p, ps[k]? = some p := ⟨ps[k], List.getElem?_eq_getElem hlt⟩
      obtain ⟨bb, o, rfl, _, c0, c1⟩ := (HI.out.on HB.out).get hp
      have HT : Hid ((ps.take (k + 1)).map Po.n = (ps.take k).map Po.n ++ [p.n]) := by show _ = _; rw [List.take_add_one, hp]; simp
      have HLL : Hid (((ps.take k).map Po.n).length < 1000000) := by show _ < _; rw [List.length_map, List.length_take]; omega
      clear hp
      generalize (ps.take k).map Po.n = lk at *
      go_wp2_with (first
        | (at_builtin; go_must (refine app_list rfl _ _ rfl (l := lk) rfl (own_below HO.out (two_allocs (Below.refl _ wr) _ _)) p.n rfl (Blk.newat (by simp)) HLL.out (by simp; have := HB.out.size; omega) ?_); intro g cap w6 r1 r2 r3 r4; have HO2 := Lib.hid r1; have HB2 := Lib.hid ((two_allocs HB.out _ _).trans r2); clear r1 r2 r3 r4)
        | fail)
      go_roundw
      case rel => exact ⟨k + 1, Nat.succ_le_of_lt hlt, by go_num, by show IntsOut _ _ _ _; rw [HT.out]; exact HO2.out, HB2.out⟩
      case measure => exact meas_one hlt
    · have hke : k = ps.length := by omega
      subst hke
      have HO2 := HO.out
      rw [List.take_of_length_le (Nat.le_refl _)] at HO2
      go_wp2_with fail
      go_ret
      exact ⟨_, rfl, HO2, HB.out⟩
end Go.Proofs.Ytalghiecjhfflaa
