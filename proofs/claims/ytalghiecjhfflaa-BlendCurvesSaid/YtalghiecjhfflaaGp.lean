/- Layer blend, a part: Cheapest. No statement is proved here. -/
import Derived.Test.YtalghiecjhfflaaGn
import Derived.Test.YtalghiecjhfflaaGm
import Derived.RangeFuncNested
namespace Go.Proofs.Ytalghiecjhfflaa
open Go.RowKit Go.Shelf Go.Maps
attribute [local go_sem] Oper.semAt_some

/-- What each operation leaves. -/
def ch1R (_P m0 c0 pn pc : Nat) (A0 pa : Option Addr) (x1 x2 x3 x4 : Int) (e0_ : Int) (e1_ : Int) : Nat → Value → World → Prop
  | 0, v, _ => v = .slice A0 m0 c0
  | 1, v, _ => v = .int .i64 e0_
  | 2, v, _ => v = .slice A0 m0 c0
  | 3, v, _ => v = .agg #[.slice pa pn pc, .int .i64 x1, .int .i64 x2, .int .i64 x3, .int .i64 x4]
  | 4, v, _ => v = .int .i64 e1_
  | 5, v, W => ∃ b_5, v = .slice (some ⟨b_5, 0, none⟩) 2 2 ∧ IntsIn W (some ⟨b_5, 0, none⟩) [e0_, e1_]
  | 6, v, _ => v = .int .i64 (orE [e0_, e1_])
  | 7, v, _ => v = .int .i64 (orE [e0_, e1_])
  | _, _, _ => True
theorem ch1R_on (P m0 c0 pn pc : Nat) (A0 pa : Option Addr) (x1 x2 x3 x4 : Int) (e0_ : Int) (e1_ : Int) : ∀ i, i < 8 → ∀ v W W', ch1R P m0 c0 pn pc A0 pa x1 x2 x3 x4 e0_ e1_ i v W → Below W.heap.size W W' → ch1R P m0 c0 pn pc A0 pa x1 x2 x3 x4 e0_ e1_ i v W' := by
  iterate 8 (refine all_succ ?_ ?_)
  · exact all_zero
  · exact fun _ _ _ h _ => h
  · exact fun _ _ _ h _ => h
  · exact fun _ _ _ h _ => h
  · exact fun _ _ _ h _ => h
  · exact fun _ _ _ h _ => h
  · rintro v W W' ⟨b_5, e, h0⟩ hb; exact ⟨b_5, e, h0.on hb⟩
  · exact fun _ _ _ h _ => h
  · exact fun _ _ _ h _ => h
set_option maxRecDepth 100000 in
set_option maxHeartbeats 8000000 in
theorem ch1_region {S : World → Prop} (hon : ∀ W W', S W → Below W.heap.size W W' → S W') {P m0 c0 pn pc : Nat} {A0 pa : Option Addr} {x1 x2 x3 x4 : Int} {e0_ : Int} {e1_ : Int} (hP : ∀ W, S W → Blk W P 46 #[.slice pa pn pc, .int .i64 x1, .int .i64 x2, .int .i64 x3, .int .i64 x4]) (HC0 : Hid (∀ (W : World), S W → Calls Try.prog 55 #[.slice A0 m0 c0] W fun e w' => e = .returned (.int .i64 e0_) ∧ Below W.heap.size W w')) (HC1 : Hid (∀ (W : World), S W → Calls Try.prog 69 #[.slice A0 m0 c0, .agg #[.slice pa pn pc, .int .i64 x1, .int .i64 x2, .int .i64 x3, .int .i64 x4]] W fun e w' => e = .returned (.int .i64 e1_) ∧ Below W.heap.size W w')) {Q : Exit → Act → World → Prop} {s1 s2 s4 s5 s6 s8 s9 s17 s18 s19 s20 s21 s22 s23 s24 s25 s26 s27 s28 s29 s30 s31 s32 s33 s34 s35 s36 s37 s38 s39 : Value} {W0 : World} (HL : Hid (S W0))
    (HQ : Hid (∀ (u : Nat → Value) (W : World), S W → Q .normal ⟨#[.slice A0 m0 c0, s1, s2, .pointer (some ⟨P, 0, none⟩), s4, s5, s6, .int .i64 (orE [e0_, e1_]), s8, s9, u 0, u 1, u 2, u 3, u 4, u 5, u 6, s17, s18, s19, s20, s21, s22, s23, s24, s25, s26, s27, s28, s29, s30, s31, s32, s33, s34, s35, s36, s37, s38, s39], []⟩ W)) :
    Code.wp Try.prog ((Try.f29.body.bind (regionAt 1)).getD .skip) Q ⟨#[.slice A0 m0 c0, s1, s2, .pointer (some ⟨P, 0, none⟩), s4, s5, s6, undef, s8, s9, undef, undef, undef, undef, undef, undef, undef, s17, s18, s19, s20, s21, s22, s23, s24, s25, s26, s27, s28, s29, s30, s31, s32, s33, s34, s35, s36, s37, s38, s39], []⟩ W0 := by
  conv => arg 2; whnf
  refine wp_region_spec (by kernel_rfl) 8 (by kernel_rfl) (fun u => ⟨#[.slice A0 m0 c0, s1, s2, .pointer (some ⟨P, 0, none⟩), s4, s5, s6, u 7, s8, s9, u 0, u 1, u 2, u 3, u 4, u 5, u 6, s17, s18, s19, s20, s21, s22, s23, s24, s25, s26, s27, s28, s29, s30, s31, s32, s33, s34, s35, s36, s37, s38, s39], []⟩) (fun i => undef) (fun W => Hid (S W)) (ch1R P m0 c0 pn pc A0 pa x1 x2 x3 x4 e0_ e1_) (by kernel_rfl) (hon _ _ HL.out (Below.refl _ _).drew) (fun i v W W2 hi h hb => ch1R_on P m0 c0 pn pc A0 pa x1 x2 x3 x4 e0_ e1_ i hi v W W2 h hb) (by decide +kernel) ?_ ?_
  · iterate 8 (refine all_succ ?_ ?_)
    · exact all_zero
    · intro u W hB _ hd _ K hK
      have HK := Lib.hid hK; clear hK
      refine wpOp_of rfl (by rfl) ?_
      go_simp
      exact k_of (HK.out (.slice A0 m0 c0) _ rfl hB (Below.refl _ _)) (by kernel_rfl)
    · intro u W hB _ hd _ K hK
      have HK := Lib.hid hK; clear hK
      have e0 : u 0 = .slice A0 m0 c0 := hd 0 (by decide +kernel)
      refine wpOp_of rfl (by rfl) ?_
      go_simp
      refine (HC0.out W hB.out).mono ?_
      rintro e w' ⟨rfl, hb⟩
      exact k_of (HK.out (.int .i64 e0_) _ rfl (hon _ _ hB.out hb) hb) (by rw [← u1_eq e0]; kernel_rfl)
    · intro u W hB _ hd _ K hK
      have HK := Lib.hid hK; clear hK
      refine wpOp_of rfl (by rfl) ?_
      go_simp
      exact k_of (HK.out (.slice A0 m0 c0) _ rfl hB (Below.refl _ _)) (by kernel_rfl)
    · intro u W hB _ hd _ K hK
      have HK := Lib.hid hK; clear hK
      refine wpOp_of rfl (by rfl) ?_
      have z0 := (hP W hB.out).cell 0; have z1 := (hP W hB.out).cell 1; have z2 := (hP W hB.out).cell 2; have z3 := (hP W hB.out).cell 3; have z4 := (hP W hB.out).cell 4
      go_simp
      exact k_of (HK.out (.agg #[.slice pa pn pc, .int .i64 x1, .int .i64 x2, .int .i64 x3, .int .i64 x4]) _ rfl hB (Below.refl _ _)) (by kernel_rfl)
    · intro u W hB _ hd _ K hK
      have HK := Lib.hid hK; clear hK
      have e2 : u 2 = .slice A0 m0 c0 := hd 2 (by decide +kernel)
      have e3 : u 3 = .agg #[.slice pa pn pc, .int .i64 x1, .int .i64 x2, .int .i64 x3, .int .i64 x4] := hd 3 (by decide +kernel)
      refine wpOp_of rfl (by rfl) ?_
      go_simp
      refine (HC1.out W hB.out).mono ?_
      rintro e w' ⟨rfl, hb⟩
      exact k_of (HK.out (.int .i64 e1_) _ rfl (hon _ _ hB.out hb) hb) (by rw [← u1_eq e2, ← u1_eq e3]; kernel_rfl)
    · intro u W hB _ hd _ K hK
      have HK := Lib.hid hK; clear hK
      have e1 : u 1 = .int .i64 e0_ := hd 1 (by decide +kernel)
      have e4 : u 4 = .int .i64 e1_ := hd 4 (by decide +kernel)
      refine wpOp_of rfl (by rfl) ?_
      go_simp
      exact k_of (HK.out (.slice (some ⟨W.heap.size, 0, none⟩) 2 2) _ ⟨_, rfl, ints_blk (Blk.new _ _ _) rfl (by simp)⟩ (hon _ _ hB.out ((Below.refl _ W).alloc (Nat.le_refl _) _)) ((Below.refl _ W).alloc (Nat.le_refl _) _)) (by rw [← u1_eq e1, ← u1_eq e4]; kernel_rfl)
    · intro u W hB _ hd _ K hK
      have HK := Lib.hid hK; clear hK
      obtain ⟨b_5, e5, f5_0⟩ : ch1R P m0 c0 pn pc A0 pa x1 x2 x3 x4 e0_ e1_ 5 (u 5) W := hd 5 (by decide +kernel)
      refine wpOp_of rfl (by rfl) ?_
      go_simp
      refine (or_any (c := 2) f5_0).mono ?_
      rintro e w' ⟨rfl, rfl⟩
      exact k_of (HK.out (.int .i64 (orE [e0_, e1_])) _ rfl hB (Below.refl _ _)) (by rw [← u1_eq e5]; kernel_rfl)
    · intro u W hB _ hd _ K hK
      have HK := Lib.hid hK; clear hK
      have e6 : u 6 = .int .i64 (orE [e0_, e1_]) := hd 6 (by decide +kernel)
      refine wpOp_of rfl (by rfl) ?_
      go_simp
      exact k_of (HK.out (.int .i64 (orE [e0_, e1_])) _ rfl hB (Below.refl _ _)) (by rw [← u1_eq e6]; kernel_rfl)
  · intro u W hB hd
    have e7 : u 7 = .int .i64 (orE [e0_, e1_]) := hd 7 (by decide)
    exact k_of (HQ.out u W hB.out) (by simp only [e7])

/-- What each operation leaves. -/
def cn7R (_Q0 _g1 _m _c1 _g2 _c2 : Nat) (_p1 _p2 : Int) : Nat → Value → World → Prop
  | 0, v, _ => v = .slice none 0 0
  | 1, v, _ => v = .bool true
  | 2, v, _ => v = .bool true
  | 3, v, _ => v = undef
  | 4, v, _ => v = undef
  | 5, v, _ => v = undef
  | 6, v, _ => v = undef
  | 7, v, _ => v = undef
  | 8, v, _ => v = .bool true
  | _, _, _ => True
theorem cn7R_on (Q0 g1 m c1 g2 c2 : Nat) (p1 p2 : Int) : ∀ i, i < 9 → ∀ v W W', cn7R Q0 g1 m c1 g2 c2 p1 p2 i v W → Below W.heap.size W W' → cn7R Q0 g1 m c1 g2 c2 p1 p2 i v W' := by
  iterate 9 (refine all_succ ?_ ?_)
  · exact all_zero
  · exact fun _ _ _ h _ => h
  · exact fun _ _ _ h _ => h
  · exact fun _ _ _ h _ => h
  · exact fun _ _ _ h _ => h
  · exact fun _ _ _ h _ => h
  · exact fun _ _ _ h _ => h
  · exact fun _ _ _ h _ => h
  · exact fun _ _ _ h _ => h
  · exact fun _ _ _ h _ => h
set_option maxRecDepth 100000 in
set_option maxHeartbeats 8000000 in
theorem cn7_region {S : World → Prop} (hon : ∀ W W', S W → Below W.heap.size W W' → S W') {Q0 g1 m c1 g2 c2 : Nat} {p1 p2 : Int} {lo : Nat} (hQ : ∀ W, S W → Blk W Q0 107 #[.slice none 0 0]) (he : ∀ W, (binOp .eql 107 (.slice none 0 0) (.slice none 0 0)).run Try.prog W = .ok (.bool true) W) {Q : Exit → Act → World → Prop} {s0 s1 s2 s3 s4 s5 s6 s7 s10 s11 s12 s13 s14 s15 s16 s17 s18 s19 s20 s21 s22 s23 s33 s34 s35 s36 s37 s38 s39 s24 s25 s26 s27 s28 s29 s30 s31 s32 : Value} {W0 : World} (HL : Hid (S W0))
    (HQ : Hid (∀ (u : Nat → Value) (W : World), S W → Q .normal ⟨#[s0, s1, s2, s3, s4, s5, s6, s7, .pointer (some ⟨Q0, 0, none⟩), .slice (some ⟨g2, 0, none⟩) m c2, s10, s11, s12, s13, s14, s15, s16, s17, s18, s19, s20, s21, s22, s23, u 0, u 1, u 2, u 3, u 4, u 5, u 6, u 7, .bool true, s33, s34, s35, s36, s37, s38, s39], []⟩ W)) :
    Code.wpIn (Fence.wide.inRound lo) 10 Try.prog ((Try.f29.body.bind (regionAt2 7)).getD .skip) Q ⟨#[s0, s1, s2, s3, s4, s5, s6, s7, .pointer (some ⟨Q0, 0, none⟩), .slice (some ⟨g2, 0, none⟩) m c2, s10, s11, s12, s13, s14, s15, s16, s17, s18, s19, s20, s21, s22, s23, s24, s25, s26, s27, s28, s29, s30, s31, s32, s33, s34, s35, s36, s37, s38, s39], []⟩ W0 := by
  conv => arg 4; whnf
  refine wpIn_region_spec (by kernel_rfl) 9 (by kernel_rfl) (fun u => ⟨#[s0, s1, s2, s3, s4, s5, s6, s7, .pointer (some ⟨Q0, 0, none⟩), .slice (some ⟨g2, 0, none⟩) m c2, s10, s11, s12, s13, s14, s15, s16, s17, s18, s19, s20, s21, s22, s23, u 0, u 1, u 2, u 3, u 4, u 5, u 6, u 7, u 8, s33, s34, s35, s36, s37, s38, s39], []⟩) (fun i => if i = 0 then s24 else if i = 1 then s25 else if i = 2 then s26 else if i = 3 then s27 else if i = 4 then s28 else if i = 5 then s29 else if i = 6 then s30 else if i = 7 then s31 else if i = 8 then s32 else undef) (fun W => Hid (S W)) (cn7R Q0 g1 m c1 g2 c2 p1 p2) (by kernel_rfl) (hon _ _ HL.out (Below.refl _ _).drew) (fun i v W W2 hi h hb => cn7R_on Q0 g1 m c1 g2 c2 p1 p2 i hi v W W2 h hb) (by decide +kernel) ?_ ?_
  · iterate 9 (refine all_succ ?_ ?_)
    · exact all_zero
    · intro u W hB _ hd _ K hK
      have HK := Lib.hid hK; clear hK
      refine wpOpI_of (fun _ => trivial) rfl (by rfl) ?_
      have z0 := (hQ W hB.out).cell 0
      go_simp
      exact k_of (HK.out (.slice none 0 0) _ rfl hB (Below.refl _ _)) (by kernel_rfl)
    · intro u W hB _ hd _ K hK
      have HK := Lib.hid hK; clear hK
      have e0 : u 0 = .slice none 0 0 := hd 0 (by decide +kernel)
      refine wpOpI_of (fun _ => trivial) rfl (by rfl) ?_
      have hq := he W
      go_simp
      exact k_of (HK.out (.bool true) _ rfl hB (Below.refl _ _)) (by rw [← u1_eq e0]; kernel_rfl)
    · intro u W hB _ hd _ K hK
      have HK := Lib.hid hK; clear hK
      have e1 : u 1 = .bool true := hd 1 (by decide +kernel)
      refine wpOpI_of (fun _ => trivial) rfl (by rfl) ?_
      go_simp
      exact k_of (HK.out (.bool true) _ rfl hB (Below.refl _ _)) (by rw [← u1_eq e1]; kernel_rfl)
    · intro u W hB _ hd _ K hK
      have HK := Lib.hid hK; clear hK
      have e2 : u 2 = .bool true := hd 2 (by decide +kernel)
      refine wpOpI_skip (fun _ => trivial) rfl (by rw [← u1_eq e2]; kernel_rfl) ?_
      exact k_of (HK.out undef _ rfl hB (Below.refl _ _)) (by rw [← u1_eq e2]; kernel_rfl)
    · intro u W hB _ hd _ K hK
      have HK := Lib.hid hK; clear hK
      have e2 : u 2 = .bool true := hd 2 (by decide +kernel)
      refine wpOpI_skip (fun _ => trivial) rfl (by rw [← u1_eq e2]; kernel_rfl) ?_
      exact k_of (HK.out undef _ rfl hB (Below.refl _ _)) (by rw [← u1_eq e2]; kernel_rfl)
    · intro u W hB _ hd _ K hK
      have HK := Lib.hid hK; clear hK
      have e2 : u 2 = .bool true := hd 2 (by decide +kernel)
      refine wpOpI_skip (fun _ => trivial) rfl (by rw [← u1_eq e2]; kernel_rfl) ?_
      exact k_of (HK.out undef _ rfl hB (Below.refl _ _)) (by rw [← u1_eq e2]; kernel_rfl)
    · intro u W hB _ hd _ K hK
      have HK := Lib.hid hK; clear hK
      have e2 : u 2 = .bool true := hd 2 (by decide +kernel)
      refine wpOpI_skip (fun _ => trivial) rfl (by rw [← u1_eq e2]; kernel_rfl) ?_
      exact k_of (HK.out undef _ rfl hB (Below.refl _ _)) (by rw [← u1_eq e2]; kernel_rfl)
    · intro u W hB _ hd _ K hK
      have HK := Lib.hid hK; clear hK
      have e2 : u 2 = .bool true := hd 2 (by decide +kernel)
      refine wpOpI_skip (fun _ => trivial) rfl (by rw [← u1_eq e2]; kernel_rfl) ?_
      exact k_of (HK.out undef _ rfl hB (Below.refl _ _)) (by rw [← u1_eq e2]; kernel_rfl)
    · intro u W hB _ hd _ K hK
      have HK := Lib.hid hK; clear hK
      have e2 : u 2 = .bool true := hd 2 (by decide +kernel)
      have e7 : u 7 = undef := hd 7 (by decide +kernel)
      refine wpOpI_of (fun _ => trivial) rfl (by rfl) ?_
      go_simp
      exact k_of (HK.out (.bool true) _ rfl hB (Below.refl _ _)) (by rw [← u1_eq e2, ← u1_eq e7]; kernel_rfl)
  · intro u W hB hd
    have e8 : u 8 = .bool true := hd 8 (by decide)
    exact k_of (HQ.out u W hB.out) (by simp only [e8])

/-- What each operation leaves. -/
def cs7R (_Q0 g1 m c1 g2 c2 : Nat) (p1 p2 : Int) : Nat → Value → World → Prop
  | 0, v, _ => v = .slice (some ⟨g1, 0, none⟩) m c1
  | 1, v, _ => v = .bool false
  | 2, v, _ => v = .bool false
  | 3, v, _ => v = .slice (some ⟨g2, 0, none⟩) m c2
  | 4, v, _ => v = .int .i64 p2
  | 5, v, _ => v = .slice (some ⟨g1, 0, none⟩) m c1
  | 6, v, _ => v = .int .i64 p1
  | 7, v, _ => v = .bool (decide (p2 < p1))
  | 8, v, _ => v = .bool (decide (p2 < p1))
  | _, _, _ => True
theorem cs7R_on (Q0 g1 m c1 g2 c2 : Nat) (p1 p2 : Int) : ∀ i, i < 9 → ∀ v W W', cs7R Q0 g1 m c1 g2 c2 p1 p2 i v W → Below W.heap.size W W' → cs7R Q0 g1 m c1 g2 c2 p1 p2 i v W' := by
  iterate 9 (refine all_succ ?_ ?_)
  · exact all_zero
  · exact fun _ _ _ h _ => h
  · exact fun _ _ _ h _ => h
  · exact fun _ _ _ h _ => h
  · exact fun _ _ _ h _ => h
  · exact fun _ _ _ h _ => h
  · exact fun _ _ _ h _ => h
  · exact fun _ _ _ h _ => h
  · exact fun _ _ _ h _ => h
  · exact fun _ _ _ h _ => h
set_option maxRecDepth 100000 in
set_option maxHeartbeats 8000000 in
theorem cs7_region {S : World → Prop} (hon : ∀ W W', S W → Below W.heap.size W W' → S W') {Q0 g1 m c1 g2 c2 : Nat} {p1 p2 : Int} {lo : Nat} (hQ : ∀ W, S W → Blk W Q0 107 #[.slice (some ⟨g1, 0, none⟩) m c1]) (he : ∀ W, (binOp .eql 107 (.slice (some ⟨g1, 0, none⟩) m c1) (.slice none 0 0)).run Try.prog W = .ok (.bool false) W) (HC4 : Hid (∀ (W : World), S W → Calls Try.prog 72 #[.slice (some ⟨g2, 0, none⟩) m c2] W fun e w' => e = .returned (.int .i64 p2) ∧ Below W.heap.size W w')) (HC6 : Hid (∀ (W : World), S W → Calls Try.prog 72 #[.slice (some ⟨g1, 0, none⟩) m c1] W fun e w' => e = .returned (.int .i64 p1) ∧ Below W.heap.size W w')) {Q : Exit → Act → World → Prop} {s0 s1 s2 s3 s4 s5 s6 s7 s10 s11 s12 s13 s14 s15 s16 s17 s18 s19 s20 s21 s22 s23 s33 s34 s35 s36 s37 s38 s39 s24 s25 s26 s27 s28 s29 s30 s31 s32 : Value} {W0 : World} (HL : Hid (S W0))
    (HQ : Hid (∀ (u : Nat → Value) (W : World), S W → Q .normal ⟨#[s0, s1, s2, s3, s4, s5, s6, s7, .pointer (some ⟨Q0, 0, none⟩), .slice (some ⟨g2, 0, none⟩) m c2, s10, s11, s12, s13, s14, s15, s16, s17, s18, s19, s20, s21, s22, s23, u 0, u 1, u 2, u 3, u 4, u 5, u 6, u 7, .bool (decide (p2 < p1)), s33, s34, s35, s36, s37, s38, s39], []⟩ W)) :
    Code.wpIn (Fence.wide.inRound lo) 10 Try.prog ((Try.f29.body.bind (regionAt2 7)).getD .skip) Q ⟨#[s0, s1, s2, s3, s4, s5, s6, s7, .pointer (some ⟨Q0, 0, none⟩), .slice (some ⟨g2, 0, none⟩) m c2, s10, s11, s12, s13, s14, s15, s16, s17, s18, s19, s20, s21, s22, s23, s24, s25, s26, s27, s28, s29, s30, s31, s32, s33, s34, s35, s36, s37, s38, s39], []⟩ W0 := by
  conv => arg 4; whnf
  refine wpIn_region_spec (by kernel_rfl) 9 (by kernel_rfl) (fun u => ⟨#[s0, s1, s2, s3, s4, s5, s6, s7, .pointer (some ⟨Q0, 0, none⟩), .slice (some ⟨g2, 0, none⟩) m c2, s10, s11, s12, s13, s14, s15, s16, s17, s18, s19, s20, s21, s22, s23, u 0, u 1, u 2, u 3, u 4, u 5, u 6, u 7, u 8, s33, s34, s35, s36, s37, s38, s39], []⟩) (fun i => if i = 0 then s24 else if i = 1 then s25 else if i = 2 then s26 else if i = 3 then s27 else if i = 4 then s28 else if i = 5 then s29 else if i = 6 then s30 else if i = 7 then s31 else if i = 8 then s32 else undef) (fun W => Hid (S W)) (cs7R Q0 g1 m c1 g2 c2 p1 p2) (by kernel_rfl) (hon _ _ HL.out (Below.refl _ _).drew) (fun i v W W2 hi h hb => cs7R_on Q0 g1 m c1 g2 c2 p1 p2 i hi v W W2 h hb) (by decide +kernel) ?_ ?_
  · iterate 9 (refine all_succ ?_ ?_)
    · exact all_zero
    · intro u W hB _ hd _ K hK
      have HK := Lib.hid hK; clear hK
      refine wpOpI_of (fun _ => trivial) rfl (by rfl) ?_
      have z0 := (hQ W hB.out).cell 0
      go_simp
      exact k_of (HK.out (.slice (some ⟨g1, 0, none⟩) m c1) _ rfl hB (Below.refl _ _)) (by kernel_rfl)
    · intro u W hB _ hd _ K hK
      have HK := Lib.hid hK; clear hK
      have e0 : u 0 = .slice (some ⟨g1, 0, none⟩) m c1 := hd 0 (by decide +kernel)
      refine wpOpI_of (fun _ => trivial) rfl (by rfl) ?_
      have hq := he W
      go_simp
      exact k_of (HK.out (.bool false) _ rfl hB (Below.refl _ _)) (by rw [← u1_eq e0]; kernel_rfl)
    · intro u W hB _ hd _ K hK
      have HK := Lib.hid hK; clear hK
      have e1 : u 1 = .bool false := hd 1 (by decide +kernel)
      refine wpOpI_of (fun _ => trivial) rfl (by rfl) ?_
      go_simp
      exact k_of (HK.out (.bool false) _ rfl hB (Below.refl _ _)) (by rw [← u1_eq e1]; kernel_rfl)
    · intro u W hB _ hd _ K hK
      have HK := Lib.hid hK; clear hK
      have e2 : u 2 = .bool false := hd 2 (by decide +kernel)
      refine wpOpI_of (fun _ => trivial) rfl (by rw [← u1_eq e2]; kernel_rfl) ?_
      go_simp
      exact k_of (HK.out (.slice (some ⟨g2, 0, none⟩) m c2) _ rfl hB (Below.refl _ _)) (by rw [← u1_eq e2]; kernel_rfl)
    · intro u W hB _ hd _ K hK
      have HK := Lib.hid hK; clear hK
      have e2 : u 2 = .bool false := hd 2 (by decide +kernel)
      have e3 : u 3 = .slice (some ⟨g2, 0, none⟩) m c2 := hd 3 (by decide +kernel)
      refine wpOpI_of (fun _ => trivial) rfl (by rw [← u1_eq e2]; kernel_rfl) ?_
      go_simp
      refine CallsIn.mono (callsIn_round (HC4.out W hB.out)) ?_
      rintro e w' ⟨rfl, hb⟩
      exact k_of (HK.out (.int .i64 p2) _ rfl (hon _ _ hB.out hb) hb) (by rw [← u1_eq e2, ← u1_eq e3]; kernel_rfl)
    · intro u W hB _ hd _ K hK
      have HK := Lib.hid hK; clear hK
      have e2 : u 2 = .bool false := hd 2 (by decide +kernel)
      refine wpOpI_of (fun _ => trivial) rfl (by rw [← u1_eq e2]; kernel_rfl) ?_
      have z0 := (hQ W hB.out).cell 0
      go_simp
      exact k_of (HK.out (.slice (some ⟨g1, 0, none⟩) m c1) _ rfl hB (Below.refl _ _)) (by rw [← u1_eq e2]; kernel_rfl)
    · intro u W hB _ hd _ K hK
      have HK := Lib.hid hK; clear hK
      have e2 : u 2 = .bool false := hd 2 (by decide +kernel)
      have e5 : u 5 = .slice (some ⟨g1, 0, none⟩) m c1 := hd 5 (by decide +kernel)
      refine wpOpI_of (fun _ => trivial) rfl (by rw [← u1_eq e2]; kernel_rfl) ?_
      go_simp
      refine CallsIn.mono (callsIn_round (HC6.out W hB.out)) ?_
      rintro e w' ⟨rfl, hb⟩
      exact k_of (HK.out (.int .i64 p1) _ rfl (hon _ _ hB.out hb) hb) (by rw [← u1_eq e2, ← u1_eq e5]; kernel_rfl)
    · intro u W hB _ hd _ K hK
      have HK := Lib.hid hK; clear hK
      have e2 : u 2 = .bool false := hd 2 (by decide +kernel)
      have e4 : u 4 = .int .i64 p2 := hd 4 (by decide +kernel)
      have e6 : u 6 = .int .i64 p1 := hd 6 (by decide +kernel)
      refine wpOpI_of (fun _ => trivial) rfl (by rw [← u1_eq e2]; kernel_rfl) ?_
      go_simp
      exact k_of (HK.out (.bool (decide (p2 < p1))) _ rfl hB (Below.refl _ _)) (by rw [← u1_eq e2, ← u1_eq e4, ← u1_eq e6]; kernel_rfl)
    · intro u W hB _ hd _ K hK
      have HK := Lib.hid hK; clear hK
      have e2 : u 2 = .bool false := hd 2 (by decide +kernel)
      have e7 : u 7 = .bool (decide (p2 < p1)) := hd 7 (by decide +kernel)
      refine wpOpI_of (fun _ => trivial) rfl (by rfl) ?_
      go_simp
      exact k_of (HK.out (.bool (decide (p2 < p1))) _ rfl hB (Below.refl _ _)) (by rw [← u1_eq e2, ← u1_eq e7]; kernel_rfl)
  · intro u W hB hd
    have e8 : u 8 = .bool (decide (p2 < p1)) := hd 8 (by decide)
    exact k_of (HQ.out u W hB.out) (by simp only [e8])

/-- What each operation leaves. -/
def ch11R (_Q0 g1 m c1 T : Nat) (p1 : Int) (r : List Int) : Nat → Value → World → Prop
  | 0, v, _ => v = .slice (some ⟨g1, 0, none⟩) m c1
  | 1, v, W => ∃ Ar_1 cr_1, v = .slice Ar_1 m cr_1 ∧ IntsOut T W (.slice Ar_1 m cr_1) r
  | 2, v, _ => v = .slice (some ⟨g1, 0, none⟩) m c1
  | 3, v, _ => v = .int .i64 p1
  | 4, v, W => ∃ Ar_1 cr_1, v = .slice Ar_1 m cr_1 ∧ IntsOut T W (.slice Ar_1 m cr_1) r
  | 5, v, _ => v = .int .i64 p1
  | 6, v, _ => v = .int .i64 0
  | _, _, _ => True
theorem ch11R_on (Q0 g1 m c1 T : Nat) (p1 : Int) (r : List Int) : ∀ i, i < 7 → ∀ v W W', ch11R Q0 g1 m c1 T p1 r i v W → Below W.heap.size W W' → ch11R Q0 g1 m c1 T p1 r i v W' := by
  iterate 7 (refine all_succ ?_ ?_)
  · exact all_zero
  · exact fun _ _ _ h _ => h
  · rintro v W W' ⟨Ar_1, cr_1, e, h0⟩ hb; exact ⟨Ar_1, cr_1, e, own_below h0 hb⟩
  · exact fun _ _ _ h _ => h
  · exact fun _ _ _ h _ => h
  · rintro v W W' ⟨Ar_1, cr_1, e, h0⟩ hb; exact ⟨Ar_1, cr_1, e, own_below h0 hb⟩
  · exact fun _ _ _ h _ => h
  · exact fun _ _ _ h _ => h
set_option maxRecDepth 100000 in
set_option maxHeartbeats 8000000 in
theorem ch11_region {ds : List Deferred} {S : World → Prop} (hon : ∀ W W', S W → Below W.heap.size W W' → S W') {Q0 g1 m c1 T : Nat} {p1 : Int} {r : List Int} (hQ : ∀ W, S W → Blk W Q0 107 #[.slice (some ⟨g1, 0, none⟩) m c1]) (HC1 : Hid (∀ (W : World), S W → Calls Try.prog 73 #[.slice (some ⟨g1, 0, none⟩) m c1] W fun e w' => ∃ (Ar : Option Addr) (cr : Nat), e = .returned (.slice Ar m cr) ∧ IntsOut T w' (.slice Ar m cr) r ∧ Below W.heap.size W w')) (HC3 : Hid (∀ (W : World), S W → Calls Try.prog 72 #[.slice (some ⟨g1, 0, none⟩) m c1] W fun e w' => e = .returned (.int .i64 p1) ∧ Below W.heap.size W w')) {Q : Exit → Act → World → Prop} {s0 s1 s2 s3 s7 s9 s10 s11 s12 s13 s14 s15 s16 s17 s18 s19 s20 s21 s22 s23 s24 s25 s26 s27 s28 s29 s30 s31 s32 s33 s34 s35 : Value} {W0 : World} (HL : Hid (S W0))
    (HQ : Hid (∀ (u : Nat → Value) (Ar_4 : Option Addr) (cr_4 : Nat) (W : World), IntsOut T W (.slice Ar_4 m cr_4) r → S W → Q .normal ⟨#[s0, s1, s2, s3, .slice Ar_4 m cr_4, .int .i64 p1, .int .i64 0, s7, .pointer (some ⟨Q0, 0, none⟩), s9, s10, s11, s12, s13, s14, s15, s16, s17, s18, s19, s20, s21, s22, s23, s24, s25, s26, s27, s28, s29, s30, s31, s32, s33, s34, s35, u 0, u 1, u 2, u 3], ds⟩ W)) :
    Code.wp Try.prog ((Try.f29.body.bind (regionAt 11)).getD .skip) Q ⟨#[s0, s1, s2, s3, .slice none 0 0, .int .i64 0, .int .i64 0, s7, .pointer (some ⟨Q0, 0, none⟩), s9, s10, s11, s12, s13, s14, s15, s16, s17, s18, s19, s20, s21, s22, s23, s24, s25, s26, s27, s28, s29, s30, s31, s32, s33, s34, s35, undef, undef, undef, undef], ds⟩ W0 := by
  conv => arg 2; whnf
  refine wp_region_spec (by kernel_rfl) 7 (by kernel_rfl) (fun u => ⟨#[s0, s1, s2, s3, u 4, u 5, u 6, s7, .pointer (some ⟨Q0, 0, none⟩), s9, s10, s11, s12, s13, s14, s15, s16, s17, s18, s19, s20, s21, s22, s23, s24, s25, s26, s27, s28, s29, s30, s31, s32, s33, s34, s35, u 0, u 1, u 2, u 3], ds⟩) (fun i => if i = 4 then .slice none 0 0 else if i = 5 then .int .i64 0 else if i = 6 then .int .i64 0 else undef) (fun W => Hid (S W)) (ch11R Q0 g1 m c1 T p1 r) (by kernel_rfl) (hon _ _ HL.out (Below.refl _ _).drew) (fun i v W W2 hi h hb => ch11R_on Q0 g1 m c1 T p1 r i hi v W W2 h hb) (by decide +kernel) ?_ ?_
  · iterate 7 (refine all_succ ?_ ?_)
    · exact all_zero
    · intro u W hB _ hd _ K hK
      have HK := Lib.hid hK; clear hK
      refine wpOp_of rfl (by rfl) ?_
      have z0 := (hQ W hB.out).cell 0
      go_simp
      exact k_of (HK.out (.slice (some ⟨g1, 0, none⟩) m c1) _ rfl hB (Below.refl _ _)) (by kernel_rfl)
    · intro u W hB _ hd _ K hK
      have HK := Lib.hid hK; clear hK
      have e0 : u 0 = .slice (some ⟨g1, 0, none⟩) m c1 := hd 0 (by decide +kernel)
      refine wpOp_of rfl (by rfl) ?_
      go_simp
      refine (HC1.out W hB.out).mono ?_
      rintro e w' ⟨Ar, cr, rfl, hp, hb⟩
      exact k_of (HK.out (.slice Ar m cr) _ ⟨Ar, cr, rfl, hp⟩ (hon _ _ hB.out hb) hb) (by rw [← u1_eq e0]; kernel_rfl)
    · intro u W hB _ hd _ K hK
      have HK := Lib.hid hK; clear hK
      refine wpOp_of rfl (by rfl) ?_
      have z0 := (hQ W hB.out).cell 0
      go_simp
      exact k_of (HK.out (.slice (some ⟨g1, 0, none⟩) m c1) _ rfl hB (Below.refl _ _)) (by kernel_rfl)
    · intro u W hB _ hd _ K hK
      have HK := Lib.hid hK; clear hK
      have e2 : u 2 = .slice (some ⟨g1, 0, none⟩) m c1 := hd 2 (by decide +kernel)
      refine wpOp_of rfl (by rfl) ?_
      go_simp
      refine (HC3.out W hB.out).mono ?_
      rintro e w' ⟨rfl, hb⟩
      exact k_of (HK.out (.int .i64 p1) _ rfl (hon _ _ hB.out hb) hb) (by rw [← u1_eq e2]; kernel_rfl)
    · intro u W hB _ hd _ K hK
      have HK := Lib.hid hK; clear hK
      obtain ⟨Ar_1, cr_1, e1, f1_0⟩ : ch11R Q0 g1 m c1 T p1 r 1 (u 1) W := hd 1 (by decide +kernel)
      refine wpOp_of rfl (by rfl) ?_
      go_simp
      exact k_of (HK.out (.slice Ar_1 m cr_1) _ ⟨Ar_1, cr_1, rfl, f1_0⟩ hB (Below.refl _ _)) (by rw [← u1_eq e1]; kernel_rfl)
    · intro u W hB _ hd _ K hK
      have HK := Lib.hid hK; clear hK
      have e3 : u 3 = .int .i64 p1 := hd 3 (by decide +kernel)
      refine wpOp_of rfl (by rfl) ?_
      go_simp
      exact k_of (HK.out (.int .i64 p1) _ rfl hB (Below.refl _ _)) (by rw [← u1_eq e3]; kernel_rfl)
    · intro u W hB _ hd _ K hK
      have HK := Lib.hid hK; clear hK
      refine wpOp_of rfl (by rfl) ?_
      go_simp
      exact k_of (HK.out (.int .i64 0) _ rfl hB (Below.refl _ _)) (by kernel_rfl)
  · intro u W hB hd
    obtain ⟨Ar_4, cr_4, e4, f4_0⟩ : ch11R Q0 g1 m c1 T p1 r 4 (u 4) W := hd 4 (by decide)
    have e5 : u 5 = .int .i64 p1 := hd 5 (by decide)
    have e6 : u 6 = .int .i64 0 := hd 6 (by decide)
    exact k_of (HQ.out u Ar_4 cr_4 W f4_0 hB.out) (by simp only [e4, e5, e6])
end Go.Proofs.Ytalghiecjhfflaa

namespace Go.Proofs.Ytalghiecjhfflaa
open Go.RowKit Go.Shelf Go.Maps
attribute [local go_sem] Oper.semAt_some


/-- What a recipe costs. -/
def prV (l : List Bw) (r : List Int) : Int := (figR l r).c
def stepB (l : List Bw) (best : Option (List Int)) (r : List Int) : Option (List Int) := match best with
  | none => some r
  | some q => if prV l r < prV l q then some r else some q
/-- The first cheapest one of some recipes. -/
def bestR (l : List Bw) (rs : List (List Int)) : Option (List Int) := rs.foldl (stepB l) none
theorem bestR_snoc (l : List Bw) (rs : List (List Int)) (r : List Int) : bestR l (rs ++ [r]) = stepB l (bestR l rs) r := by simp [bestR]
theorem stepB_mem {l : List Bw} {q : Option (List Int)} {r s : List Int} (h : stepB l q r = some s) : s = r ∨ q = some s := by
  unfold stepB at h
  split at h
  · exact .inl (Option.some.inj h).symm
  · split at h
    · exact .inl (Option.some.inj h).symm
    · exact .inr h
theorem fold_mem {l : List Bw} : ∀ {rs : List (List Int)} {q : Option (List Int)} {s : List Int}, rs.foldl (stepB l) q = some s → s ∈ rs ∨ q = some s
  | [], q, s, h => .inr h
  | r :: rs, q, s, h => by
    rw [List.foldl_cons] at h
    rcases fold_mem h with h1 | h1
    · exact .inl (List.mem_cons_of_mem _ h1)
    · rcases stepB_mem h1 with h2 | h2
      · exact .inl (by rw [h2]; exact List.mem_cons_self)
      · exact .inr h2
theorem bestR_mem {l : List Bw} {rs : List (List Int)} {s : List Int} (h : bestR l rs = some s) : s ∈ rs := by
  rcases fold_mem h with h1 | h1
  · exact h1
  · cases h1
def cheapV (l : List Bw) (x : Ws) : List Int × Int × Int := if orE [bdE l, wishE l.length x] ≠ 0 then ([], 0, orE [bdE l, wishE l.length x]) else match bestR l (fitL l x) with
  | none => ([], 0, 9)
  | some r => (r, prV l r, 0)
theorem cheapV_none {l : List Bw} {x : Ws} (hz : orE [bdE l, wishE l.length x] = 0) (h : bestR l (fitL l x) = none) : cheapV l x = ([], 0, 9) := by
  unfold cheapV; rw [if_neg (by simpa using hz), h]
theorem cheapV_some {l : List Bw} {x : Ws} {r : List Int} (hz : orE [bdE l, wishE l.length x] = 0) (h : bestR l (fitL l x) = some r) : cheapV l x = (r, prV l r, 0) := by
  unfold cheapV; rw [if_neg (by simpa using hz), h]
/-- What the variable best holds. -/
def BestAt (b o : Nat) (l : List Bw) (T Q : Nat) (q : Option (List Int)) (X : World) : Prop := match q with
  | none => Blk X Q 107 #[.slice none 0 0]
  | some r => ∃ g c, Blk X Q 107 #[.slice (some ⟨g, 0, none⟩) l.length c] ∧ PosOut T X (.slice (some ⟨g, 0, none⟩) l.length c) (mixL b o l r)
theorem BestAt.out {b o T Q B K : Nat} {l : List Bw} {q : Option (List Int)} {X Y : World} (h : BestAt b o l T Q q X) (ho : Outside B K X Y) (hQ : Q < B) (hT : B + K ≤ T) : BestAt b o l T Q q Y := by
  unfold BestAt at h ⊢
  cases q with
  | none => exact (ho.block _ h.lt (.inl hQ)).trans h
  | some r =>
    obtain ⟨g, c, h1, h2⟩ := h
    exact ⟨g, c, (ho.block _ h1.lt (.inl hQ)).trans h1, h2.outside ho hT⟩
theorem BestAt.on {b o T Q : Nat} {l : List Bw} {q : Option (List Int)} {X Y : World} (h : BestAt b o l T Q q X) (hb : Below X.heap.size X Y) : BestAt b o l T Q q Y := by
  unfold BestAt at h ⊢
  cases q with
  | none => exact h.on hb
  | some r =>
    obtain ⟨g, c, h1, h2⟩ := h
    exact ⟨g, c, h1.on hb, own_below h2 hb⟩
theorem PosOut.far {T Q : Nat} {X : World} {v : Value} {l : List Po} (h : PosOut T X v l) (hQ : Q < T) (u : Value) : PosOut T (X.setCell ⟨Q, 0, none⟩ u) v l := by
  obtain ⟨h1, h2⟩ := h
  refine ⟨h1, ?_⟩
  rcases h2 with h2 | ⟨g, cap, cur, hv, hg, hh, hr⟩
  · exact .inl h2
  · exact .inr ⟨g, cap, cur, hv, hg, (Below.heap_setCell X _ u g (by show g ≠ Q; omega)).trans hh, hr⟩
theorem zip_snd : ∀ {l : List Bw} {r : List Int}, r.length = l.length → List.zipWith (fun _ n => n) l r = r
  | [], [], _ => rfl
  | [], _ :: _, h => by simp at h
  | _ :: _, [], h => by simp at h
  | x :: l, n :: r, h => by simp [zip_snd (l := l) (r := r) (by simpa using h)]
theorem below_put {n D : Nat} {w X : World} (h : Below n w X) (hD : n ≤ D) (hn : n ≤ X.heap.size) (o : Obj) : Below n w (X.putObj D o) := h.grown (grownBy_putObj' X D o) hn (fun k e => by cases e; exact hD)
/-- Between two rounds of Cheapest. -/
structure ChI (w : World) (b o : Nat) (l : List Bw) (x : Ws) (T Q : Nat) (pre : List Rq) (X : World) : Prop where
  best : BestAt b o l T Q (bestR l (pre.map (·.1))) X
  mem : ∀ y ∈ pre, y.1 ∈ fitL l x
  b : Below w.heap.size w X
end Go.Proofs.Ytalghiecjhfflaa

namespace Go.Proofs.Ytalghiecjhfflaa
open Go.RowKit Go.Shelf Go.Maps
attribute [local go_sem] Oper.semAt_some


set_option maxRecDepth 100000 in
set_option maxHeartbeats 8000000 in
theorem cheap_ok {w : World} {A : Option Addr} {c : Nat} {l : List Bw} {q : Wm} (h : BwsIn w A l) (hc : l.length ≤ c) (hs : SpansIn w q.pa q.w.ps) (hz : orE [bdE l, wishE l.length q.w] = 0) :
    Calls Try.prog 29 #[.slice A l.length c, .agg #[.slice q.pa q.w.ps.length q.pc, .int .i64 q.w.mlo, .int .i64 q.w.mhi, .int .i64 q.w.slo, .int .i64 q.w.shi]] w fun e w' => ∃ v, e = .returned (.tuple #[v, .int .i64 (cheapV l q.w).2.1, .int .i64 (cheapV l q.w).2.2]) ∧ IntsOut w.heap.size w' v (cheapV l q.w).1 ∧ Below w.heap.size w w' := by
  have HE1 := Lib.hid (fun (W : World) (hb : Below w.heap.size w W) => waxes_any (h.on hb) hc)
  have HE2 := Lib.hid (fun (W : World) (hb : Below w.heap.size w W) => wishE_any (A0 := A) (c0 := c) (pc := q.pc) (m := l.length) (x := q.w) (hs.on hb))
  have hb0 := (Bx.nil w).alloc #[.slice q.pa q.w.ps.length q.pc, .int .i64 q.w.mlo, .int .i64 q.w.mhi, .int .i64 q.w.slo, .int .i64 q.w.shi] 46
  have HB := Lib.hid hb0
  have hok := bd_ok (orE_zero.1 hz (bdE l) (by simp))
  have hwk := wish_ok.1 (orE_zero.1 hz (wishE l.length q.w) (by simp))
  obtain ⟨b, o, rfl⟩ := h.addr hok.1.1
  have HZ := Lib.hid hz
  have HI := Lib.hid h
  have HFS := Lib.hid (fun (w0 : World) (Pw Pl : Nat) (hb0 : Below w.heap.size w w0) (hbw : Blk w0 Pw 46 #[.slice q.pa q.w.ps.length q.pc, .int .i64 q.w.mlo, .int .i64 q.w.mhi, .int .i64 q.w.slo, .int .i64 q.w.shi]) (hbl : Blk w0 Pl 22 #[.slice (some ⟨b, o, none⟩) l.length c]) => fit_seq h hok.2 hok.1 hs hwk hb0 hbw hbl)
  have HPR := Lib.hid (fun (W : World) (g cc : Nat) (r : List Int) (hp : PosIn W (some ⟨g, 0, none⟩) (mixL b o l r)) (hr : RcOk l.length r) => price_any (c := cc) hp hok.2 hok.1.2 hr)
  have HWK := Lib.hid hwk
  have hl5 := hok.1.2
  clear h hs hz hb0 hok hwk
  refine (callsIn_wide (n := 10)).1 ?_
  refine callsIn_of_wp_marks Try.func29 rfl trivial ?_ rfl
  simp only [Try.ntmps29, List.size_toArray, List.length_cons, List.length_nil, Nat.reduceAdd, Nat.reduceSub, Array.replicate_succ, Array.replicate_zero, List.push_toArray, List.append_toArray, List.nil_append, List.cons_append]
  gi_wp2_with fail
  refine wpIn_wide.2 (wp_of_eq (ch1_region (S := Bx w [(w.heap.size, 46, #[.slice q.pa q.w.ps.length q.pc, .int .i64 q.w.mlo, .int .i64 q.w.mhi, .int .i64 q.w.slo, .int .i64 q.w.shi])]) (fun _ _ h hb => h.on hb) (P := w.heap.size) (x1 := q.w.mlo) (x2 := q.w.mhi) (x3 := q.w.slo) (x4 := q.w.shi) (fun W h => h.get (by simp)) (Lib.hid fun W h => HE1.out W h.b) (Lib.hid fun W h => HE2.out W h.b) HB (Lib.hid fun u W1 hS => ?_)) (by kernel_rfl))
  rw [HZ.out]
  have HS1 := Lib.hid hS
  have p0 := (hS.get (g := w.heap.size) (T := 46) (cs := #[.slice q.pa q.w.ps.length q.pc, .int .i64 q.w.mlo, .int .i64 q.w.mhi, .int .i64 q.w.slo, .int .i64 q.w.shi]) (by simp)).cell 0
  have p1 := (hS.get (g := w.heap.size) (T := 46) (cs := #[.slice q.pa q.w.ps.length q.pc, .int .i64 q.w.mlo, .int .i64 q.w.mhi, .int .i64 q.w.slo, .int .i64 q.w.shi]) (by simp)).cell 1
  have p2 := (hS.get (g := w.heap.size) (T := 46) (cs := #[.slice q.pa q.w.ps.length q.pc, .int .i64 q.w.mlo, .int .i64 q.w.mhi, .int .i64 q.w.slo, .int .i64 q.w.shi]) (by simp)).cell 2
  have p3 := (hS.get (g := w.heap.size) (T := 46) (cs := #[.slice q.pa q.w.ps.length q.pc, .int .i64 q.w.mlo, .int .i64 q.w.mhi, .int .i64 q.w.slo, .int .i64 q.w.shi]) (by simp)).cell 3
  have p4 := (hS.get (g := w.heap.size) (T := 46) (cs := #[.slice q.pa q.w.ps.length q.pc, .int .i64 q.w.mlo, .int .i64 q.w.mhi, .int .i64 q.w.slo, .int .i64 q.w.shi]) (by simp)).cell 4
  have pl := (hS.get (g := w.heap.size) (T := 46) (cs := #[.slice q.pa q.w.ps.length q.pc, .int .i64 q.w.mlo, .int .i64 q.w.mhi, .int .i64 q.w.slo, .int .i64 q.w.shi]) (by simp)).lt
  clear hS
  gi_wp2_with fail
  refine ⟨trivial, ?_⟩
  refine CallsIn.mono (callsIn_wide.2 (fitting_any _ _ _ _ _)) ?_
  rintro e w2 ⟨rfl, hw2⟩
  rw [hw2]
  clear hw2
  have hs2 : (((W1.alloc (.cells #[.slice none 0 0] 107)).alloc (.cells #[.slice (some ⟨b, o, none⟩) l.length c] 22)).alloc (.cells #[.slice q.pa q.w.ps.length q.pc, .int .i64 q.w.mlo, .int .i64 q.w.mhi, .int .i64 q.w.slo, .int .i64 q.w.shi] 46)).heap.size = W1.heap.size + 3 := by simp
  have hbW2 : Below w.heap.size w (((W1.alloc (.cells #[.slice none 0 0] 107)).alloc (.cells #[.slice (some ⟨b, o, none⟩) l.length c] 22)).alloc (.cells #[.slice q.pa q.w.ps.length q.pc, .int .i64 q.w.mlo, .int .i64 q.w.mhi, .int .i64 q.w.slo, .int .i64 q.w.shi] 46)) := by
    have := HS1.out.b.size
    exact ((HS1.out.b.alloc this _).alloc (by simp; omega) _).alloc (by simp; omega) _
  have hq2 : Blk (((W1.alloc (.cells #[.slice none 0 0] 107)).alloc (.cells #[.slice (some ⟨b, o, none⟩) l.length c] 22)).alloc (.cells #[.slice q.pa q.w.ps.length q.pc, .int .i64 q.w.mlo, .int .i64 q.w.mhi, .int .i64 q.w.slo, .int .i64 q.w.shi] 46)) W1.heap.size 107 #[.slice none 0 0] := ((Blk.new W1 _ _).alloc _).alloc _
  have hl2 : Blk (((W1.alloc (.cells #[.slice none 0 0] 107)).alloc (.cells #[.slice (some ⟨b, o, none⟩) l.length c] 22)).alloc (.cells #[.slice q.pa q.w.ps.length q.pc, .int .i64 q.w.mlo, .int .i64 q.w.mhi, .int .i64 q.w.slo, .int .i64 q.w.shi] 46)) (W1.heap.size + 1) 22 #[.slice (some ⟨b, o, none⟩) l.length c] := (Blk.at (by simp)).alloc _
  have hw2 : Blk (((W1.alloc (.cells #[.slice none 0 0] 107)).alloc (.cells #[.slice (some ⟨b, o, none⟩) l.length c] 22)).alloc (.cells #[.slice q.pa q.w.ps.length q.pc, .int .i64 q.w.mlo, .int .i64 q.w.mhi, .int .i64 q.w.slo, .int .i64 q.w.shi] 46)) (W1.heap.size + 1 + 1) 46 #[.slice q.pa q.w.ps.length q.pc, .int .i64 q.w.mlo, .int .i64 q.w.mhi, .int .i64 q.w.slo, .int .i64 q.w.shi] := Blk.at (by simp)
  have hws := HS1.out.b.size
  simp only [World.size_alloc]
  gi_wp2_with fail
  clear p0 p1 p2 p3 p4 pl
  generalize ((W1.alloc (.cells #[.slice none 0 0] 107)).alloc (.cells #[.slice (some ⟨b, o, none⟩) l.length c] 22)).alloc (.cells #[.slice q.pa q.w.ps.length q.pc, .int .i64 q.w.mlo, .int .i64 q.w.mhi, .int .i64 q.w.slo, .int .i64 q.w.shi] 46) = W2 at *
  have hFS := HFS.out W2 _ _ hbW2 hw2 hl2
  refine wpIn_rangeM (gf := 96) (lb := #[.pointer (some ⟨W1.heap.size + 1 + 1, 0, none⟩), .pointer (some ⟨W1.heap.size + 1, 0, none⟩)]) rfl (enters_of Try.func96 (by kernel_rfl) rfl) hFS hbW2.size (fun k hk => by omega) (Below.refl _ _) (fun _ => rfl)
    (fun pre X => ChI w b o l q.w (W2.heap.size + 2 + 8) W1.heap.size pre X) (fun _ _ _ => False) ?hI (fun _ _ _ _ h _ => h) ⟨hq2, fun y hy => (by cases hy), hbW2⟩ ?hM (fun x => ⟨#[.slice (some ⟨b, o, none⟩) l.length c, .agg #[.slice q.pa q.w.ps.length q.pc, .int .i64 q.w.mlo, .int .i64 q.w.mhi, .int .i64 q.w.slo, .int .i64 q.w.shi], undef, .pointer (some ⟨w.heap.size, 0, none⟩), .slice none 0 0, .int .i64 0, .int .i64 0, .int .i64 0, .pointer (some ⟨W1.heap.size, 0, none⟩), .slice (some ⟨x.2.1, 0, none⟩) x.1.length x.2.2, u 0, u 1, u 2, u 3, u 4, u 5, u 6, .int .i64 0, .bool false, undef, .slice (some ⟨b, o, none⟩) l.length c, .agg #[.slice q.pa q.w.ps.length q.pc, .int .i64 q.w.mlo, .int .i64 q.w.mhi, .int .i64 q.w.slo, .int .i64 q.w.shi], .func (.func 96) #[] #[.pointer (some ⟨W1.heap.size + 1 + 1, 0, none⟩), .pointer (some ⟨W1.heap.size + 1, 0, none⟩)], .slice (some ⟨x.2.1, 0, none⟩) x.1.length x.2.2, undef, undef, undef, undef, undef, undef, undef, undef, undef, undef, undef, undef, undef, undef, undef, undef], []⟩) ?assign ?body ?done ?stop
  case hI =>
    intro s X Y h1 ho
    exact ⟨h1.best.out ho (by omega) (by omega), h1.mem, h1.b.trans ⟨ho.os, ho.tape, ho.output, ho.size, fun k hk => ho.block k (Nat.lt_of_lt_of_le hk h1.b.size) (.inl (by have := hbW2.size; omega))⟩⟩
  case hM =>
    rintro x X Y ⟨h1, h2⟩ ho
    exact ⟨h1, h2.outside ho (by omega)⟩
  case assign =>
    intro lo x X N hN
    gi_wp2_with fail
    exact hN
  case body =>
    rintro lo pre x X hCI ⟨hm1, hm2⟩ hsz -
    have hxr : x.1 ∈ recN q.w.ps 20 := (List.mem_filter.1 hm1).1
    have hrc := rec_rc HWK.out hxr
    have hxp := (mix_in HI.out hCI.b hm2).2
    have hbe := hCI.best
    have HCI := Lib.hid hCI
    have HM1 := Lib.hid hm1
    have HM2 := Lib.hid hm2
    have HSZ := Lib.hid hsz
    have HXL := Lib.hid hrc.len
    have HP2 := Lib.hid (fun (V : World) (hb : Below X.heap.size X V) => HPR.out V x.2.1 x.2.2 x.1 (hxp.on hb) hrc)
    have hstep := bestR_snoc l (pre.map (·.1)) x.1
    have HMEM : Hid (∀ y ∈ pre ++ [x], y.1 ∈ fitL l q.w) := fun y hy => by
      rcases List.mem_append.1 hy with h1 | h1
      · exact HCI.out.mem y h1
      · rw [List.mem_singleton.1 h1]; exact HM1.out
    rw [HXL.out]
    have hbw := hbW2.size
    cases hbq : bestR l (pre.map (·.1)) with
    | none =>
      rw [hbq] at hbe hstep
      have hq3 : Blk X W1.heap.size 107 #[.slice none 0 0] := hbe
      have HQ3 := Lib.hid hq3
      have HST : Hid (bestR l ((pre ++ [x]).map (·.1)) = some x.1) := by show _ = _; rw [List.map_append]; exact hstep
      clear hCI hm1 hm2 hsz hrc hxp hbe hstep hbq hxr hq3 hq2 hl2 hw2 hFS
      gi_wp2_with fail
      refine wpIn_of_eq (cn7_region (S := fun V => Blk V W1.heap.size 107 #[.slice none 0 0] ∧ Below X.heap.size X V) (fun _ _ h hb => ⟨h.1.on hb, h.2.trans (hb.mono h.2.size)⟩) (Q0 := W1.heap.size) (g2 := x.2.1) (m := l.length) (c2 := x.2.2) (g1 := 0) (c1 := 0) (p1 := 0) (p2 := 0) (fun V h => h.1) (fun V => by kernel_rfl) (Lib.hid ⟨HQ3.out, Below.refl _ _⟩) (Lib.hid fun u2 V hV => ?_)) (by kernel_rfl)
      have v0 := hV.1.frozen 0; have v2 := hV.1.cell 0
      have v1 := hV.1.lt
      have HV := Lib.hid hV
      clear hV
      gi_wp2_with fail
      refine ⟨⟨((Below.refl w.heap.size X).trans (HV.out.2.mono HCI.out.b.size)).setCell (by show w.heap.size ≤ W1.heap.size; exact hws) _, fun k hk ho => ?_⟩, ?_, HMEM.out, (HCI.out.b.trans (HV.out.2.mono HCI.out.b.size)).setCell (by show w.heap.size ≤ W1.heap.size; exact hws) _⟩
      · exact (Below.heap_setCell V ⟨W1.heap.size, 0, none⟩ _ k (by show k ≠ W1.heap.size; omega)).trans (HV.out.2.block k hk)
      · show BestAt _ _ _ _ _ (bestR l ((pre ++ [x]).map (·.1))) _
        rw [HST.out]
        refine ⟨x.2.1, x.2.2, by have := HV.out.1.set_ 0 (.slice (some ⟨x.2.1, 0, none⟩) l.length x.2.2); simpa using this, ?_⟩
        have hp := own_below HM2.out HV.out.2
        unfold rqV at hp
        rw [HXL.out] at hp
        exact PosOut.far hp (by have := HSZ.out; omega) _
    | some r1 =>
      rw [hbq] at hbe hstep
      obtain ⟨g1, c1, hq3, hpo⟩ := (show ∃ g c, Blk X W1.heap.size 107 #[.slice (some ⟨g, 0, none⟩) l.length c] ∧ PosOut (W2.heap.size + 2 + 8) X (.slice (some ⟨g, 0, none⟩) l.length c) (mixL b o l r1) from hbe)
      have hr1 : RcOk l.length r1 := by
        obtain ⟨y, hy1, hy2⟩ := List.mem_map.1 (bestR_mem hbq)
        rw [← hy2]
        exact rec_rc HWK.out (List.mem_filter.1 (HCI.out.mem y hy1)).1
      have hp1 := (mix_in HI.out HCI.out.b hpo).2
      have HP1 := Lib.hid (fun (V : World) (hb : Below X.heap.size X V) => HPR.out V g1 c1 r1 (hp1.on hb) hr1)
      have HPO := Lib.hid hpo
      have HQ3 := Lib.hid hq3
      have hst : bestR l ((pre ++ [x]).map (·.1)) = if prV l x.1 < prV l r1 then some x.1 else some r1 := by rw [List.map_append]; exact hstep
      clear hCI hm1 hm2 hsz hrc hxp hbe hstep hbq hxr hq3 hq2 hl2 hw2 hFS hpo hr1 hp1
      by_cases hlt : prV l x.1 < prV l r1
      · rw [if_pos hlt] at hst
        have HST := Lib.hid hst
        have hld : decide (prV l x.1 < prV l r1) = true := decide_eq_true hlt
        clear hst hlt
        gi_wp2_with fail
        refine wpIn_of_eq (cs7_region (S := fun V => Blk V W1.heap.size 107 #[.slice (some ⟨g1, 0, none⟩) l.length c1] ∧ Below X.heap.size X V) (fun _ _ h hb => ⟨h.1.on hb, h.2.trans (hb.mono h.2.size)⟩) (Q0 := W1.heap.size) (g2 := x.2.1) (m := l.length) (c2 := x.2.2) (g1 := g1) (c1 := c1) (p1 := prV l r1) (p2 := prV l x.1) (fun V h => h.1) (fun V => by kernel_rfl) (Lib.hid fun V h => HP2.out V h.2) (Lib.hid fun V h => HP1.out V h.2) (Lib.hid ⟨HQ3.out, Below.refl _ _⟩) (Lib.hid fun u2 V hV => ?_)) (by kernel_rfl)
        rw [hld]
        have v0 := hV.1.frozen 0; have v2 := hV.1.cell 0
        have v1 := hV.1.lt
        have HV := Lib.hid hV
        clear hV
        gi_wp2_with fail
        refine ⟨⟨((Below.refl w.heap.size X).trans (HV.out.2.mono HCI.out.b.size)).setCell (by show w.heap.size ≤ W1.heap.size; exact hws) _, fun k hk ho => ?_⟩, ?_, HMEM.out, (HCI.out.b.trans (HV.out.2.mono HCI.out.b.size)).setCell (by show w.heap.size ≤ W1.heap.size; exact hws) _⟩
        · exact (Below.heap_setCell V ⟨W1.heap.size, 0, none⟩ _ k (by show k ≠ W1.heap.size; omega)).trans (HV.out.2.block k hk)
        · show BestAt _ _ _ _ _ (bestR l ((pre ++ [x]).map (·.1))) _
          rw [HST.out]
          refine ⟨x.2.1, x.2.2, by have := HV.out.1.set_ 0 (.slice (some ⟨x.2.1, 0, none⟩) l.length x.2.2); simpa using this, ?_⟩
          have hp := own_below HM2.out HV.out.2
          unfold rqV at hp
          rw [HXL.out] at hp
          exact PosOut.far hp (by have := HSZ.out; omega) _
      · rw [if_neg hlt] at hst
        have HST := Lib.hid hst
        have hld : decide (prV l x.1 < prV l r1) = false := decide_eq_false hlt
        clear hst hlt
        gi_wp2_with fail
        refine wpIn_of_eq (cs7_region (S := fun V => Blk V W1.heap.size 107 #[.slice (some ⟨g1, 0, none⟩) l.length c1] ∧ Below X.heap.size X V) (fun _ _ h hb => ⟨h.1.on hb, h.2.trans (hb.mono h.2.size)⟩) (Q0 := W1.heap.size) (g2 := x.2.1) (m := l.length) (c2 := x.2.2) (g1 := g1) (c1 := c1) (p1 := prV l r1) (p2 := prV l x.1) (fun V h => h.1) (fun V => by kernel_rfl) (Lib.hid fun V h => HP2.out V h.2) (Lib.hid fun V h => HP1.out V h.2) (Lib.hid ⟨HQ3.out, Below.refl _ _⟩) (Lib.hid fun u2 V hV => ?_)) (by kernel_rfl)
        rw [hld]
        have HV := Lib.hid hV
        clear hV
        gi_wp2_with fail
        refine ⟨Keep.of_below HV.out.2 HCI.out.b.size, ?_, HMEM.out, HCI.out.b.trans (HV.out.2.mono HCI.out.b.size)⟩
        show BestAt _ _ _ _ _ (bestR l ((pre ++ [x]).map (·.1))) _
        rw [HST.out]
        exact ⟨g1, c1, HV.out.1, own_below HPO.out HV.out.2⟩
  case done =>
    intro D xs X hD1 hD2 hS hCI hd
    have hbe := hCI.best
    have HCI := Lib.hid hCI
    have HD := Lib.hid hd
    have HDB : Hid (D < X.heap.size) := (Array.getElem?_eq_some_iff.1 hd).1
    rw [show xs.map (·.1) = fitL l q.w from hS] at hbe
    have hne : ∀ n c g W, (binOp .eql 107 (.slice (some ⟨g, 0, none⟩) n c) (.slice none 0 0)).run Try.prog W = .ok (.bool false) W := fun n c g W => by kernel_rfl
    have hnn : ∀ W, (binOp .eql 107 (.slice none 0 0) (.slice none 0 0)).run Try.prog W = .ok (.bool true) W := fun W => by kernel_rfl
    have hwn : w.heap.size ≤ D := by have := hbW2.size; omega
    cases hbq : bestR l (fitL l q.w) with
    | none =>
      rw [hbq] at hbe
      have hq3 : Blk X W1.heap.size 107 #[.slice none 0 0] := hbe
      have HV := Lib.hid (cheapV_none HZ.out hbq)
      have q0 := hq3.cell 0
      clear hCI hbe hbq hd hS hq3 hq2 hl2 hw2 hFS
      gi_wp2_with fail
      refine ⟨by simp, .inl ⟨_, _, rfl, run_takeDeferred HD.out, ?_⟩⟩
      refine ⟨.tuple #[.slice none 0 0, .int .i64 0, .int .i64 9], by simp [results, Try.results29, go_sem], _, by rw [HV.out], by rw [HV.out]; exact IntsOut.nil _ _, below_put HCI.out.b hwn HCI.out.b.size _⟩
    | some r1 =>
      rw [hbq] at hbe
      obtain ⟨g1, c1, hq3, hpo⟩ := (show ∃ g c, Blk X W1.heap.size 107 #[.slice (some ⟨g, 0, none⟩) l.length c] ∧ PosOut (W2.heap.size + 2 + 8) X (.slice (some ⟨g, 0, none⟩) l.length c) (mixL b o l r1) from hbe)
      have hr1 : RcOk l.length r1 := rec_rc HWK.out (List.mem_filter.1 (bestR_mem hbq)).1
      have hp1 := (mix_in HI.out HCI.out.b hpo).2
      have HP1 := Lib.hid (fun (V : World) (hb : Below X.heap.size X V) => HPR.out V g1 c1 r1 (hp1.on hb) hr1)
      have hml := mixL_len b o l r1 hr1.len
      have hmn : (mixL b o l r1).map Po.n = r1 := by
        have := mixL_map b (fun _ n => n) o l r1
        rw [show (mixL b o l r1).map Po.n = (mixL b o l r1).map (fun p => p.n) from rfl, this]
        exact zip_snd hr1.len
      have HRE : Hid (∀ V : World, Below X.heap.size X V → Calls Try.prog 73 #[.slice (some ⟨g1, 0, none⟩) l.length c1] V fun e w' => ∃ (Ar : Option Addr) (cr : Nat), e = .returned (.slice Ar l.length cr) ∧ IntsOut (D + 1) w' (.slice Ar l.length cr) r1 ∧ Below V.heap.size V w') := by
        intro V hb
        have q1 := mrec_any (c := c1) (hp1.on hb) (by rw [hml]; omega)
        rw [hml, hmn] at q1
        refine q1.mono ?_
        rintro e w' ⟨v, rfl, hv, hbv⟩
        obtain ⟨Ar, cr, rfl, -⟩ := hv.in_
        rw [hr1.len] at hv ⊢
        exact ⟨Ar, cr, rfl, own_base hv (by have := HDB.out; have := hb.size; omega), hbv⟩
      have HV := Lib.hid (cheapV_some HZ.out hbq)
      have HQ3 := Lib.hid hq3
      have q0 := hq3.cell 0
      clear hCI hbe hbq hd hS hq3 hq2 hl2 hw2 hFS hpo hp1 hml hmn hr1
      gi_wp2_with fail
      refine wpIn_wide.2 (wp_of_eq (ch11_region (S := fun V => (Blk V W1.heap.size 107 #[.slice (some ⟨g1, 0, none⟩) l.length c1] ∧ V.heap[D]? = some (.deferred (some []))) ∧ Below X.heap.size X V) (fun V V2 h hb => ⟨⟨h.1.1.on hb, (hb.block D (Array.getElem?_eq_some_iff.1 h.1.2).1).trans h.1.2⟩, h.2.trans (hb.mono h.2.size)⟩) (Q0 := W1.heap.size) (g1 := g1) (m := l.length) (c1 := c1) (T := D + 1) (p1 := prV l r1) (r := r1) (fun V h => h.1.1) (Lib.hid fun V h => HRE.out V h.2) (Lib.hid fun V h => HP1.out V h.2) (Lib.hid ⟨⟨HQ3.out, HD.out⟩, Below.refl _ _⟩) (Lib.hid fun u2 Ar cr V hi hV => ?_)) (by kernel_rfl))
      have HIO := Lib.hid hi
      have HVV := Lib.hid hV
      clear hi hV
      gi_wp2_with fail
      refine ⟨by simp, .inl ⟨_, _, rfl, run_takeDeferred HVV.out.1.2, ?_⟩⟩
      refine ⟨.tuple #[.slice Ar l.length cr, .int .i64 (prV l r1), .int .i64 0], by simp [results, Try.results29, go_sem], _, by rw [HV.out], ?_, ?_⟩
      · rw [HV.out]
        exact own_base (IntsOut.outside HIO.out (Outside.put (B := D) (K := 1) _ _ (Nat.le_refl _) (by omega)) (by omega)) (by omega)
      · have hb := HCI.out.b.trans (HVV.out.2.mono HCI.out.b.size)
        exact below_put hb hwn hb.size _
  case stop =>
    rintro D c pre X _ _ hf _
    exact hf.elim
end Go.Proofs.Ytalghiecjhfflaa
