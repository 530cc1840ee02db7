/- MouldFewest's last region, in its three cases. -/
import Derived.Test.YtljbjcnfkbmjkaaMeH
import Derived.Test.YtljbjcnfkbmjkaaMgr
namespace Go.Proofs.Ytljbjcnfkbmjkaa
open Go.RowKit Go.Shelf Go.Maps
attribute [local go_sem] Oper.semAt_some

/-- What lies in memory: the mould, the hollow, both plans. -/
structure LfB (w : World) (m : Md) (K : Nat) (x1 x2 x3 x4 : Int) (A1 : Option Addr) (bl : List Int) (A : Option Addr) (l : List Int) (W : World) : Prop where
  bm : MdBk w w.heap.size 25 m W
  bk : Blk W K 45 #[.int .i64 x1, .int .i64 x2, .int .i64 x3, .int .i64 x4]
  q : IntsIn W A1 bl
  p : IntsIn W A l
theorem LfB.on {w W W' : World} {m : Md} {K : Nat} {x1 x2 x3 x4 : Int} {A1 A : Option Addr} {bl l : List Int} (h : LfB w m K x1 x2 x3 x4 A1 bl A l W) (hb : Below W.heap.size W W') : LfB w m K x1 x2 x3 x4 A1 bl A l W' := ⟨h.bm.on hb, h.bk.on hb, h.q.on hb, h.p.on hb⟩
/-- What each operation leaves. -/
def lf1V (A1 _A : Option Addr) (c1 _c : Nat) (bl l : List Int) : Nat → Value
  | 0 => .int .i64 (0)
  | 1 => .bool true
  | 2 => .bool true
  | 3 => .slice A1 bl.length c1
  | 4 => .int .i64 ((bl.length : Int))
  | 5 => .int .i64 ((l.length : Int))
  | 6 => .bool true
  | 7 => .bool true
  | 8 => .bool true
  | 9 => .slice A1 bl.length c1
  | 10 => .int .i64 ((bl.length : Int))
  | 11 => .int .i64 ((l.length : Int))
  | 12 => .bool true
  | 13 => .bool true
  | 14 => undef
  | 15 => undef
  | 16 => .bool true
  | 17 => .bool true
  | 18 => undef
  | 19 => undef
  | 20 => undef
  | 21 => undef
  | 22 => undef
  | 23 => undef
  | 24 => undef
  | 25 => undef
  | 26 => undef
  | 27 => undef
  | 28 => undef
  | 29 => .bool true
  | 30 => .bool true
  | 31 => .bool true
  | 32 => .bool true
  | 33 => .bool true
  | 34 => .bool true
  | _ => undef
set_option maxRecDepth 100000 in
set_option maxHeartbeats 8000000 in
theorem lf1_region {w W0 : World} {m : Md} {K : Nat} {x1 x2 x3 x4 : Int} {A1 A : Option Addr} {c1 c : Nat} {bl l : List Int} {Q : Exit → Act → World → Prop} {s0 s2 s3 s7 s8 s10 s11 s12 s13 s14 s15 s16 s17 s18 s19 s20 s21 s22 s23 s24 s25 s26 s27 s28 s29 s30 s31 s32 s33 s34 s35 s36 s37 s38 s39 s40 s41 s42 s43 s44 s45 s46 s47 s48 s49 s50 s51 s52 s53 s54 s55 s56 s57 s58 s59 s60 s61 : Value} (HL : Hid (LfB w m K x1 x2 x3 x4 A1 bl A l W0)) (h1 : (bl.length : Int) ≤ l.length) (h2 : (bl.length : Int) < l.length)
    (HQ : Hid (∀ (u : Nat → Value) (W : World), u 34 = .bool true → LfB w m K x1 x2 x3 x4 A1 bl A l W → Q .normal ⟨#[s0, .slice A l.length c, s2, s3, u 34, .slice A1 bl.length c1, .int .i64 0, s7, s8, .int .i64 (l.length : Int), s10, s11, s12, s13, s14, s15, s16, s17, s18, s19, s20, s21, s22, s23, s24, s25, s26, s27, s28, s29, s30, s31, s32, s33, s34, s35, s36, s37, s38, s39, s40, s41, s42, s43, s44, s45, s46, s47, s48, s49, s50, s51, s52, s53, s54, s55, s56, s57, s58, s59, s60, s61, u 0, u 1, u 2, u 3, u 4, u 5, u 6, u 7, u 8, u 9, u 10, u 11, u 12, u 13, u 14, u 15, u 16, u 17, u 18, u 19, u 20, u 21, u 22, u 23, u 24, u 25, u 26, u 27, u 28, u 29, u 30, u 31, u 32, u 33], []⟩ W)) :
    Code.wp Try.prog ((Try.f12.body.bind (regionAt 10)).getD .skip) Q ⟨#[s0, .slice A l.length c, s2, s3, .bool false, .slice A1 bl.length c1, .int .i64 0, s7, s8, .int .i64 (l.length : Int), s10, s11, s12, s13, s14, s15, s16, s17, s18, s19, s20, s21, s22, s23, s24, s25, s26, s27, s28, s29, s30, s31, s32, s33, s34, s35, s36, s37, s38, s39, s40, s41, s42, s43, s44, s45, s46, s47, s48, s49, s50, s51, s52, s53, s54, s55, s56, s57, s58, s59, s60, s61, undef, undef, undef, undef, undef, undef, undef, undef, undef, undef, undef, undef, undef, undef, undef, undef, undef, undef, undef, undef, undef, undef, undef, undef, undef, undef, undef, undef, undef, undef, undef, undef, undef, undef], []⟩ W0 := by
  conv => arg 2; whnf
  refine wp_region_spec (by kernel_rfl) 35 (by kernel_rfl) (fun u => ⟨#[s0, .slice A l.length c, s2, s3, u 34, .slice A1 bl.length c1, .int .i64 0, s7, s8, .int .i64 (l.length : Int), s10, s11, s12, s13, s14, s15, s16, s17, s18, s19, s20, s21, s22, s23, s24, s25, s26, s27, s28, s29, s30, s31, s32, s33, s34, s35, s36, s37, s38, s39, s40, s41, s42, s43, s44, s45, s46, s47, s48, s49, s50, s51, s52, s53, s54, s55, s56, s57, s58, s59, s60, s61, u 0, u 1, u 2, u 3, u 4, u 5, u 6, u 7, u 8, u 9, u 10, u 11, u 12, u 13, u 14, u 15, u 16, u 17, u 18, u 19, u 20, u 21, u 22, u 23, u 24, u 25, u 26, u 27, u 28, u 29, u 30, u 31, u 32, u 33], []⟩) (fun i => if i = 34 then .bool false else undef) (fun W => Hid (LfB w m K x1 x2 x3 x4 A1 bl A l W)) (fun i v _ => v = lf1V A1 A c1 c bl l i) (by kernel_rfl) (HL.out.on (Below.refl _ _).drew) (fun _ _ _ _ _ h _ => h) (by decide +kernel) ?_ ?_
  · iterate 35 (refine all_succ ?_ ?_)
    · exact all_zero
    · intro u W hB _ hd _ K hK
      have HK := Lib.hid hK; clear hK
      refine wpOp_of rfl (by rfl) ?_
      go_simp
      exact k_of (HK.out (.int .i64 (0)) _ rfl hB (Below.refl _ _)) (by kernel_rfl)
    · intro u W hB _ hd _ K hK
      have HK := Lib.hid hK; clear hK
      have e0 : u 0 = .int .i64 (0) := hd 0 (by decide +kernel)
      refine wpOp_of rfl (by rfl) ?_
      go_simp
      exact k_of (HK.out (.bool true) _ rfl hB (Below.refl _ _)) (by rw [← u1_eq e0]; kernel_rfl)
    · intro u W hB _ hd _ K hK
      have HK := Lib.hid hK; clear hK
      have e1 : u 1 = .bool true := hd 1 (by decide +kernel)
      refine wpOp_of rfl (by rfl) ?_
      go_simp
      exact k_of (HK.out (.bool true) _ rfl hB (Below.refl _ _)) (by rw [← u1_eq e1]; kernel_rfl)
    · intro u W hB _ hd _ K hK
      have HK := Lib.hid hK; clear hK
      have e2 : u 2 = .bool true := hd 2 (by decide +kernel)
      refine wpOp_of rfl (by rw [← u1_eq e2]; kernel_rfl) ?_
      go_simp
      exact k_of (HK.out (.slice A1 bl.length c1) _ rfl hB (Below.refl _ _)) (by rw [← u1_eq e2]; kernel_rfl)
    · intro u W hB _ hd _ K hK
      have HK := Lib.hid hK; clear hK
      have e3 : u 3 = .slice A1 bl.length c1 := hd 3 (by decide +kernel)
      have e2 : u 2 = .bool true := hd 2 (by decide +kernel)
      refine wpOp_of rfl (by rw [← u1_eq e2]; kernel_rfl) ?_
      go_simp
      exact k_of (HK.out (.int .i64 ((bl.length : Int))) _ rfl hB (Below.refl _ _)) (by rw [← u1_eq e3, ← u1_eq e2]; kernel_rfl)
    · intro u W hB _ hd _ K hK
      have HK := Lib.hid hK; clear hK
      have e2 : u 2 = .bool true := hd 2 (by decide +kernel)
      refine wpOp_of rfl (by rw [← u1_eq e2]; kernel_rfl) ?_
      go_simp
      exact k_of (HK.out (.int .i64 ((l.length : Int))) _ rfl hB (Below.refl _ _)) (by rw [← u1_eq e2]; kernel_rfl)
    · intro u W hB _ hd _ K hK
      have HK := Lib.hid hK; clear hK
      have e4 : u 4 = .int .i64 ((bl.length : Int)) := hd 4 (by decide +kernel)
      have e5 : u 5 = .int .i64 ((l.length : Int)) := hd 5 (by decide +kernel)
      have e2 : u 2 = .bool true := hd 2 (by decide +kernel)
      refine wpOp_of rfl (by rw [← u1_eq e2]; kernel_rfl) ?_
      go_simp
      exact k_of (HK.out (.bool true) _ rfl hB (Below.refl _ _)) (by rw [← u1_eq e4, ← u1_eq e5, ← u1_eq e2]; kernel_rfl)
    · intro u W hB _ hd _ K hK
      have HK := Lib.hid hK; clear hK
      have e2 : u 2 = .bool true := hd 2 (by decide +kernel)
      have e6 : u 6 = .bool true := hd 6 (by decide +kernel)
      refine wpOp_of rfl (by rfl) ?_
      go_simp
      exact k_of (HK.out (.bool true) _ rfl hB (Below.refl _ _)) (by rw [← u1_eq e2, ← u1_eq e6]; kernel_rfl)
    · intro u W hB _ hd _ K hK
      have HK := Lib.hid hK; clear hK
      have e7 : u 7 = .bool true := hd 7 (by decide +kernel)
      refine wpOp_of rfl (by rfl) ?_
      go_simp
      exact k_of (HK.out (.bool true) _ rfl hB (Below.refl _ _)) (by rw [← u1_eq e7]; kernel_rfl)
    · intro u W hB _ hd _ K hK
      have HK := Lib.hid hK; clear hK
      have e8 : u 8 = .bool true := hd 8 (by decide +kernel)
      refine wpOp_of rfl (by rw [← u1_eq e8]; kernel_rfl) ?_
      go_simp
      exact k_of (HK.out (.slice A1 bl.length c1) _ rfl hB (Below.refl _ _)) (by rw [← u1_eq e8]; kernel_rfl)
    · intro u W hB _ hd _ K hK
      have HK := Lib.hid hK; clear hK
      have e9 : u 9 = .slice A1 bl.length c1 := hd 9 (by decide +kernel)
      have e8 : u 8 = .bool true := hd 8 (by decide +kernel)
      refine wpOp_of rfl (by rw [← u1_eq e8]; kernel_rfl) ?_
      go_simp
      exact k_of (HK.out (.int .i64 ((bl.length : Int))) _ rfl hB (Below.refl _ _)) (by rw [← u1_eq e9, ← u1_eq e8]; kernel_rfl)
    · intro u W hB _ hd _ K hK
      have HK := Lib.hid hK; clear hK
      have e8 : u 8 = .bool true := hd 8 (by decide +kernel)
      refine wpOp_of rfl (by rw [← u1_eq e8]; kernel_rfl) ?_
      go_simp
      exact k_of (HK.out (.int .i64 ((l.length : Int))) _ rfl hB (Below.refl _ _)) (by rw [← u1_eq e8]; kernel_rfl)
    · intro u W hB _ hd _ K hK
      have HK := Lib.hid hK; clear hK
      have e10 : u 10 = .int .i64 ((bl.length : Int)) := hd 10 (by decide +kernel)
      have e11 : u 11 = .int .i64 ((l.length : Int)) := hd 11 (by decide +kernel)
      have e8 : u 8 = .bool true := hd 8 (by decide +kernel)
      refine wpOp_of rfl (by rw [← u1_eq e8]; kernel_rfl) ?_
      go_simp
      exact k_of (HK.out (.bool true) _ rfl hB (Below.refl _ _)) (by rw [← u1_eq e10, ← u1_eq e11, ← u1_eq e8]; kernel_rfl)
    · intro u W hB _ hd _ K hK
      have HK := Lib.hid hK; clear hK
      have e12 : u 12 = .bool true := hd 12 (by decide +kernel)
      have e8 : u 8 = .bool true := hd 8 (by decide +kernel)
      refine wpOp_of rfl (by rw [← u1_eq e8]; kernel_rfl) ?_
      go_simp
      exact k_of (HK.out (.bool true) _ rfl hB (Below.refl _ _)) (by rw [← u1_eq e12, ← u1_eq e8]; kernel_rfl)
    · intro u W hB _ hd _ K hK
      have HK := Lib.hid hK; clear hK
      have e13 : u 13 = .bool true := hd 13 (by decide +kernel)
      refine wpOp_skip rfl (by rw [← u1_eq e13]; kernel_rfl) ?_
      exact k_of (HK.out undef _ rfl hB (Below.refl _ _)) (by rw [← u1_eq e13]; kernel_rfl)
    · intro u W hB _ hd _ K hK
      have HK := Lib.hid hK; clear hK
      have e13 : u 13 = .bool true := hd 13 (by decide +kernel)
      refine wpOp_skip rfl (by rw [← u1_eq e13]; kernel_rfl) ?_
      exact k_of (HK.out undef _ rfl hB (Below.refl _ _)) (by rw [← u1_eq e13]; kernel_rfl)
    · intro u W hB _ hd _ K hK
      have HK := Lib.hid hK; clear hK
      have e13 : u 13 = .bool true := hd 13 (by decide +kernel)
      have e15 : u 15 = undef := hd 15 (by decide +kernel)
      have e8 : u 8 = .bool true := hd 8 (by decide +kernel)
      refine wpOp_of rfl (by rw [← u1_eq e8]; kernel_rfl) ?_
      go_simp
      exact k_of (HK.out (.bool true) _ rfl hB (Below.refl _ _)) (by rw [← u1_eq e13, ← u1_eq e15, ← u1_eq e8]; kernel_rfl)
    · intro u W hB _ hd _ K hK
      have HK := Lib.hid hK; clear hK
      have e16 : u 16 = .bool true := hd 16 (by decide +kernel)
      have e8 : u 8 = .bool true := hd 8 (by decide +kernel)
      refine wpOp_of rfl (by rw [← u1_eq e8]; kernel_rfl) ?_
      go_simp
      exact k_of (HK.out (.bool true) _ rfl hB (Below.refl _ _)) (by rw [← u1_eq e16, ← u1_eq e8]; kernel_rfl)
    · intro u W hB _ hd _ K hK
      have HK := Lib.hid hK; clear hK
      have e17 : u 17 = .bool true := hd 17 (by decide +kernel)
      refine wpOp_skip rfl (by rw [← u1_eq e17]; kernel_rfl) ?_
      exact k_of (HK.out undef _ rfl hB (Below.refl _ _)) (by rw [← u1_eq e17]; kernel_rfl)
    · intro u W hB _ hd _ K hK
      have HK := Lib.hid hK; clear hK
      have e17 : u 17 = .bool true := hd 17 (by decide +kernel)
      refine wpOp_skip rfl (by rw [← u1_eq e17]; kernel_rfl) ?_
      exact k_of (HK.out undef _ rfl hB (Below.refl _ _)) (by rw [← u1_eq e17]; kernel_rfl)
    · intro u W hB _ hd _ K hK
      have HK := Lib.hid hK; clear hK
      have e17 : u 17 = .bool true := hd 17 (by decide +kernel)
      refine wpOp_skip rfl (by rw [← u1_eq e17]; kernel_rfl) ?_
      exact k_of (HK.out undef _ rfl hB (Below.refl _ _)) (by rw [← u1_eq e17]; kernel_rfl)
    · intro u W hB _ hd _ K hK
      have HK := Lib.hid hK; clear hK
      have e17 : u 17 = .bool true := hd 17 (by decide +kernel)
      refine wpOp_skip rfl (by rw [← u1_eq e17]; kernel_rfl) ?_
      exact k_of (HK.out undef _ rfl hB (Below.refl _ _)) (by rw [← u1_eq e17]; kernel_rfl)
    · intro u W hB _ hd _ K hK
      have HK := Lib.hid hK; clear hK
      have e17 : u 17 = .bool true := hd 17 (by decide +kernel)
      refine wpOp_skip rfl (by rw [← u1_eq e17]; kernel_rfl) ?_
      exact k_of (HK.out undef _ rfl hB (Below.refl _ _)) (by rw [← u1_eq e17]; kernel_rfl)
    · intro u W hB _ hd _ K hK
      have HK := Lib.hid hK; clear hK
      have e17 : u 17 = .bool true := hd 17 (by decide +kernel)
      refine wpOp_skip rfl (by rw [← u1_eq e17]; kernel_rfl) ?_
      exact k_of (HK.out undef _ rfl hB (Below.refl _ _)) (by rw [← u1_eq e17]; kernel_rfl)
    · intro u W hB _ hd _ K hK
      have HK := Lib.hid hK; clear hK
      have e17 : u 17 = .bool true := hd 17 (by decide +kernel)
      refine wpOp_skip rfl (by rw [← u1_eq e17]; kernel_rfl) ?_
      exact k_of (HK.out undef _ rfl hB (Below.refl _ _)) (by rw [← u1_eq e17]; kernel_rfl)
    · intro u W hB _ hd _ K hK
      have HK := Lib.hid hK; clear hK
      have e17 : u 17 = .bool true := hd 17 (by decide +kernel)
      refine wpOp_skip rfl (by rw [← u1_eq e17]; kernel_rfl) ?_
      exact k_of (HK.out undef _ rfl hB (Below.refl _ _)) (by rw [← u1_eq e17]; kernel_rfl)
    · intro u W hB _ hd _ K hK
      have HK := Lib.hid hK; clear hK
      have e17 : u 17 = .bool true := hd 17 (by decide +kernel)
      refine wpOp_skip rfl (by rw [← u1_eq e17]; kernel_rfl) ?_
      exact k_of (HK.out undef _ rfl hB (Below.refl _ _)) (by rw [← u1_eq e17]; kernel_rfl)
    · intro u W hB _ hd _ K hK
      have HK := Lib.hid hK; clear hK
      have e17 : u 17 = .bool true := hd 17 (by decide +kernel)
      refine wpOp_skip rfl (by rw [← u1_eq e17]; kernel_rfl) ?_
      exact k_of (HK.out undef _ rfl hB (Below.refl _ _)) (by rw [← u1_eq e17]; kernel_rfl)
    · intro u W hB _ hd _ K hK
      have HK := Lib.hid hK; clear hK
      have e17 : u 17 = .bool true := hd 17 (by decide +kernel)
      refine wpOp_skip rfl (by rw [← u1_eq e17]; kernel_rfl) ?_
      exact k_of (HK.out undef _ rfl hB (Below.refl _ _)) (by rw [← u1_eq e17]; kernel_rfl)
    · intro u W hB _ hd _ K hK
      have HK := Lib.hid hK; clear hK
      have e17 : u 17 = .bool true := hd 17 (by decide +kernel)
      have e28 : u 28 = undef := hd 28 (by decide +kernel)
      have e8 : u 8 = .bool true := hd 8 (by decide +kernel)
      refine wpOp_of rfl (by rw [← u1_eq e8]; kernel_rfl) ?_
      go_simp
      exact k_of (HK.out (.bool true) _ rfl hB (Below.refl _ _)) (by rw [← u1_eq e17, ← u1_eq e28, ← u1_eq e8]; kernel_rfl)
    · intro u W hB _ hd _ K hK
      have HK := Lib.hid hK; clear hK
      have e8 : u 8 = .bool true := hd 8 (by decide +kernel)
      have e29 : u 29 = .bool true := hd 29 (by decide +kernel)
      refine wpOp_of rfl (by rfl) ?_
      go_simp
      exact k_of (HK.out (.bool true) _ rfl hB (Below.refl _ _)) (by rw [← u1_eq e8, ← u1_eq e29]; kernel_rfl)
    · intro u W hB _ hd _ K hK
      have HK := Lib.hid hK; clear hK
      have e30 : u 30 = .bool true := hd 30 (by decide +kernel)
      refine wpOp_of rfl (by rfl) ?_
      go_simp
      exact k_of (HK.out (.bool true) _ rfl hB (Below.refl _ _)) (by rw [← u1_eq e30]; kernel_rfl)
    · intro u W hB _ hd _ K hK
      have HK := Lib.hid hK; clear hK
      have e31 : u 31 = .bool true := hd 31 (by decide +kernel)
      refine wpOp_of rfl (by rw [← u1_eq e31]; kernel_rfl) ?_
      go_simp
      refine (awake_any _).mono ?_
      rintro e w' ⟨rfl, hb⟩
      exact k_of (HK.out (.bool true) _ rfl (hB.out.on hb) hb) (by rw [← u1_eq e31]; kernel_rfl)
    · intro u W hB _ hd _ K hK
      have HK := Lib.hid hK; clear hK
      have e31 : u 31 = .bool true := hd 31 (by decide +kernel)
      have e32 : u 32 = .bool true := hd 32 (by decide +kernel)
      refine wpOp_of rfl (by rfl) ?_
      go_simp
      exact k_of (HK.out (.bool true) _ rfl hB (Below.refl _ _)) (by rw [← u1_eq e31, ← u1_eq e32]; kernel_rfl)
    · intro u W hB _ hd _ K hK
      have HK := Lib.hid hK; clear hK
      have e33 : u 33 = .bool true := hd 33 (by decide +kernel)
      refine wpOp_of rfl (by rfl) ?_
      go_simp
      exact k_of (HK.out (.bool true) _ rfl hB (Below.refl _ _)) (by rw [← u1_eq e33]; kernel_rfl)
  · intro u W hB hd
    exact HQ.out u W (hd 34 (by decide)) hB.out
/-- What each operation leaves. -/
def lf2V (A1 _A : Option Addr) (c1 _c : Nat) (bl l : List Int) : Nat → Value
  | 0 => .int .i64 (0)
  | 1 => .bool true
  | 2 => .bool true
  | 3 => .slice A1 bl.length c1
  | 4 => .int .i64 ((bl.length : Int))
  | 5 => .int .i64 ((l.length : Int))
  | 6 => .bool true
  | 7 => .bool true
  | 8 => .bool true
  | 9 => .slice A1 bl.length c1
  | 10 => .int .i64 ((bl.length : Int))
  | 11 => .int .i64 ((l.length : Int))
  | 12 => .bool false
  | 13 => .bool false
  | 14 => .int .i64 ((l.length : Int))
  | 15 => .bool true
  | 16 => .bool true
  | 17 => .bool true
  | 18 => undef
  | 19 => undef
  | 20 => undef
  | 21 => undef
  | 22 => undef
  | 23 => undef
  | 24 => undef
  | 25 => undef
  | 26 => undef
  | 27 => undef
  | 28 => undef
  | 29 => .bool true
  | 30 => .bool true
  | 31 => .bool true
  | 32 => .bool true
  | 33 => .bool true
  | 34 => .bool true
  | _ => undef
set_option maxRecDepth 100000 in
set_option maxHeartbeats 8000000 in
theorem lf2_region {w W0 : World} {m : Md} {K : Nat} {x1 x2 x3 x4 : Int} {A1 A : Option Addr} {c1 c : Nat} {bl l : List Int} {Q : Exit → Act → World → Prop} {s0 s2 s3 s7 s8 s10 s11 s12 s13 s14 s15 s16 s17 s18 s19 s20 s21 s22 s23 s24 s25 s26 s27 s28 s29 s30 s31 s32 s33 s34 s35 s36 s37 s38 s39 s40 s41 s42 s43 s44 s45 s46 s47 s48 s49 s50 s51 s52 s53 s54 s55 s56 s57 s58 s59 s60 s61 : Value} (HL : Hid (LfB w m K x1 x2 x3 x4 A1 bl A l W0)) (h1 : (bl.length : Int) ≤ l.length) (h2 : ¬ (bl.length : Int) < l.length) (h3 : ((l.length : Int) == 0) = true)
    (HQ : Hid (∀ (u : Nat → Value) (W : World), u 34 = .bool true → LfB w m K x1 x2 x3 x4 A1 bl A l W → Q .normal ⟨#[s0, .slice A l.length c, s2, s3, u 34, .slice A1 bl.length c1, .int .i64 0, s7, s8, .int .i64 (l.length : Int), s10, s11, s12, s13, s14, s15, s16, s17, s18, s19, s20, s21, s22, s23, s24, s25, s26, s27, s28, s29, s30, s31, s32, s33, s34, s35, s36, s37, s38, s39, s40, s41, s42, s43, s44, s45, s46, s47, s48, s49, s50, s51, s52, s53, s54, s55, s56, s57, s58, s59, s60, s61, u 0, u 1, u 2, u 3, u 4, u 5, u 6, u 7, u 8, u 9, u 10, u 11, u 12, u 13, u 14, u 15, u 16, u 17, u 18, u 19, u 20, u 21, u 22, u 23, u 24, u 25, u 26, u 27, u 28, u 29, u 30, u 31, u 32, u 33], []⟩ W)) :
    Code.wp Try.prog ((Try.f12.body.bind (regionAt 10)).getD .skip) Q ⟨#[s0, .slice A l.length c, s2, s3, .bool false, .slice A1 bl.length c1, .int .i64 0, s7, s8, .int .i64 (l.length : Int), s10, s11, s12, s13, s14, s15, s16, s17, s18, s19, s20, s21, s22, s23, s24, s25, s26, s27, s28, s29, s30, s31, s32, s33, s34, s35, s36, s37, s38, s39, s40, s41, s42, s43, s44, s45, s46, s47, s48, s49, s50, s51, s52, s53, s54, s55, s56, s57, s58, s59, s60, s61, undef, undef, undef, undef, undef, undef, undef, undef, undef, undef, undef, undef, undef, undef, undef, undef, undef, undef, undef, undef, undef, undef, undef, undef, undef, undef, undef, undef, undef, undef, undef, undef, undef, undef], []⟩ W0 := by
  conv => arg 2; whnf
  refine wp_region_spec (by kernel_rfl) 35 (by kernel_rfl) (fun u => ⟨#[s0, .slice A l.length c, s2, s3, u 34, .slice A1 bl.length c1, .int .i64 0, s7, s8, .int .i64 (l.length : Int), s10, s11, s12, s13, s14, s15, s16, s17, s18, s19, s20, s21, s22, s23, s24, s25, s26, s27, s28, s29, s30, s31, s32, s33, s34, s35, s36, s37, s38, s39, s40, s41, s42, s43, s44, s45, s46, s47, s48, s49, s50, s51, s52, s53, s54, s55, s56, s57, s58, s59, s60, s61, u 0, u 1, u 2, u 3, u 4, u 5, u 6, u 7, u 8, u 9, u 10, u 11, u 12, u 13, u 14, u 15, u 16, u 17, u 18, u 19, u 20, u 21, u 22, u 23, u 24, u 25, u 26, u 27, u 28, u 29, u 30, u 31, u 32, u 33], []⟩) (fun i => if i = 34 then .bool false else undef) (fun W => Hid (LfB w m K x1 x2 x3 x4 A1 bl A l W)) (fun i v _ => v = lf2V A1 A c1 c bl l i) (by kernel_rfl) (HL.out.on (Below.refl _ _).drew) (fun _ _ _ _ _ h _ => h) (by decide +kernel) ?_ ?_
  · iterate 35 (refine all_succ ?_ ?_)
    · exact all_zero
    · intro u W hB _ hd _ K hK
      have HK := Lib.hid hK; clear hK
      refine wpOp_of rfl (by rfl) ?_
      go_simp
      exact k_of (HK.out (.int .i64 (0)) _ rfl hB (Below.refl _ _)) (by kernel_rfl)
    · intro u W hB _ hd _ K hK
      have HK := Lib.hid hK; clear hK
      have e0 : u 0 = .int .i64 (0) := hd 0 (by decide +kernel)
      refine wpOp_of rfl (by rfl) ?_
      go_simp
      exact k_of (HK.out (.bool true) _ rfl hB (Below.refl _ _)) (by rw [← u1_eq e0]; kernel_rfl)
    · intro u W hB _ hd _ K hK
      have HK := Lib.hid hK; clear hK
      have e1 : u 1 = .bool true := hd 1 (by decide +kernel)
      refine wpOp_of rfl (by rfl) ?_
      go_simp
      exact k_of (HK.out (.bool true) _ rfl hB (Below.refl _ _)) (by rw [← u1_eq e1]; kernel_rfl)
    · intro u W hB _ hd _ K hK
      have HK := Lib.hid hK; clear hK
      have e2 : u 2 = .bool true := hd 2 (by decide +kernel)
      refine wpOp_of rfl (by rw [← u1_eq e2]; kernel_rfl) ?_
      go_simp
      exact k_of (HK.out (.slice A1 bl.length c1) _ rfl hB (Below.refl _ _)) (by rw [← u1_eq e2]; kernel_rfl)
    · intro u W hB _ hd _ K hK
      have HK := Lib.hid hK; clear hK
      have e3 : u 3 = .slice A1 bl.length c1 := hd 3 (by decide +kernel)
      have e2 : u 2 = .bool true := hd 2 (by decide +kernel)
      refine wpOp_of rfl (by rw [← u1_eq e2]; kernel_rfl) ?_
      go_simp
      exact k_of (HK.out (.int .i64 ((bl.length : Int))) _ rfl hB (Below.refl _ _)) (by rw [← u1_eq e3, ← u1_eq e2]; kernel_rfl)
    · intro u W hB _ hd _ K hK
      have HK := Lib.hid hK; clear hK
      have e2 : u 2 = .bool true := hd 2 (by decide +kernel)
      refine wpOp_of rfl (by rw [← u1_eq e2]; kernel_rfl) ?_
      go_simp
      exact k_of (HK.out (.int .i64 ((l.length : Int))) _ rfl hB (Below.refl _ _)) (by rw [← u1_eq e2]; kernel_rfl)
    · intro u W hB _ hd _ K hK
      have HK := Lib.hid hK; clear hK
      have e4 : u 4 = .int .i64 ((bl.length : Int)) := hd 4 (by decide +kernel)
      have e5 : u 5 = .int .i64 ((l.length : Int)) := hd 5 (by decide +kernel)
      have e2 : u 2 = .bool true := hd 2 (by decide +kernel)
      refine wpOp_of rfl (by rw [← u1_eq e2]; kernel_rfl) ?_
      go_simp
      exact k_of (HK.out (.bool true) _ rfl hB (Below.refl _ _)) (by rw [← u1_eq e4, ← u1_eq e5, ← u1_eq e2]; kernel_rfl)
    · intro u W hB _ hd _ K hK
      have HK := Lib.hid hK; clear hK
      have e2 : u 2 = .bool true := hd 2 (by decide +kernel)
      have e6 : u 6 = .bool true := hd 6 (by decide +kernel)
      refine wpOp_of rfl (by rfl) ?_
      go_simp
      exact k_of (HK.out (.bool true) _ rfl hB (Below.refl _ _)) (by rw [← u1_eq e2, ← u1_eq e6]; kernel_rfl)
    · intro u W hB _ hd _ K hK
      have HK := Lib.hid hK; clear hK
      have e7 : u 7 = .bool true := hd 7 (by decide +kernel)
      refine wpOp_of rfl (by rfl) ?_
      go_simp
      exact k_of (HK.out (.bool true) _ rfl hB (Below.refl _ _)) (by rw [← u1_eq e7]; kernel_rfl)
    · intro u W hB _ hd _ K hK
      have HK := Lib.hid hK; clear hK
      have e8 : u 8 = .bool true := hd 8 (by decide +kernel)
      refine wpOp_of rfl (by rw [← u1_eq e8]; kernel_rfl) ?_
      go_simp
      exact k_of (HK.out (.slice A1 bl.length c1) _ rfl hB (Below.refl _ _)) (by rw [← u1_eq e8]; kernel_rfl)
    · intro u W hB _ hd _ K hK
      have HK := Lib.hid hK; clear hK
      have e9 : u 9 = .slice A1 bl.length c1 := hd 9 (by decide +kernel)
      have e8 : u 8 = .bool true := hd 8 (by decide +kernel)
      refine wpOp_of rfl (by rw [← u1_eq e8]; kernel_rfl) ?_
      go_simp
      exact k_of (HK.out (.int .i64 ((bl.length : Int))) _ rfl hB (Below.refl _ _)) (by rw [← u1_eq e9, ← u1_eq e8]; kernel_rfl)
    · intro u W hB _ hd _ K hK
      have HK := Lib.hid hK; clear hK
      have e8 : u 8 = .bool true := hd 8 (by decide +kernel)
      refine wpOp_of rfl (by rw [← u1_eq e8]; kernel_rfl) ?_
      go_simp
      exact k_of (HK.out (.int .i64 ((l.length : Int))) _ rfl hB (Below.refl _ _)) (by rw [← u1_eq e8]; kernel_rfl)
    · intro u W hB _ hd _ K hK
      have HK := Lib.hid hK; clear hK
      have e10 : u 10 = .int .i64 ((bl.length : Int)) := hd 10 (by decide +kernel)
      have e11 : u 11 = .int .i64 ((l.length : Int)) := hd 11 (by decide +kernel)
      have e8 : u 8 = .bool true := hd 8 (by decide +kernel)
      refine wpOp_of rfl (by rw [← u1_eq e8]; kernel_rfl) ?_
      go_simp
      exact k_of (HK.out (.bool false) _ rfl hB (Below.refl _ _)) (by rw [← u1_eq e10, ← u1_eq e11, ← u1_eq e8]; kernel_rfl)
    · intro u W hB _ hd _ K hK
      have HK := Lib.hid hK; clear hK
      have e12 : u 12 = .bool false := hd 12 (by decide +kernel)
      have e8 : u 8 = .bool true := hd 8 (by decide +kernel)
      refine wpOp_of rfl (by rw [← u1_eq e8]; kernel_rfl) ?_
      go_simp
      exact k_of (HK.out (.bool false) _ rfl hB (Below.refl _ _)) (by rw [← u1_eq e12, ← u1_eq e8]; kernel_rfl)
    · intro u W hB _ hd _ K hK
      have HK := Lib.hid hK; clear hK
      have e13 : u 13 = .bool false := hd 13 (by decide +kernel)
      refine wpOp_of rfl (by rw [← u1_eq e13]; kernel_rfl) ?_
      go_simp
      exact k_of (HK.out (.int .i64 ((l.length : Int))) _ rfl hB (Below.refl _ _)) (by rw [← u1_eq e13]; kernel_rfl)
    · intro u W hB _ hd _ K hK
      have HK := Lib.hid hK; clear hK
      have e14 : u 14 = .int .i64 ((l.length : Int)) := hd 14 (by decide +kernel)
      have e13 : u 13 = .bool false := hd 13 (by decide +kernel)
      refine wpOp_of rfl (by rw [← u1_eq e13]; kernel_rfl) ?_
      go_simp
      exact k_of (HK.out (.bool true) _ rfl hB (Below.refl _ _)) (by rw [← u1_eq e14, ← u1_eq e13]; kernel_rfl)
    · intro u W hB _ hd _ K hK
      have HK := Lib.hid hK; clear hK
      have e13 : u 13 = .bool false := hd 13 (by decide +kernel)
      have e15 : u 15 = .bool true := hd 15 (by decide +kernel)
      have e8 : u 8 = .bool true := hd 8 (by decide +kernel)
      refine wpOp_of rfl (by rw [← u1_eq e8]; kernel_rfl) ?_
      go_simp
      exact k_of (HK.out (.bool true) _ rfl hB (Below.refl _ _)) (by rw [← u1_eq e13, ← u1_eq e15, ← u1_eq e8]; kernel_rfl)
    · intro u W hB _ hd _ K hK
      have HK := Lib.hid hK; clear hK
      have e16 : u 16 = .bool true := hd 16 (by decide +kernel)
      have e8 : u 8 = .bool true := hd 8 (by decide +kernel)
      refine wpOp_of rfl (by rw [← u1_eq e8]; kernel_rfl) ?_
      go_simp
      exact k_of (HK.out (.bool true) _ rfl hB (Below.refl _ _)) (by rw [← u1_eq e16, ← u1_eq e8]; kernel_rfl)
    · intro u W hB _ hd _ K hK
      have HK := Lib.hid hK; clear hK
      have e17 : u 17 = .bool true := hd 17 (by decide +kernel)
      refine wpOp_skip rfl (by rw [← u1_eq e17]; kernel_rfl) ?_
      exact k_of (HK.out undef _ rfl hB (Below.refl _ _)) (by rw [← u1_eq e17]; kernel_rfl)
    · intro u W hB _ hd _ K hK
      have HK := Lib.hid hK; clear hK
      have e17 : u 17 = .bool true := hd 17 (by decide +kernel)
      refine wpOp_skip rfl (by rw [← u1_eq e17]; kernel_rfl) ?_
      exact k_of (HK.out undef _ rfl hB (Below.refl _ _)) (by rw [← u1_eq e17]; kernel_rfl)
    · intro u W hB _ hd _ K hK
      have HK := Lib.hid hK; clear hK
      have e17 : u 17 = .bool true := hd 17 (by decide +kernel)
      refine wpOp_skip rfl (by rw [← u1_eq e17]; kernel_rfl) ?_
      exact k_of (HK.out undef _ rfl hB (Below.refl _ _)) (by rw [← u1_eq e17]; kernel_rfl)
    · intro u W hB _ hd _ K hK
      have HK := Lib.hid hK; clear hK
      have e17 : u 17 = .bool true := hd 17 (by decide +kernel)
      refine wpOp_skip rfl (by rw [← u1_eq e17]; kernel_rfl) ?_
      exact k_of (HK.out undef _ rfl hB (Below.refl _ _)) (by rw [← u1_eq e17]; kernel_rfl)
    · intro u W hB _ hd _ K hK
      have HK := Lib.hid hK; clear hK
      have e17 : u 17 = .bool true := hd 17 (by decide +kernel)
      refine wpOp_skip rfl (by rw [← u1_eq e17]; kernel_rfl) ?_
      exact k_of (HK.out undef _ rfl hB (Below.refl _ _)) (by rw [← u1_eq e17]; kernel_rfl)
    · intro u W hB _ hd _ K hK
      have HK := Lib.hid hK; clear hK
      have e17 : u 17 = .bool true := hd 17 (by decide +kernel)
      refine wpOp_skip rfl (by rw [← u1_eq e17]; kernel_rfl) ?_
      exact k_of (HK.out undef _ rfl hB (Below.refl _ _)) (by rw [← u1_eq e17]; kernel_rfl)
    · intro u W hB _ hd _ K hK
      have HK := Lib.hid hK; clear hK
      have e17 : u 17 = .bool true := hd 17 (by decide +kernel)
      refine wpOp_skip rfl (by rw [← u1_eq e17]; kernel_rfl) ?_
      exact k_of (HK.out undef _ rfl hB (Below.refl _ _)) (by rw [← u1_eq e17]; kernel_rfl)
    · intro u W hB _ hd _ K hK
      have HK := Lib.hid hK; clear hK
      have e17 : u 17 = .bool true := hd 17 (by decide +kernel)
      refine wpOp_skip rfl (by rw [← u1_eq e17]; kernel_rfl) ?_
      exact k_of (HK.out undef _ rfl hB (Below.refl _ _)) (by rw [← u1_eq e17]; kernel_rfl)
    · intro u W hB _ hd _ K hK
      have HK := Lib.hid hK; clear hK
      have e17 : u 17 = .bool true := hd 17 (by decide +kernel)
      refine wpOp_skip rfl (by rw [← u1_eq e17]; kernel_rfl) ?_
      exact k_of (HK.out undef _ rfl hB (Below.refl _ _)) (by rw [← u1_eq e17]; kernel_rfl)
    · intro u W hB _ hd _ K hK
      have HK := Lib.hid hK; clear hK
      have e17 : u 17 = .bool true := hd 17 (by decide +kernel)
      refine wpOp_skip rfl (by rw [← u1_eq e17]; kernel_rfl) ?_
      exact k_of (HK.out undef _ rfl hB (Below.refl _ _)) (by rw [← u1_eq e17]; kernel_rfl)
    · intro u W hB _ hd _ K hK
      have HK := Lib.hid hK; clear hK
      have e17 : u 17 = .bool true := hd 17 (by decide +kernel)
      refine wpOp_skip rfl (by rw [← u1_eq e17]; kernel_rfl) ?_
      exact k_of (HK.out undef _ rfl hB (Below.refl _ _)) (by rw [← u1_eq e17]; kernel_rfl)
    · intro u W hB _ hd _ K hK
      have HK := Lib.hid hK; clear hK
      have e17 : u 17 = .bool true := hd 17 (by decide +kernel)
      have e28 : u 28 = undef := hd 28 (by decide +kernel)
      have e8 : u 8 = .bool true := hd 8 (by decide +kernel)
      refine wpOp_of rfl (by rw [← u1_eq e8]; kernel_rfl) ?_
      go_simp
      exact k_of (HK.out (.bool true) _ rfl hB (Below.refl _ _)) (by rw [← u1_eq e17, ← u1_eq e28, ← u1_eq e8]; kernel_rfl)
    · intro u W hB _ hd _ K hK
      have HK := Lib.hid hK; clear hK
      have e8 : u 8 = .bool true := hd 8 (by decide +kernel)
      have e29 : u 29 = .bool true := hd 29 (by decide +kernel)
      refine wpOp_of rfl (by rfl) ?_
      go_simp
      exact k_of (HK.out (.bool true) _ rfl hB (Below.refl _ _)) (by rw [← u1_eq e8, ← u1_eq e29]; kernel_rfl)
    · intro u W hB _ hd _ K hK
      have HK := Lib.hid hK; clear hK
      have e30 : u 30 = .bool true := hd 30 (by decide +kernel)
      refine wpOp_of rfl (by rfl) ?_
      go_simp
      exact k_of (HK.out (.bool true) _ rfl hB (Below.refl _ _)) (by rw [← u1_eq e30]; kernel_rfl)
    · intro u W hB _ hd _ K hK
      have HK := Lib.hid hK; clear hK
      have e31 : u 31 = .bool true := hd 31 (by decide +kernel)
      refine wpOp_of rfl (by rw [← u1_eq e31]; kernel_rfl) ?_
      go_simp
      refine (awake_any _).mono ?_
      rintro e w' ⟨rfl, hb⟩
      exact k_of (HK.out (.bool true) _ rfl (hB.out.on hb) hb) (by rw [← u1_eq e31]; kernel_rfl)
    · intro u W hB _ hd _ K hK
      have HK := Lib.hid hK; clear hK
      have e31 : u 31 = .bool true := hd 31 (by decide +kernel)
      have e32 : u 32 = .bool true := hd 32 (by decide +kernel)
      refine wpOp_of rfl (by rfl) ?_
      go_simp
      exact k_of (HK.out (.bool true) _ rfl hB (Below.refl _ _)) (by rw [← u1_eq e31, ← u1_eq e32]; kernel_rfl)
    · intro u W hB _ hd _ K hK
      have HK := Lib.hid hK; clear hK
      have e33 : u 33 = .bool true := hd 33 (by decide +kernel)
      refine wpOp_of rfl (by rfl) ?_
      go_simp
      exact k_of (HK.out (.bool true) _ rfl hB (Below.refl _ _)) (by rw [← u1_eq e33]; kernel_rfl)
  · intro u W hB hd
    exact HQ.out u W (hd 34 (by decide)) hB.out
/-- What each operation leaves. -/
def lf3V (b1 o1 b2 o2 c1 c k : Nat) (x y : Int) (bl l : List Int) : Nat → Value
  | 0 => .int .i64 (0)
  | 1 => .bool true
  | 2 => .bool true
  | 3 => .slice (some ⟨b1, o1, none⟩) bl.length c1
  | 4 => .int .i64 ((bl.length : Int))
  | 5 => .int .i64 ((l.length : Int))
  | 6 => .bool true
  | 7 => .bool true
  | 8 => .bool true
  | 9 => .slice (some ⟨b1, o1, none⟩) bl.length c1
  | 10 => .int .i64 ((bl.length : Int))
  | 11 => .int .i64 ((l.length : Int))
  | 12 => .bool false
  | 13 => .bool false
  | 14 => .int .i64 ((l.length : Int))
  | 15 => .bool false
  | 16 => .bool false
  | 17 => .bool false
  | 18 => .slice (some ⟨b1, o1, none⟩) bl.length c1
  | 19 => .int .i64 ((l.length : Int))
  | 20 => .int .i64 ((k : Int))
  | 21 => .pointer (some ⟨b1, o1 + k, none⟩)
  | 22 => .int .i64 (x)
  | 23 => .slice (some ⟨b2, o2, none⟩) l.length c
  | 24 => .int .i64 ((l.length : Int))
  | 25 => .int .i64 ((k : Int))
  | 26 => .pointer (some ⟨b2, o2 + k, none⟩)
  | 27 => .int .i64 (y)
  | 28 => .bool true
  | 29 => .bool true
  | 30 => .bool true
  | 31 => .bool true
  | 32 => .bool true
  | 33 => .bool true
  | 34 => .bool true
  | _ => undef
set_option maxRecDepth 100000 in
set_option maxHeartbeats 8000000 in
theorem lf3_region {w W0 : World} {m : Md} {K : Nat} {x1 x2 x3 x4 : Int} {b1 o1 b2 o2 c1 c k : Nat} {x y : Int} {bl l : List Int} {Q : Exit → Act → World → Prop} {s0 s2 s3 s7 s8 s10 s11 s12 s13 s14 s15 s16 s17 s18 s19 s20 s21 s22 s23 s24 s25 s26 s27 s28 s29 s30 s31 s32 s33 s34 s35 s36 s37 s38 s39 s40 s41 s42 s43 s44 s45 s46 s47 s48 s49 s50 s51 s52 s53 s54 s55 s56 s57 s58 s59 s60 s61 : Value} (HL : Hid (LfB w m K x1 x2 x3 x4 (some ⟨b1, o1, none⟩) bl (some ⟨b2, o2, none⟩) l W0)) (h1 : (bl.length : Int) ≤ l.length) (h2 : ¬ (bl.length : Int) < l.length) (h3 : ((l.length : Int) == 0) = false) (h4 : IntKind.i64.wrap ((l.length : Int) - 1) = k) (h5 : (k : Int) < bl.length) (h6 : (k : Int) < l.length) (hx : bl[k]? = some x) (hy : l[k]? = some y) (hyx : y ≤ x)
    (HQ : Hid (∀ (u : Nat → Value) (W : World), u 34 = .bool true → LfB w m K x1 x2 x3 x4 (some ⟨b1, o1, none⟩) bl (some ⟨b2, o2, none⟩) l W → Q .normal ⟨#[s0, .slice (some ⟨b2, o2, none⟩) l.length c, s2, s3, u 34, .slice (some ⟨b1, o1, none⟩) bl.length c1, .int .i64 0, s7, s8, .int .i64 (l.length : Int), s10, s11, s12, s13, s14, s15, s16, s17, s18, s19, s20, s21, s22, s23, s24, s25, s26, s27, s28, s29, s30, s31, s32, s33, s34, s35, s36, s37, s38, s39, s40, s41, s42, s43, s44, s45, s46, s47, s48, s49, s50, s51, s52, s53, s54, s55, s56, s57, s58, s59, s60, s61, u 0, u 1, u 2, u 3, u 4, u 5, u 6, u 7, u 8, u 9, u 10, u 11, u 12, u 13, u 14, u 15, u 16, u 17, u 18, u 19, u 20, u 21, u 22, u 23, u 24, u 25, u 26, u 27, u 28, u 29, u 30, u 31, u 32, u 33], []⟩ W)) :
    Code.wp Try.prog ((Try.f12.body.bind (regionAt 10)).getD .skip) Q ⟨#[s0, .slice (some ⟨b2, o2, none⟩) l.length c, s2, s3, .bool false, .slice (some ⟨b1, o1, none⟩) bl.length c1, .int .i64 0, s7, s8, .int .i64 (l.length : Int), s10, s11, s12, s13, s14, s15, s16, s17, s18, s19, s20, s21, s22, s23, s24, s25, s26, s27, s28, s29, s30, s31, s32, s33, s34, s35, s36, s37, s38, s39, s40, s41, s42, s43, s44, s45, s46, s47, s48, s49, s50, s51, s52, s53, s54, s55, s56, s57, s58, s59, s60, s61, undef, undef, undef, undef, undef, undef, undef, undef, undef, undef, undef, undef, undef, undef, undef, undef, undef, undef, undef, undef, undef, undef, undef, undef, undef, undef, undef, undef, undef, undef, undef, undef, undef, undef], []⟩ W0 := by
  conv => arg 2; whnf
  refine wp_region_spec (by kernel_rfl) 35 (by kernel_rfl) (fun u => ⟨#[s0, .slice (some ⟨b2, o2, none⟩) l.length c, s2, s3, u 34, .slice (some ⟨b1, o1, none⟩) bl.length c1, .int .i64 0, s7, s8, .int .i64 (l.length : Int), s10, s11, s12, s13, s14, s15, s16, s17, s18, s19, s20, s21, s22, s23, s24, s25, s26, s27, s28, s29, s30, s31, s32, s33, s34, s35, s36, s37, s38, s39, s40, s41, s42, s43, s44, s45, s46, s47, s48, s49, s50, s51, s52, s53, s54, s55, s56, s57, s58, s59, s60, s61, u 0, u 1, u 2, u 3, u 4, u 5, u 6, u 7, u 8, u 9, u 10, u 11, u 12, u 13, u 14, u 15, u 16, u 17, u 18, u 19, u 20, u 21, u 22, u 23, u 24, u 25, u 26, u 27, u 28, u 29, u 30, u 31, u 32, u 33], []⟩) (fun i => if i = 34 then .bool false else undef) (fun W => Hid (LfB w m K x1 x2 x3 x4 (some ⟨b1, o1, none⟩) bl (some ⟨b2, o2, none⟩) l W)) (fun i v _ => v = lf3V b1 o1 b2 o2 c1 c k x y bl l i) (by kernel_rfl) (HL.out.on (Below.refl _ _).drew) (fun _ _ _ _ _ h _ => h) (by decide +kernel) ?_ ?_
  · iterate 35 (refine all_succ ?_ ?_)
    · exact all_zero
    · intro u W hB _ hd _ K hK
      have HK := Lib.hid hK; clear hK
      refine wpOp_of rfl (by rfl) ?_
      go_simp
      exact k_of (HK.out (.int .i64 (0)) _ rfl hB (Below.refl _ _)) (by kernel_rfl)
    · intro u W hB _ hd _ K hK
      have HK := Lib.hid hK; clear hK
      have e0 : u 0 = .int .i64 (0) := hd 0 (by decide +kernel)
      refine wpOp_of rfl (by rfl) ?_
      go_simp
      exact k_of (HK.out (.bool true) _ rfl hB (Below.refl _ _)) (by rw [← u1_eq e0]; kernel_rfl)
    · intro u W hB _ hd _ K hK
      have HK := Lib.hid hK; clear hK
      have e1 : u 1 = .bool true := hd 1 (by decide +kernel)
      refine wpOp_of rfl (by rfl) ?_
      go_simp
      exact k_of (HK.out (.bool true) _ rfl hB (Below.refl _ _)) (by rw [← u1_eq e1]; kernel_rfl)
    · intro u W hB _ hd _ K hK
      have HK := Lib.hid hK; clear hK
      have e2 : u 2 = .bool true := hd 2 (by decide +kernel)
      refine wpOp_of rfl (by rw [← u1_eq e2]; kernel_rfl) ?_
      go_simp
      exact k_of (HK.out (.slice (some ⟨b1, o1, none⟩) bl.length c1) _ rfl hB (Below.refl _ _)) (by rw [← u1_eq e2]; kernel_rfl)
    · intro u W hB _ hd _ K hK
      have HK := Lib.hid hK; clear hK
      have e3 : u 3 = .slice (some ⟨b1, o1, none⟩) bl.length c1 := hd 3 (by decide +kernel)
      have e2 : u 2 = .bool true := hd 2 (by decide +kernel)
      refine wpOp_of rfl (by rw [← u1_eq e2]; kernel_rfl) ?_
      go_simp
      exact k_of (HK.out (.int .i64 ((bl.length : Int))) _ rfl hB (Below.refl _ _)) (by rw [← u1_eq e3, ← u1_eq e2]; kernel_rfl)
    · intro u W hB _ hd _ K hK
      have HK := Lib.hid hK; clear hK
      have e2 : u 2 = .bool true := hd 2 (by decide +kernel)
      refine wpOp_of rfl (by rw [← u1_eq e2]; kernel_rfl) ?_
      go_simp
      exact k_of (HK.out (.int .i64 ((l.length : Int))) _ rfl hB (Below.refl _ _)) (by rw [← u1_eq e2]; kernel_rfl)
    · intro u W hB _ hd _ K hK
      have HK := Lib.hid hK; clear hK
      have e4 : u 4 = .int .i64 ((bl.length : Int)) := hd 4 (by decide +kernel)
      have e5 : u 5 = .int .i64 ((l.length : Int)) := hd 5 (by decide +kernel)
      have e2 : u 2 = .bool true := hd 2 (by decide +kernel)
      refine wpOp_of rfl (by rw [← u1_eq e2]; kernel_rfl) ?_
      go_simp
      exact k_of (HK.out (.bool true) _ rfl hB (Below.refl _ _)) (by rw [← u1_eq e4, ← u1_eq e5, ← u1_eq e2]; kernel_rfl)
    · intro u W hB _ hd _ K hK
      have HK := Lib.hid hK; clear hK
      have e2 : u 2 = .bool true := hd 2 (by decide +kernel)
      have e6 : u 6 = .bool true := hd 6 (by decide +kernel)
      refine wpOp_of rfl (by rfl) ?_
      go_simp
      exact k_of (HK.out (.bool true) _ rfl hB (Below.refl _ _)) (by rw [← u1_eq e2, ← u1_eq e6]; kernel_rfl)
    · intro u W hB _ hd _ K hK
      have HK := Lib.hid hK; clear hK
      have e7 : u 7 = .bool true := hd 7 (by decide +kernel)
      refine wpOp_of rfl (by rfl) ?_
      go_simp
      exact k_of (HK.out (.bool true) _ rfl hB (Below.refl _ _)) (by rw [← u1_eq e7]; kernel_rfl)
    · intro u W hB _ hd _ K hK
      have HK := Lib.hid hK; clear hK
      have e8 : u 8 = .bool true := hd 8 (by decide +kernel)
      refine wpOp_of rfl (by rw [← u1_eq e8]; kernel_rfl) ?_
      go_simp
      exact k_of (HK.out (.slice (some ⟨b1, o1, none⟩) bl.length c1) _ rfl hB (Below.refl _ _)) (by rw [← u1_eq e8]; kernel_rfl)
    · intro u W hB _ hd _ K hK
      have HK := Lib.hid hK; clear hK
      have e9 : u 9 = .slice (some ⟨b1, o1, none⟩) bl.length c1 := hd 9 (by decide +kernel)
      have e8 : u 8 = .bool true := hd 8 (by decide +kernel)
      refine wpOp_of rfl (by rw [← u1_eq e8]; kernel_rfl) ?_
      go_simp
      exact k_of (HK.out (.int .i64 ((bl.length : Int))) _ rfl hB (Below.refl _ _)) (by rw [← u1_eq e9, ← u1_eq e8]; kernel_rfl)
    · intro u W hB _ hd _ K hK
      have HK := Lib.hid hK; clear hK
      have e8 : u 8 = .bool true := hd 8 (by decide +kernel)
      refine wpOp_of rfl (by rw [← u1_eq e8]; kernel_rfl) ?_
      go_simp
      exact k_of (HK.out (.int .i64 ((l.length : Int))) _ rfl hB (Below.refl _ _)) (by rw [← u1_eq e8]; kernel_rfl)
    · intro u W hB _ hd _ K hK
      have HK := Lib.hid hK; clear hK
      have e10 : u 10 = .int .i64 ((bl.length : Int)) := hd 10 (by decide +kernel)
      have e11 : u 11 = .int .i64 ((l.length : Int)) := hd 11 (by decide +kernel)
      have e8 : u 8 = .bool true := hd 8 (by decide +kernel)
      refine wpOp_of rfl (by rw [← u1_eq e8]; kernel_rfl) ?_
      go_simp
      exact k_of (HK.out (.bool false) _ rfl hB (Below.refl _ _)) (by rw [← u1_eq e10, ← u1_eq e11, ← u1_eq e8]; kernel_rfl)
    · intro u W hB _ hd _ K hK
      have HK := Lib.hid hK; clear hK
      have e12 : u 12 = .bool false := hd 12 (by decide +kernel)
      have e8 : u 8 = .bool true := hd 8 (by decide +kernel)
      refine wpOp_of rfl (by rw [← u1_eq e8]; kernel_rfl) ?_
      go_simp
      exact k_of (HK.out (.bool false) _ rfl hB (Below.refl _ _)) (by rw [← u1_eq e12, ← u1_eq e8]; kernel_rfl)
    · intro u W hB _ hd _ K hK
      have HK := Lib.hid hK; clear hK
      have e13 : u 13 = .bool false := hd 13 (by decide +kernel)
      refine wpOp_of rfl (by rw [← u1_eq e13]; kernel_rfl) ?_
      go_simp
      exact k_of (HK.out (.int .i64 ((l.length : Int))) _ rfl hB (Below.refl _ _)) (by rw [← u1_eq e13]; kernel_rfl)
    · intro u W hB _ hd _ K hK
      have HK := Lib.hid hK; clear hK
      have e14 : u 14 = .int .i64 ((l.length : Int)) := hd 14 (by decide +kernel)
      have e13 : u 13 = .bool false := hd 13 (by decide +kernel)
      refine wpOp_of rfl (by rw [← u1_eq e13]; kernel_rfl) ?_
      go_simp
      exact k_of (HK.out (.bool false) _ rfl hB (Below.refl _ _)) (by rw [← u1_eq e14, ← u1_eq e13]; kernel_rfl)
    · intro u W hB _ hd _ K hK
      have HK := Lib.hid hK; clear hK
      have e13 : u 13 = .bool false := hd 13 (by decide +kernel)
      have e15 : u 15 = .bool false := hd 15 (by decide +kernel)
      have e8 : u 8 = .bool true := hd 8 (by decide +kernel)
      refine wpOp_of rfl (by rw [← u1_eq e8]; kernel_rfl) ?_
      go_simp
      exact k_of (HK.out (.bool false) _ rfl hB (Below.refl _ _)) (by rw [← u1_eq e13, ← u1_eq e15, ← u1_eq e8]; kernel_rfl)
    · intro u W hB _ hd _ K hK
      have HK := Lib.hid hK; clear hK
      have e16 : u 16 = .bool false := hd 16 (by decide +kernel)
      have e8 : u 8 = .bool true := hd 8 (by decide +kernel)
      refine wpOp_of rfl (by rw [← u1_eq e8]; kernel_rfl) ?_
      go_simp
      exact k_of (HK.out (.bool false) _ rfl hB (Below.refl _ _)) (by rw [← u1_eq e16, ← u1_eq e8]; kernel_rfl)
    · intro u W hB _ hd _ K hK
      have HK := Lib.hid hK; clear hK
      have e17 : u 17 = .bool false := hd 17 (by decide +kernel)
      refine wpOp_of rfl (by rw [← u1_eq e17]; kernel_rfl) ?_
      go_simp
      exact k_of (HK.out (.slice (some ⟨b1, o1, none⟩) bl.length c1) _ rfl hB (Below.refl _ _)) (by rw [← u1_eq e17]; kernel_rfl)
    · intro u W hB _ hd _ K hK
      have HK := Lib.hid hK; clear hK
      have e17 : u 17 = .bool false := hd 17 (by decide +kernel)
      refine wpOp_of rfl (by rw [← u1_eq e17]; kernel_rfl) ?_
      go_simp
      exact k_of (HK.out (.int .i64 ((l.length : Int))) _ rfl hB (Below.refl _ _)) (by rw [← u1_eq e17]; kernel_rfl)
    · intro u W hB _ hd _ K hK
      have HK := Lib.hid hK; clear hK
      have e19 : u 19 = .int .i64 ((l.length : Int)) := hd 19 (by decide +kernel)
      have e17 : u 17 = .bool false := hd 17 (by decide +kernel)
      refine wpOp_of rfl (by rw [← u1_eq e17]; kernel_rfl) ?_
      go_simp
      exact k_of (HK.out (.int .i64 ((k : Int))) _ rfl hB (Below.refl _ _)) (by rw [← u1_eq e19, ← u1_eq e17]; kernel_rfl)
    · intro u W hB _ hd _ K hK
      have HK := Lib.hid hK; clear hK
      have e18 : u 18 = .slice (some ⟨b1, o1, none⟩) bl.length c1 := hd 18 (by decide +kernel)
      have e20 : u 20 = .int .i64 ((k : Int)) := hd 20 (by decide +kernel)
      have e17 : u 17 = .bool false := hd 17 (by decide +kernel)
      refine wpOp_of rfl (by rw [← u1_eq e17]; kernel_rfl) ?_
      go_simp
      exact k_of (HK.out (.pointer (some ⟨b1, o1 + k, none⟩)) _ rfl hB (Below.refl _ _)) (by rw [← u1_eq e18, ← u1_eq e20, ← u1_eq e17]; kernel_rfl)
    · intro u W hB _ hd _ K hK
      have HK := Lib.hid hK; clear hK
      have e21 : u 21 = .pointer (some ⟨b1, o1 + k, none⟩) := hd 21 (by decide +kernel)
      have e17 : u 17 = .bool false := hd 17 (by decide +kernel)
      refine wpOp_of rfl (by rw [← u1_eq e17]; kernel_rfl) ?_
      obtain ⟨bb, oo, ee, _, cx⟩ := ints_at hB.out.q.at_ hx
      cases ee
      go_simp
      exact k_of (HK.out (.int .i64 (x)) _ rfl hB (Below.refl _ _)) (by rw [← u1_eq e21, ← u1_eq e17]; kernel_rfl)
    · intro u W hB _ hd _ K hK
      have HK := Lib.hid hK; clear hK
      have e17 : u 17 = .bool false := hd 17 (by decide +kernel)
      refine wpOp_of rfl (by rw [← u1_eq e17]; kernel_rfl) ?_
      go_simp
      exact k_of (HK.out (.slice (some ⟨b2, o2, none⟩) l.length c) _ rfl hB (Below.refl _ _)) (by rw [← u1_eq e17]; kernel_rfl)
    · intro u W hB _ hd _ K hK
      have HK := Lib.hid hK; clear hK
      have e17 : u 17 = .bool false := hd 17 (by decide +kernel)
      refine wpOp_of rfl (by rw [← u1_eq e17]; kernel_rfl) ?_
      go_simp
      exact k_of (HK.out (.int .i64 ((l.length : Int))) _ rfl hB (Below.refl _ _)) (by rw [← u1_eq e17]; kernel_rfl)
    · intro u W hB _ hd _ K hK
      have HK := Lib.hid hK; clear hK
      have e24 : u 24 = .int .i64 ((l.length : Int)) := hd 24 (by decide +kernel)
      have e17 : u 17 = .bool false := hd 17 (by decide +kernel)
      refine wpOp_of rfl (by rw [← u1_eq e17]; kernel_rfl) ?_
      go_simp
      exact k_of (HK.out (.int .i64 ((k : Int))) _ rfl hB (Below.refl _ _)) (by rw [← u1_eq e24, ← u1_eq e17]; kernel_rfl)
    · intro u W hB _ hd _ K hK
      have HK := Lib.hid hK; clear hK
      have e23 : u 23 = .slice (some ⟨b2, o2, none⟩) l.length c := hd 23 (by decide +kernel)
      have e25 : u 25 = .int .i64 ((k : Int)) := hd 25 (by decide +kernel)
      have e17 : u 17 = .bool false := hd 17 (by decide +kernel)
      refine wpOp_of rfl (by rw [← u1_eq e17]; kernel_rfl) ?_
      go_simp
      exact k_of (HK.out (.pointer (some ⟨b2, o2 + k, none⟩)) _ rfl hB (Below.refl _ _)) (by rw [← u1_eq e23, ← u1_eq e25, ← u1_eq e17]; kernel_rfl)
    · intro u W hB _ hd _ K hK
      have HK := Lib.hid hK; clear hK
      have e26 : u 26 = .pointer (some ⟨b2, o2 + k, none⟩) := hd 26 (by decide +kernel)
      have e17 : u 17 = .bool false := hd 17 (by decide +kernel)
      refine wpOp_of rfl (by rw [← u1_eq e17]; kernel_rfl) ?_
      obtain ⟨bb, oo, ee, _, cx⟩ := ints_at hB.out.p.at_ hy
      cases ee
      go_simp
      exact k_of (HK.out (.int .i64 (y)) _ rfl hB (Below.refl _ _)) (by rw [← u1_eq e26, ← u1_eq e17]; kernel_rfl)
    · intro u W hB _ hd _ K hK
      have HK := Lib.hid hK; clear hK
      have e22 : u 22 = .int .i64 (x) := hd 22 (by decide +kernel)
      have e27 : u 27 = .int .i64 (y) := hd 27 (by decide +kernel)
      have e17 : u 17 = .bool false := hd 17 (by decide +kernel)
      refine wpOp_of rfl (by rw [← u1_eq e17]; kernel_rfl) ?_
      go_simp
      exact k_of (HK.out (.bool true) _ rfl hB (Below.refl _ _)) (by rw [← u1_eq e22, ← u1_eq e27, ← u1_eq e17]; kernel_rfl)
    · intro u W hB _ hd _ K hK
      have HK := Lib.hid hK; clear hK
      have e17 : u 17 = .bool false := hd 17 (by decide +kernel)
      have e28 : u 28 = .bool true := hd 28 (by decide +kernel)
      have e8 : u 8 = .bool true := hd 8 (by decide +kernel)
      refine wpOp_of rfl (by rw [← u1_eq e8]; kernel_rfl) ?_
      go_simp
      exact k_of (HK.out (.bool true) _ rfl hB (Below.refl _ _)) (by rw [← u1_eq e17, ← u1_eq e28, ← u1_eq e8]; kernel_rfl)
    · intro u W hB _ hd _ K hK
      have HK := Lib.hid hK; clear hK
      have e8 : u 8 = .bool true := hd 8 (by decide +kernel)
      have e29 : u 29 = .bool true := hd 29 (by decide +kernel)
      refine wpOp_of rfl (by rfl) ?_
      go_simp
      exact k_of (HK.out (.bool true) _ rfl hB (Below.refl _ _)) (by rw [← u1_eq e8, ← u1_eq e29]; kernel_rfl)
    · intro u W hB _ hd _ K hK
      have HK := Lib.hid hK; clear hK
      have e30 : u 30 = .bool true := hd 30 (by decide +kernel)
      refine wpOp_of rfl (by rfl) ?_
      go_simp
      exact k_of (HK.out (.bool true) _ rfl hB (Below.refl _ _)) (by rw [← u1_eq e30]; kernel_rfl)
    · intro u W hB _ hd _ K hK
      have HK := Lib.hid hK; clear hK
      have e31 : u 31 = .bool true := hd 31 (by decide +kernel)
      refine wpOp_of rfl (by rw [← u1_eq e31]; kernel_rfl) ?_
      go_simp
      refine (awake_any _).mono ?_
      rintro e w' ⟨rfl, hb⟩
      exact k_of (HK.out (.bool true) _ rfl (hB.out.on hb) hb) (by rw [← u1_eq e31]; kernel_rfl)
    · intro u W hB _ hd _ K hK
      have HK := Lib.hid hK; clear hK
      have e31 : u 31 = .bool true := hd 31 (by decide +kernel)
      have e32 : u 32 = .bool true := hd 32 (by decide +kernel)
      refine wpOp_of rfl (by rfl) ?_
      go_simp
      exact k_of (HK.out (.bool true) _ rfl hB (Below.refl _ _)) (by rw [← u1_eq e31, ← u1_eq e32]; kernel_rfl)
    · intro u W hB _ hd _ K hK
      have HK := Lib.hid hK; clear hK
      have e33 : u 33 = .bool true := hd 33 (by decide +kernel)
      refine wpOp_of rfl (by rfl) ?_
      go_simp
      exact k_of (HK.out (.bool true) _ rfl hB (Below.refl _ _)) (by rw [← u1_eq e33]; kernel_rfl)
  · intro u W hB hd
    exact HQ.out u W (hd 34 (by decide)) hB.out
end Go.Proofs.Ytljbjcnfkbmjkaa
