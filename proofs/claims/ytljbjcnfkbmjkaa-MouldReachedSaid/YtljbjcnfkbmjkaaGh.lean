/- Layer mould, a part: regions of the law. No statement is proved here. -/
import Derived.Test.YtljbjcnfkbmjkaaMga
import Derived.Test.YtljbjcnfkbmjkaaMeH
import Derived.Test.YtljbjcnfkbmjkaaMg5
import Derived.Test.YtljbjcnfkbmjkaaGa
import Derived.Test.YtljbjcnfkbmjkaaMgr
namespace Go.Proofs.Ytljbjcnfkbmjkaa
open Go.RowKit Go.Shelf Go.Maps

theorem spn_same (x y : Int) (W : World) : (binOp .neq 23 (.agg #[.int .i64 x, .int .i64 y]) (.agg #[.int .i64 x, .int .i64 y])).run Try.prog W = .ok (.bool false) W := by
  have := span_neq (x, y) (x, y) W
  simpa using this
theorem zip_get {a b : List Int} {k : Nat} {x y : Int} (h1 : a[k]? = some x) (h2 : b[k]? = some y) : (zipS a b)[k]? = some (x, y) := by
  unfold zipS
  rw [List.getElem?_zipWith, h1, h2]
theorem never_step {b : List Int} {k : Nat} {y : Int} (h : b[k]? = some y) : never (b.take (k + 1)) = (never (b.take k) || decide (y < 0)) := by
  unfold never
  rw [List.take_add_one, h, List.any_append]
  simp
theorem warm_ok {m : Md} (h : checkM m = 0) {N : Nat} (hN : N ≤ 600) : warmR m (N : Int) = (zipS (warmL m false N) (warmL m true N), 0) := by
  unfold warmR
  rw [if_neg (fun h2 => h2 h), if_pos (inB_iff.2 ⟨by omega, by omega⟩), Int.toNat_natCast]
theorem skin_ok {m : Md} (h : checkM m = 0) {a b : List Int} (ha : wh m false = a) (hb : wh m true = b) {N : Nat} (hN : N ≤ 600) : skinR m (N : Int) = ((setN b N, setN a N), 0) := by
  unfold skinR
  rw [if_neg (fun h2 => h2 h), if_pos (inB_iff.2 ⟨by omega, by omega⟩), ha, hb]
section
variable {m : Md}
set_option maxRecDepth 100000 in
theorem warm_law (h : checkM m = 0) {N : Nat} (hN : N ≤ 600) (W : World) :
    Calls Try.prog 23 #[.agg #[.int .i64 m.rings, .int .i64 m.give, .int .i64 m.plo, .int .i64 m.phi, .int .i64 m.wlo, .int .i64 m.whi, .int .i64 m.st, .int .i64 m.shrink, .int .i64 m.skin, .int .i64 m.fill, .int .i64 m.gap, .int .i64 m.deep], .int .i64 (N : Int)] W fun e w' => ∃ A c, e = .returned (.tuple #[.slice A (kR m) c, .int .i64 0]) ∧ SpansIn w' A (zipS (warmL m false N) (warmL m true N)) ∧ Below W.heap.size W w' :=
  (mwarm_any m N W).mono fun e w' ⟨v, he, hv, hb⟩ => by
    rw [warm_ok h hN] at he hv
    obtain ⟨A, c, rfl, hin⟩ := SpansOut.in_ hv
    rw [zip_length (by rw [warmL_length, warmL_length]), warmL_length] at he
    exact ⟨A, c, he, hin, hb⟩
theorem skin_law (h : checkM m = 0) {a b : List Int} (ha : wh m false = a) (hb : wh m true = b) {N : Nat} (hN : N ≤ 600) (W : World) :
    Calls Try.prog 29 #[.agg #[.int .i64 m.rings, .int .i64 m.give, .int .i64 m.plo, .int .i64 m.phi, .int .i64 m.wlo, .int .i64 m.whi, .int .i64 m.st, .int .i64 m.shrink, .int .i64 m.skin, .int .i64 m.fill, .int .i64 m.gap, .int .i64 m.deep], .int .i64 (N : Int)] W fun e w' => e = .returned (.tuple #[.agg #[.int .i64 (setN b N), .int .i64 (setN a N)], .int .i64 0]) ∧ Below W.heap.size W w' :=
  (mskin_any m N W).mono fun e w' ⟨he, hb2⟩ => by
    rw [skin_ok h ha hb hN] at he
    exact ⟨he, hb2⟩
set_option maxRecDepth 100000 in
theorem cool_law (hok : MdOk m) (b : Bool) {N : Nat} (hN : N ≤ 600) (W : World) (A1 : Option Addr) (d1 : Nat) (A2 : Option Addr) (d2 : Nat) (hp : IntsIn W A1 (samP m b)) (hq : IntsIn W A2 (samW m b N)) :
    Calls Try.prog 20 #[.agg #[.int .i64 m.rings, .int .i64 m.give, .int .i64 m.plo, .int .i64 m.phi, .int .i64 m.wlo, .int .i64 m.whi, .int .i64 m.st, .int .i64 m.shrink, .int .i64 m.skin, .int .i64 m.fill, .int .i64 m.gap, .int .i64 m.deep], .agg #[.slice A1 (kR m) d1, .slice A2 N d2]] W fun e w' => ∃ A c, e = .returned (.tuple #[.slice A (kR m) c, .int .i64 0]) ∧ IntsIn w' A (warmL m b N) ∧ Below W.heap.size W w' := by
  have h := cool_any (c1 := d1) (c2 := d2) m hp hq
  rw [same_cool hok b hN, samP_length, samW_length] at h
  refine h.mono fun e w' ⟨v, he, hv, hb⟩ => ?_
  obtain ⟨A, c, rfl, hin⟩ := IntsOut.in_ hv
  rw [warmL_length] at he
  exact ⟨A, c, he, hin, hb⟩
theorem sets_good (h : checkM m = 0) {a b : List Int} (ha : wh m false = a) (hb : wh m true = b) (hn : never b = false) (W : World) :
    Calls Try.prog 27 #[.agg #[.int .i64 m.rings, .int .i64 m.give, .int .i64 m.plo, .int .i64 m.phi, .int .i64 m.wlo, .int .i64 m.whi, .int .i64 m.st, .int .i64 m.shrink, .int .i64 m.skin, .int .i64 m.fill, .int .i64 m.gap, .int .i64 m.deep]] W fun e w' => ∃ A c, e = .returned (.tuple #[.slice A (kR m) c, .int .i64 0]) ∧ SpansIn w' A (zipS a b) ∧ Below W.heap.size W w' :=
  (msets_any m W).mono fun e w' ⟨v, he, hv, hb2⟩ => by
    rw [setsR_good h ha hb hn] at he hv
    obtain ⟨A, c, rfl, hin⟩ := SpansOut.in_ hv
    have hla : a.length = kR m := by rw [← ha, wh_length]
    have hlb : b.length = kR m := by rw [← hb, wh_length]
    rw [zip_length (by rw [hla, hlb]), hla] at he
    exact ⟨A, c, he, hin, hb2⟩
theorem sets_never (h : checkM m = 0) {b : List Int} (hb : wh m true = b) (hn : never b = true) (W : World) :
    Calls Try.prog 27 #[.agg #[.int .i64 m.rings, .int .i64 m.give, .int .i64 m.plo, .int .i64 m.phi, .int .i64 m.wlo, .int .i64 m.whi, .int .i64 m.st, .int .i64 m.shrink, .int .i64 m.skin, .int .i64 m.fill, .int .i64 m.gap, .int .i64 m.deep]] W fun e w' => ∃ A c, e = .returned (.tuple #[.slice A 0 c, .int .i64 9]) ∧ Below W.heap.size W w' :=
  (msets_any m W).mono fun e w' ⟨v, he, hv, hb2⟩ => by
    rw [show setsR m = ([], 9) by unfold setsR; rw [if_neg (fun h2 => h2 h), hb, if_pos hn]] at he hv
    obtain ⟨A, c, rfl, hin⟩ := SpansOut.in_ hv
    exact ⟨A, c, he, hb2⟩
end
end Go.Proofs.Ytljbjcnfkbmjkaa

namespace Go.Proofs.Ytljbjcnfkbmjkaa
open Go.RowKit Go.Shelf Go.Maps
attribute [local go_sem] Oper.semAt_some

/-- What each operation leaves. -/
def lr6R (m : Md) (N : Nat) (cl : List Int) : Nat → Value → World → Prop
  | 0, v, _ => v = .agg #[.int .i64 m.rings, .int .i64 m.give, .int .i64 m.plo, .int .i64 m.phi, .int .i64 m.wlo, .int .i64 m.whi, .int .i64 m.st, .int .i64 m.shrink, .int .i64 m.skin, .int .i64 m.fill, .int .i64 m.gap, .int .i64 m.deep]
  | 1, v, _ => v = .agg #[.int .i64 m.rings, .int .i64 m.give, .int .i64 m.plo, .int .i64 m.phi, .int .i64 m.wlo, .int .i64 m.whi, .int .i64 m.st, .int .i64 m.shrink, .int .i64 m.skin, .int .i64 m.fill, .int .i64 m.gap, .int .i64 m.deep]
  | 2, v, _ => v = .int .i64 (N : Int)
  | 3, v, W => ∃ A1_3 d1_3 A2_3 d2_3, v = .agg #[.slice A1_3 (kR m) d1_3, .slice A2_3 N d2_3] ∧ IntsIn W A1_3 (samP m false) ∧ IntsIn W A2_3 (samW m false N)
  | 4, v, W => ∃ A_4 c_4, v = .tuple #[.slice A_4 (kR m) c_4, .int .i64 0] ∧ IntsIn W A_4 cl
  | 5, v, W => ∃ A_4 c_4, v = .tuple #[.slice A_4 (kR m) c_4, .int .i64 0] ∧ IntsIn W A_4 cl
  | 6, v, W => ∃ A_4 c_4, v = .slice A_4 (kR m) c_4 ∧ IntsIn W A_4 cl
  | 7, v, _ => v = .int .i64 0
  | 8, v, W => ∃ A_4 c_4, v = .slice A_4 (kR m) c_4 ∧ IntsIn W A_4 cl
  | 9, v, _ => v = .int .i64 0
  | _, _, _ => True
theorem lr6R_on (m : Md) (N : Nat) (cl : List Int) : ∀ i, i < 10 → ∀ v W W', lr6R m N cl i v W → Below W.heap.size W W' → lr6R m N cl i v W' := by
  iterate 10 (refine all_succ ?_ ?_)
  · exact all_zero
  · exact fun _ _ _ h _ => h
  · exact fun _ _ _ h _ => h
  · exact fun _ _ _ h _ => h
  · rintro v W W' ⟨A1_3, d1_3, A2_3, d2_3, e, h0, h1⟩ hb; exact ⟨A1_3, d1_3, A2_3, d2_3, e, h0.on hb, h1.on hb⟩
  · rintro v W W' ⟨A_4, c_4, e, h0⟩ hb; exact ⟨A_4, c_4, e, h0.on hb⟩
  · rintro v W W' ⟨A_4, c_4, e, h0⟩ hb; exact ⟨A_4, c_4, e, h0.on hb⟩
  · rintro v W W' ⟨A_4, c_4, e, h0⟩ hb; exact ⟨A_4, c_4, e, h0.on hb⟩
  · exact fun _ _ _ h _ => h
  · rintro v W W' ⟨A_4, c_4, e, h0⟩ hb; exact ⟨A_4, c_4, e, h0.on hb⟩
  · exact fun _ _ _ h _ => h
set_option maxRecDepth 100000 in
set_option maxHeartbeats 8000000 in
theorem lr6_region {S : World → Prop} (hon : ∀ W W', S W → Below W.heap.size W W' → S W') {w : World} {m : Md} (hM : ∀ W, S W → MdBk w w.heap.size 25 m W) {cl : List Int} (hok : MdOk m) {N : Nat} (hN : N ≤ 600) (HC : Hid (∀ (W : World) (A1 : Option Addr) (d1 : Nat) (A2 : Option Addr) (d2 : Nat), IntsIn W A1 (samP m false) → IntsIn W A2 (samW m false N) → Calls Try.prog 20 #[.agg #[.int .i64 m.rings, .int .i64 m.give, .int .i64 m.plo, .int .i64 m.phi, .int .i64 m.wlo, .int .i64 m.whi, .int .i64 m.st, .int .i64 m.shrink, .int .i64 m.skin, .int .i64 m.fill, .int .i64 m.gap, .int .i64 m.deep], .agg #[.slice A1 (kR m) d1, .slice A2 N d2]] W fun e w' => ∃ A c, e = .returned (.tuple #[.slice A (kR m) c, .int .i64 0]) ∧ IntsIn w' A cl ∧ Below W.heap.size W w')) {Q : Exit → Act → World → Prop} {s0 s1 s3 s4 s6 s7 s8 s9 s12 s13 s14 s15 s16 s17 s18 s19 s20 s21 s22 s23 s24 s25 s26 s27 s28 s29 s30 s31 s32 s33 s34 s35 s36 s37 s38 s39 s40 s41 s42 s43 s44 s45 s46 s55 s56 s57 s58 s59 s60 s61 s62 s63 s64 s65 s66 s67 s68 s69 s70 s71 s72 s73 s74 s75 s76 s77 s78 s79 s80 s81 s82 s83 s84 s85 s86 s87 s88 s89 s90 s91 s92 s93 s94 s95 s96 s97 s98 s99 s100 s101 s102 s103 s104 s105 s106 s107 s108 s109 s110 s111 s112 s113 s114 s115 s116 s117 s118 s119 s120 s121 s122 s123 s124 s125 s126 s127 s128 s129 s130 s131 s132 s133 s134 s135 s136 s137 s138 s139 s140 s141 s142 s143 s144 s145 s146 s147 s148 s149 s150 s151 s152 s153 s154 s155 s156 s157 s158 s159 s160 s161 s162 s163 s164 s165 s166 s167 s168 s169 s170 s171 s172 s173 s174 s175 s176 s177 s178 s179 s180 s181 s182 s183 s184 s185 s186 s187 s188 s189 s190 s191 : Value} {W0 : World} (HL : Hid (S W0))
    (HQ : Hid (∀ (u : Nat → Value) (A_8 : Option Addr) (c_8 : Nat) (W : World), IntsIn W A_8 cl → S W → Q .normal ⟨#[s0, s1, .pointer (some ⟨w.heap.size, 0, none⟩), s3, s4, .int .i64 (N : Int), s6, s7, s8, s9, .slice A_8 (kR m) c_8, .int .i64 0, s12, s13, s14, s15, s16, s17, s18, s19, s20, s21, s22, s23, s24, s25, s26, s27, s28, s29, s30, s31, s32, s33, s34, s35, s36, s37, s38, s39, s40, s41, s42, s43, s44, s45, s46, u 5, u 0, u 1, u 2, u 3, u 4, u 6, u 7, s55, s56, s57, s58, s59, s60, s61, s62, s63, s64, s65, s66, s67, s68, s69, s70, s71, s72, s73, s74, s75, s76, s77, s78, s79, s80, s81, s82, s83, s84, s85, s86, s87, s88, s89, s90, s91, s92, s93, s94, s95, s96, s97, s98, s99, s100, s101, s102, s103, s104, s105, s106, s107, s108, s109, s110, s111, s112, s113, s114, s115, s116, s117, s118, s119, s120, s121, s122, s123, s124, s125, s126, s127, s128, s129, s130, s131, s132, s133, s134, s135, s136, s137, s138, s139, s140, s141, s142, s143, s144, s145, s146, s147, s148, s149, s150, s151, s152, s153, s154, s155, s156, s157, s158, s159, s160, s161, s162, s163, s164, s165, s166, s167, s168, s169, s170, s171, s172, s173, s174, s175, s176, s177, s178, s179, s180, s181, s182, s183, s184, s185, s186, s187, s188, s189, s190, s191], []⟩ W)) :
    Code.wp Try.prog ((Try.f8.body.bind (regionAt 6)).getD .skip) Q ⟨#[s0, s1, .pointer (some ⟨w.heap.size, 0, none⟩), s3, s4, .int .i64 (N : Int), s6, s7, s8, s9, undef, undef, s12, s13, s14, s15, s16, s17, s18, s19, s20, s21, s22, s23, s24, s25, s26, s27, s28, s29, s30, s31, s32, s33, s34, s35, s36, s37, s38, s39, s40, s41, s42, s43, s44, s45, s46, undef, undef, undef, undef, undef, undef, undef, undef, s55, s56, s57, s58, s59, s60, s61, s62, s63, s64, s65, s66, s67, s68, s69, s70, s71, s72, s73, s74, s75, s76, s77, s78, s79, s80, s81, s82, s83, s84, s85, s86, s87, s88, s89, s90, s91, s92, s93, s94, s95, s96, s97, s98, s99, s100, s101, s102, s103, s104, s105, s106, s107, s108, s109, s110, s111, s112, s113, s114, s115, s116, s117, s118, s119, s120, s121, s122, s123, s124, s125, s126, s127, s128, s129, s130, s131, s132, s133, s134, s135, s136, s137, s138, s139, s140, s141, s142, s143, s144, s145, s146, s147, s148, s149, s150, s151, s152, s153, s154, s155, s156, s157, s158, s159, s160, s161, s162, s163, s164, s165, s166, s167, s168, s169, s170, s171, s172, s173, s174, s175, s176, s177, s178, s179, s180, s181, s182, s183, s184, s185, s186, s187, s188, s189, s190, s191], []⟩ W0 := by
  conv => arg 2; whnf
  refine wp_region_spec (by kernel_rfl) 10 (by kernel_rfl) (fun u => ⟨#[s0, s1, .pointer (some ⟨w.heap.size, 0, none⟩), s3, s4, .int .i64 (N : Int), s6, s7, s8, s9, u 8, u 9, s12, s13, s14, s15, s16, s17, s18, s19, s20, s21, s22, s23, s24, s25, s26, s27, s28, s29, s30, s31, s32, s33, s34, s35, s36, s37, s38, s39, s40, s41, s42, s43, s44, s45, s46, u 5, u 0, u 1, u 2, u 3, u 4, u 6, u 7, s55, s56, s57, s58, s59, s60, s61, s62, s63, s64, s65, s66, s67, s68, s69, s70, s71, s72, s73, s74, s75, s76, s77, s78, s79, s80, s81, s82, s83, s84, s85, s86, s87, s88, s89, s90, s91, s92, s93, s94, s95, s96, s97, s98, s99, s100, s101, s102, s103, s104, s105, s106, s107, s108, s109, s110, s111, s112, s113, s114, s115, s116, s117, s118, s119, s120, s121, s122, s123, s124, s125, s126, s127, s128, s129, s130, s131, s132, s133, s134, s135, s136, s137, s138, s139, s140, s141, s142, s143, s144, s145, s146, s147, s148, s149, s150, s151, s152, s153, s154, s155, s156, s157, s158, s159, s160, s161, s162, s163, s164, s165, s166, s167, s168, s169, s170, s171, s172, s173, s174, s175, s176, s177, s178, s179, s180, s181, s182, s183, s184, s185, s186, s187, s188, s189, s190, s191], []⟩) (fun i => undef) (fun W => Hid (S W)) (lr6R m N cl) (by kernel_rfl) (hon _ _ HL.out (Below.refl _ _).drew) (fun i v W W2 hi h hb => lr6R_on m N cl i hi v W W2 h hb) (by decide +kernel) ?_ ?_
  · iterate 10 (refine all_succ ?_ ?_)
    · exact all_zero
    · intro u W hB _ hd _ K hK
      have HK := Lib.hid hK; clear hK
      refine wpOp_of rfl (by rfl) ?_
      obtain ⟨c0, c1, c2, c3, c4, c5, c6, c7, c8, c9, c10, c11⟩ := (hM W hB.out).cells
      go_simp
      exact k_of (HK.out (.agg #[.int .i64 m.rings, .int .i64 m.give, .int .i64 m.plo, .int .i64 m.phi, .int .i64 m.wlo, .int .i64 m.whi, .int .i64 m.st, .int .i64 m.shrink, .int .i64 m.skin, .int .i64 m.fill, .int .i64 m.gap, .int .i64 m.deep]) _ rfl hB (Below.refl _ _)) (by kernel_rfl)
    · intro u W hB _ hd _ K hK
      have HK := Lib.hid hK; clear hK
      refine wpOp_of rfl (by rfl) ?_
      obtain ⟨c0, c1, c2, c3, c4, c5, c6, c7, c8, c9, c10, c11⟩ := (hM W hB.out).cells
      go_simp
      exact k_of (HK.out (.agg #[.int .i64 m.rings, .int .i64 m.give, .int .i64 m.plo, .int .i64 m.phi, .int .i64 m.wlo, .int .i64 m.whi, .int .i64 m.st, .int .i64 m.shrink, .int .i64 m.skin, .int .i64 m.fill, .int .i64 m.gap, .int .i64 m.deep]) _ rfl hB (Below.refl _ _)) (by kernel_rfl)
    · intro u W hB _ hd _ K hK
      have HK := Lib.hid hK; clear hK
      refine wpOp_of rfl (by rfl) ?_
      go_simp
      exact k_of (HK.out (.int .i64 (N : Int)) _ rfl hB (Below.refl _ _)) (by kernel_rfl)
    · intro u W hB _ hd _ K hK
      have HK := Lib.hid hK; clear hK
      have e1 : u 1 = .agg #[.int .i64 m.rings, .int .i64 m.give, .int .i64 m.plo, .int .i64 m.phi, .int .i64 m.wlo, .int .i64 m.whi, .int .i64 m.st, .int .i64 m.shrink, .int .i64 m.skin, .int .i64 m.fill, .int .i64 m.gap, .int .i64 m.deep] := hd 1 (by decide +kernel)
      have e2 : u 2 = .int .i64 (N : Int) := hd 2 (by decide +kernel)
      refine wpOp_of rfl (by rfl) ?_
      go_simp
      refine (rsame_any m hok.toMdIn false N hN _).mono ?_
      rintro e w' ⟨A1, d1, A2, d2, he, i1, i2, hb⟩
      rw [samP_length, samW_length] at he
      subst he
      exact k_of (HK.out (.agg #[.slice A1 (kR m) d1, .slice A2 N d2]) _ ⟨A1, d1, A2, d2, rfl, i1, i2⟩ (hon _ _ hB.out hb) hb) (by rw [← u1_eq e1, ← u1_eq e2]; kernel_rfl)
    · intro u W hB _ hd _ K hK
      have HK := Lib.hid hK; clear hK
      have e0 : u 0 = .agg #[.int .i64 m.rings, .int .i64 m.give, .int .i64 m.plo, .int .i64 m.phi, .int .i64 m.wlo, .int .i64 m.whi, .int .i64 m.st, .int .i64 m.shrink, .int .i64 m.skin, .int .i64 m.fill, .int .i64 m.gap, .int .i64 m.deep] := hd 0 (by decide +kernel)
      obtain ⟨A1_3, d1_3, A2_3, d2_3, e3, f3_0, f3_1⟩ : lr6R m N cl 3 (u 3) W := hd 3 (by decide +kernel)
      refine wpOp_of rfl (by rfl) ?_
      go_simp
      refine (HC.out W A1_3 d1_3 A2_3 d2_3 f3_0 f3_1).mono ?_
      rintro e w' ⟨A, c, rfl, i1, hb⟩
      exact k_of (HK.out (.tuple #[.slice A (kR m) c, .int .i64 0]) _ ⟨A, c, rfl, i1⟩ (hon _ _ hB.out hb) hb) (by rw [← u1_eq e0, ← u1_eq e3]; kernel_rfl)
    · intro u W hB _ hd _ K hK
      have HK := Lib.hid hK; clear hK
      obtain ⟨A_4, c_4, e4, f4_0⟩ : lr6R m N cl 4 (u 4) W := hd 4 (by decide +kernel)
      refine wpOp_of rfl (by rfl) ?_
      go_simp
      exact k_of (HK.out (.tuple #[.slice A_4 (kR m) c_4, .int .i64 0]) _ ⟨A_4, c_4, rfl, f4_0⟩ hB (Below.refl _ _)) (by rw [← u1_eq e4]; kernel_rfl)
    · intro u W hB _ hd _ K hK
      have HK := Lib.hid hK; clear hK
      obtain ⟨A_5, c_5, e5, f5_0⟩ : lr6R m N cl 5 (u 5) W := hd 5 (by decide +kernel)
      refine wpOp_of rfl (by rfl) ?_
      go_simp
      exact k_of (HK.out (.slice A_5 (kR m) c_5) _ ⟨A_5, c_5, rfl, f5_0⟩ hB (Below.refl _ _)) (by rw [← u1_eq e5]; kernel_rfl)
    · intro u W hB _ hd _ K hK
      have HK := Lib.hid hK; clear hK
      obtain ⟨A_5, c_5, e5, f5_0⟩ : lr6R m N cl 5 (u 5) W := hd 5 (by decide +kernel)
      refine wpOp_of rfl (by rfl) ?_
      go_simp
      exact k_of (HK.out (.int .i64 0) _ rfl hB (Below.refl _ _)) (by rw [← u1_eq e5]; kernel_rfl)
    · intro u W hB _ hd _ K hK
      have HK := Lib.hid hK; clear hK
      obtain ⟨A_6, c_6, e6, f6_0⟩ : lr6R m N cl 6 (u 6) W := hd 6 (by decide +kernel)
      refine wpOp_of rfl (by rfl) ?_
      go_simp
      exact k_of (HK.out (.slice A_6 (kR m) c_6) _ ⟨A_6, c_6, rfl, f6_0⟩ hB (Below.refl _ _)) (by rw [← u1_eq e6]; kernel_rfl)
    · intro u W hB _ hd _ K hK
      have HK := Lib.hid hK; clear hK
      have e7 : u 7 = .int .i64 0 := hd 7 (by decide +kernel)
      refine wpOp_of rfl (by rfl) ?_
      go_simp
      exact k_of (HK.out (.int .i64 0) _ rfl hB (Below.refl _ _)) (by rw [← u1_eq e7]; kernel_rfl)
  · intro u W hB hd
    obtain ⟨A_8, c_8, e8, f8_0⟩ : lr6R m N cl 8 (u 8) W := hd 8 (by decide)
    have e9 : u 9 = .int .i64 0 := hd 9 (by decide)
    exact k_of (HQ.out u A_8 c_8 W f8_0 hB.out) (by simp only [e8, e9])
end Go.Proofs.Ytljbjcnfkbmjkaa

namespace Go.Proofs.Ytljbjcnfkbmjkaa
open Go.RowKit Go.Shelf Go.Maps
attribute [local go_sem] Oper.semAt_some

/-- What each operation leaves. -/
def lr7R (m : Md) (N : Nat) (cl : List Int) : Nat → Value → World → Prop
  | 0, v, _ => v = .agg #[.int .i64 m.rings, .int .i64 m.give, .int .i64 m.plo, .int .i64 m.phi, .int .i64 m.wlo, .int .i64 m.whi, .int .i64 m.st, .int .i64 m.shrink, .int .i64 m.skin, .int .i64 m.fill, .int .i64 m.gap, .int .i64 m.deep]
  | 1, v, _ => v = .agg #[.int .i64 m.rings, .int .i64 m.give, .int .i64 m.plo, .int .i64 m.phi, .int .i64 m.wlo, .int .i64 m.whi, .int .i64 m.st, .int .i64 m.shrink, .int .i64 m.skin, .int .i64 m.fill, .int .i64 m.gap, .int .i64 m.deep]
  | 2, v, _ => v = .int .i64 (N : Int)
  | 3, v, W => ∃ A1_3 d1_3 A2_3 d2_3, v = .agg #[.slice A1_3 (kR m) d1_3, .slice A2_3 N d2_3] ∧ IntsIn W A1_3 (samP m true) ∧ IntsIn W A2_3 (samW m true N)
  | 4, v, W => ∃ A_4 c_4, v = .tuple #[.slice A_4 (kR m) c_4, .int .i64 0] ∧ IntsIn W A_4 cl
  | 5, v, W => ∃ A_4 c_4, v = .tuple #[.slice A_4 (kR m) c_4, .int .i64 0] ∧ IntsIn W A_4 cl
  | 6, v, W => ∃ A_4 c_4, v = .slice A_4 (kR m) c_4 ∧ IntsIn W A_4 cl
  | 7, v, _ => v = .int .i64 0
  | 8, v, W => ∃ A_4 c_4, v = .slice A_4 (kR m) c_4 ∧ IntsIn W A_4 cl
  | 9, v, _ => v = .int .i64 0
  | _, _, _ => True
theorem lr7R_on (m : Md) (N : Nat) (cl : List Int) : ∀ i, i < 10 → ∀ v W W', lr7R m N cl i v W → Below W.heap.size W W' → lr7R m N cl i v W' := by
  iterate 10 (refine all_succ ?_ ?_)
  · exact all_zero
  · exact fun _ _ _ h _ => h
  · exact fun _ _ _ h _ => h
  · exact fun _ _ _ h _ => h
  · rintro v W W' ⟨A1_3, d1_3, A2_3, d2_3, e, h0, h1⟩ hb; exact ⟨A1_3, d1_3, A2_3, d2_3, e, h0.on hb, h1.on hb⟩
  · rintro v W W' ⟨A_4, c_4, e, h0⟩ hb; exact ⟨A_4, c_4, e, h0.on hb⟩
  · rintro v W W' ⟨A_4, c_4, e, h0⟩ hb; exact ⟨A_4, c_4, e, h0.on hb⟩
  · rintro v W W' ⟨A_4, c_4, e, h0⟩ hb; exact ⟨A_4, c_4, e, h0.on hb⟩
  · exact fun _ _ _ h _ => h
  · rintro v W W' ⟨A_4, c_4, e, h0⟩ hb; exact ⟨A_4, c_4, e, h0.on hb⟩
  · exact fun _ _ _ h _ => h
set_option maxRecDepth 100000 in
set_option maxHeartbeats 8000000 in
theorem lr7_region {S : World → Prop} (hon : ∀ W W', S W → Below W.heap.size W W' → S W') {w : World} {m : Md} (hM : ∀ W, S W → MdBk w w.heap.size 25 m W) {cl : List Int} (hok : MdOk m) {N : Nat} (hN : N ≤ 600) (HC : Hid (∀ (W : World) (A1 : Option Addr) (d1 : Nat) (A2 : Option Addr) (d2 : Nat), IntsIn W A1 (samP m true) → IntsIn W A2 (samW m true N) → Calls Try.prog 20 #[.agg #[.int .i64 m.rings, .int .i64 m.give, .int .i64 m.plo, .int .i64 m.phi, .int .i64 m.wlo, .int .i64 m.whi, .int .i64 m.st, .int .i64 m.shrink, .int .i64 m.skin, .int .i64 m.fill, .int .i64 m.gap, .int .i64 m.deep], .agg #[.slice A1 (kR m) d1, .slice A2 N d2]] W fun e w' => ∃ A c, e = .returned (.tuple #[.slice A (kR m) c, .int .i64 0]) ∧ IntsIn w' A cl ∧ Below W.heap.size W w')) {Q : Exit → Act → World → Prop} {s0 s1 s3 s4 s6 s7 s8 s9 s10 s11 s14 s15 s16 s17 s18 s19 s20 s21 s22 s23 s24 s25 s26 s27 s28 s29 s30 s31 s32 s33 s34 s35 s36 s37 s38 s39 s40 s41 s42 s43 s44 s45 s46 s47 s48 s49 s50 s51 s52 s53 s54 s63 s64 s65 s66 s67 s68 s69 s70 s71 s72 s73 s74 s75 s76 s77 s78 s79 s80 s81 s82 s83 s84 s85 s86 s87 s88 s89 s90 s91 s92 s93 s94 s95 s96 s97 s98 s99 s100 s101 s102 s103 s104 s105 s106 s107 s108 s109 s110 s111 s112 s113 s114 s115 s116 s117 s118 s119 s120 s121 s122 s123 s124 s125 s126 s127 s128 s129 s130 s131 s132 s133 s134 s135 s136 s137 s138 s139 s140 s141 s142 s143 s144 s145 s146 s147 s148 s149 s150 s151 s152 s153 s154 s155 s156 s157 s158 s159 s160 s161 s162 s163 s164 s165 s166 s167 s168 s169 s170 s171 s172 s173 s174 s175 s176 s177 s178 s179 s180 s181 s182 s183 s184 s185 s186 s187 s188 s189 s190 s191 : Value} {W0 : World} (HL : Hid (S W0))
    (HQ : Hid (∀ (u : Nat → Value) (A_8 : Option Addr) (c_8 : Nat) (W : World), IntsIn W A_8 cl → S W → Q .normal ⟨#[s0, s1, .pointer (some ⟨w.heap.size, 0, none⟩), s3, s4, .int .i64 (N : Int), s6, s7, s8, s9, s10, s11, .slice A_8 (kR m) c_8, .int .i64 0, s14, s15, s16, s17, s18, s19, s20, s21, s22, s23, s24, s25, s26, s27, s28, s29, s30, s31, s32, s33, s34, s35, s36, s37, s38, s39, s40, s41, s42, s43, s44, s45, s46, s47, s48, s49, s50, s51, s52, s53, s54, u 5, u 0, u 1, u 2, u 3, u 4, u 6, u 7, s63, s64, s65, s66, s67, s68, s69, s70, s71, s72, s73, s74, s75, s76, s77, s78, s79, s80, s81, s82, s83, s84, s85, s86, s87, s88, s89, s90, s91, s92, s93, s94, s95, s96, s97, s98, s99, s100, s101, s102, s103, s104, s105, s106, s107, s108, s109, s110, s111, s112, s113, s114, s115, s116, s117, s118, s119, s120, s121, s122, s123, s124, s125, s126, s127, s128, s129, s130, s131, s132, s133, s134, s135, s136, s137, s138, s139, s140, s141, s142, s143, s144, s145, s146, s147, s148, s149, s150, s151, s152, s153, s154, s155, s156, s157, s158, s159, s160, s161, s162, s163, s164, s165, s166, s167, s168, s169, s170, s171, s172, s173, s174, s175, s176, s177, s178, s179, s180, s181, s182, s183, s184, s185, s186, s187, s188, s189, s190, s191], []⟩ W)) :
    Code.wp Try.prog ((Try.f8.body.bind (regionAt 7)).getD .skip) Q ⟨#[s0, s1, .pointer (some ⟨w.heap.size, 0, none⟩), s3, s4, .int .i64 (N : Int), s6, s7, s8, s9, s10, s11, undef, undef, s14, s15, s16, s17, s18, s19, s20, s21, s22, s23, s24, s25, s26, s27, s28, s29, s30, s31, s32, s33, s34, s35, s36, s37, s38, s39, s40, s41, s42, s43, s44, s45, s46, s47, s48, s49, s50, s51, s52, s53, s54, undef, undef, undef, undef, undef, undef, undef, undef, s63, s64, s65, s66, s67, s68, s69, s70, s71, s72, s73, s74, s75, s76, s77, s78, s79, s80, s81, s82, s83, s84, s85, s86, s87, s88, s89, s90, s91, s92, s93, s94, s95, s96, s97, s98, s99, s100, s101, s102, s103, s104, s105, s106, s107, s108, s109, s110, s111, s112, s113, s114, s115, s116, s117, s118, s119, s120, s121, s122, s123, s124, s125, s126, s127, s128, s129, s130, s131, s132, s133, s134, s135, s136, s137, s138, s139, s140, s141, s142, s143, s144, s145, s146, s147, s148, s149, s150, s151, s152, s153, s154, s155, s156, s157, s158, s159, s160, s161, s162, s163, s164, s165, s166, s167, s168, s169, s170, s171, s172, s173, s174, s175, s176, s177, s178, s179, s180, s181, s182, s183, s184, s185, s186, s187, s188, s189, s190, s191], []⟩ W0 := by
  conv => arg 2; whnf
  refine wp_region_spec (by kernel_rfl) 10 (by kernel_rfl) (fun u => ⟨#[s0, s1, .pointer (some ⟨w.heap.size, 0, none⟩), s3, s4, .int .i64 (N : Int), s6, s7, s8, s9, s10, s11, u 8, u 9, s14, s15, s16, s17, s18, s19, s20, s21, s22, s23, s24, s25, s26, s27, s28, s29, s30, s31, s32, s33, s34, s35, s36, s37, s38, s39, s40, s41, s42, s43, s44, s45, s46, s47, s48, s49, s50, s51, s52, s53, s54, u 5, u 0, u 1, u 2, u 3, u 4, u 6, u 7, s63, s64, s65, s66, s67, s68, s69, s70, s71, s72, s73, s74, s75, s76, s77, s78, s79, s80, s81, s82, s83, s84, s85, s86, s87, s88, s89, s90, s91, s92, s93, s94, s95, s96, s97, s98, s99, s100, s101, s102, s103, s104, s105, s106, s107, s108, s109, s110, s111, s112, s113, s114, s115, s116, s117, s118, s119, s120, s121, s122, s123, s124, s125, s126, s127, s128, s129, s130, s131, s132, s133, s134, s135, s136, s137, s138, s139, s140, s141, s142, s143, s144, s145, s146, s147, s148, s149, s150, s151, s152, s153, s154, s155, s156, s157, s158, s159, s160, s161, s162, s163, s164, s165, s166, s167, s168, s169, s170, s171, s172, s173, s174, s175, s176, s177, s178, s179, s180, s181, s182, s183, s184, s185, s186, s187, s188, s189, s190, s191], []⟩) (fun i => undef) (fun W => Hid (S W)) (lr7R m N cl) (by kernel_rfl) (hon _ _ HL.out (Below.refl _ _).drew) (fun i v W W2 hi h hb => lr7R_on m N cl i hi v W W2 h hb) (by decide +kernel) ?_ ?_
  · iterate 10 (refine all_succ ?_ ?_)
    · exact all_zero
    · intro u W hB _ hd _ K hK
      have HK := Lib.hid hK; clear hK
      refine wpOp_of rfl (by rfl) ?_
      obtain ⟨c0, c1, c2, c3, c4, c5, c6, c7, c8, c9, c10, c11⟩ := (hM W hB.out).cells
      go_simp
      exact k_of (HK.out (.agg #[.int .i64 m.rings, .int .i64 m.give, .int .i64 m.plo, .int .i64 m.phi, .int .i64 m.wlo, .int .i64 m.whi, .int .i64 m.st, .int .i64 m.shrink, .int .i64 m.skin, .int .i64 m.fill, .int .i64 m.gap, .int .i64 m.deep]) _ rfl hB (Below.refl _ _)) (by kernel_rfl)
    · intro u W hB _ hd _ K hK
      have HK := Lib.hid hK; clear hK
      refine wpOp_of rfl (by rfl) ?_
      obtain ⟨c0, c1, c2, c3, c4, c5, c6, c7, c8, c9, c10, c11⟩ := (hM W hB.out).cells
      go_simp
      exact k_of (HK.out (.agg #[.int .i64 m.rings, .int .i64 m.give, .int .i64 m.plo, .int .i64 m.phi, .int .i64 m.wlo, .int .i64 m.whi, .int .i64 m.st, .int .i64 m.shrink, .int .i64 m.skin, .int .i64 m.fill, .int .i64 m.gap, .int .i64 m.deep]) _ rfl hB (Below.refl _ _)) (by kernel_rfl)
    · intro u W hB _ hd _ K hK
      have HK := Lib.hid hK; clear hK
      refine wpOp_of rfl (by rfl) ?_
      go_simp
      exact k_of (HK.out (.int .i64 (N : Int)) _ rfl hB (Below.refl _ _)) (by kernel_rfl)
    · intro u W hB _ hd _ K hK
      have HK := Lib.hid hK; clear hK
      have e1 : u 1 = .agg #[.int .i64 m.rings, .int .i64 m.give, .int .i64 m.plo, .int .i64 m.phi, .int .i64 m.wlo, .int .i64 m.whi, .int .i64 m.st, .int .i64 m.shrink, .int .i64 m.skin, .int .i64 m.fill, .int .i64 m.gap, .int .i64 m.deep] := hd 1 (by decide +kernel)
      have e2 : u 2 = .int .i64 (N : Int) := hd 2 (by decide +kernel)
      refine wpOp_of rfl (by rfl) ?_
      go_simp
      refine (rsame_any m hok.toMdIn true N hN _).mono ?_
      rintro e w' ⟨A1, d1, A2, d2, he, i1, i2, hb⟩
      rw [samP_length, samW_length] at he
      subst he
      exact k_of (HK.out (.agg #[.slice A1 (kR m) d1, .slice A2 N d2]) _ ⟨A1, d1, A2, d2, rfl, i1, i2⟩ (hon _ _ hB.out hb) hb) (by rw [← u1_eq e1, ← u1_eq e2]; kernel_rfl)
    · intro u W hB _ hd _ K hK
      have HK := Lib.hid hK; clear hK
      have e0 : u 0 = .agg #[.int .i64 m.rings, .int .i64 m.give, .int .i64 m.plo, .int .i64 m.phi, .int .i64 m.wlo, .int .i64 m.whi, .int .i64 m.st, .int .i64 m.shrink, .int .i64 m.skin, .int .i64 m.fill, .int .i64 m.gap, .int .i64 m.deep] := hd 0 (by decide +kernel)
      obtain ⟨A1_3, d1_3, A2_3, d2_3, e3, f3_0, f3_1⟩ : lr7R m N cl 3 (u 3) W := hd 3 (by decide +kernel)
      refine wpOp_of rfl (by rfl) ?_
      go_simp
      refine (HC.out W A1_3 d1_3 A2_3 d2_3 f3_0 f3_1).mono ?_
      rintro e w' ⟨A, c, rfl, i1, hb⟩
      exact k_of (HK.out (.tuple #[.slice A (kR m) c, .int .i64 0]) _ ⟨A, c, rfl, i1⟩ (hon _ _ hB.out hb) hb) (by rw [← u1_eq e0, ← u1_eq e3]; kernel_rfl)
    · intro u W hB _ hd _ K hK
      have HK := Lib.hid hK; clear hK
      obtain ⟨A_4, c_4, e4, f4_0⟩ : lr7R m N cl 4 (u 4) W := hd 4 (by decide +kernel)
      refine wpOp_of rfl (by rfl) ?_
      go_simp
      exact k_of (HK.out (.tuple #[.slice A_4 (kR m) c_4, .int .i64 0]) _ ⟨A_4, c_4, rfl, f4_0⟩ hB (Below.refl _ _)) (by rw [← u1_eq e4]; kernel_rfl)
    · intro u W hB _ hd _ K hK
      have HK := Lib.hid hK; clear hK
      obtain ⟨A_5, c_5, e5, f5_0⟩ : lr7R m N cl 5 (u 5) W := hd 5 (by decide +kernel)
      refine wpOp_of rfl (by rfl) ?_
      go_simp
      exact k_of (HK.out (.slice A_5 (kR m) c_5) _ ⟨A_5, c_5, rfl, f5_0⟩ hB (Below.refl _ _)) (by rw [← u1_eq e5]; kernel_rfl)
    · intro u W hB _ hd _ K hK
      have HK := Lib.hid hK; clear hK
      obtain ⟨A_5, c_5, e5, f5_0⟩ : lr7R m N cl 5 (u 5) W := hd 5 (by decide +kernel)
      refine wpOp_of rfl (by rfl) ?_
      go_simp
      exact k_of (HK.out (.int .i64 0) _ rfl hB (Below.refl _ _)) (by rw [← u1_eq e5]; kernel_rfl)
    · intro u W hB _ hd _ K hK
      have HK := Lib.hid hK; clear hK
      obtain ⟨A_6, c_6, e6, f6_0⟩ : lr7R m N cl 6 (u 6) W := hd 6 (by decide +kernel)
      refine wpOp_of rfl (by rfl) ?_
      go_simp
      exact k_of (HK.out (.slice A_6 (kR m) c_6) _ ⟨A_6, c_6, rfl, f6_0⟩ hB (Below.refl _ _)) (by rw [← u1_eq e6]; kernel_rfl)
    · intro u W hB _ hd _ K hK
      have HK := Lib.hid hK; clear hK
      have e7 : u 7 = .int .i64 0 := hd 7 (by decide +kernel)
      refine wpOp_of rfl (by rfl) ?_
      go_simp
      exact k_of (HK.out (.int .i64 0) _ rfl hB (Below.refl _ _)) (by rw [← u1_eq e7]; kernel_rfl)
  · intro u W hB hd
    obtain ⟨A_8, c_8, e8, f8_0⟩ : lr7R m N cl 8 (u 8) W := hd 8 (by decide)
    have e9 : u 9 = .int .i64 0 := hd 9 (by decide)
    exact k_of (HQ.out u A_8 c_8 W f8_0 hB.out) (by simp only [e8, e9])
end Go.Proofs.Ytljbjcnfkbmjkaa

namespace Go.Proofs.Ytljbjcnfkbmjkaa
open Go.RowKit Go.Shelf Go.Maps
attribute [local go_sem] Oper.semAt_some

/-- What each operation leaves. -/
def lr8R (m : Md) (N : Nat) : Nat → Value → World → Prop
  | 0, v, _ => v = .agg #[.int .i64 m.rings, .int .i64 m.give, .int .i64 m.plo, .int .i64 m.phi, .int .i64 m.wlo, .int .i64 m.whi, .int .i64 m.st, .int .i64 m.shrink, .int .i64 m.skin, .int .i64 m.fill, .int .i64 m.gap, .int .i64 m.deep]
  | 1, v, _ => v = .agg #[.int .i64 m.rings, .int .i64 m.give, .int .i64 m.plo, .int .i64 m.phi, .int .i64 m.wlo, .int .i64 m.whi, .int .i64 m.st, .int .i64 m.shrink, .int .i64 m.skin, .int .i64 m.fill, .int .i64 m.gap, .int .i64 m.deep]
  | 2, v, W => ∃ A1_2 d1_2 A2_2 d2_2, v = .agg #[.slice A1_2 (kR m) d1_2, .slice A2_2 N d2_2] ∧ IntsIn W A1_2 (samP m false) ∧ IntsIn W A2_2 (samW m false N)
  | 3, v, W => ∃ A_3 c_3, v = .slice A_3 (kR m) c_3 ∧ IntsIn W A_3 (whN m false N)
  | 4, v, _ => v = .agg #[.int .i64 m.rings, .int .i64 m.give, .int .i64 m.plo, .int .i64 m.phi, .int .i64 m.wlo, .int .i64 m.whi, .int .i64 m.st, .int .i64 m.shrink, .int .i64 m.skin, .int .i64 m.fill, .int .i64 m.gap, .int .i64 m.deep]
  | 5, v, _ => v = .agg #[.int .i64 m.rings, .int .i64 m.give, .int .i64 m.plo, .int .i64 m.phi, .int .i64 m.wlo, .int .i64 m.whi, .int .i64 m.st, .int .i64 m.shrink, .int .i64 m.skin, .int .i64 m.fill, .int .i64 m.gap, .int .i64 m.deep]
  | 6, v, W => ∃ A1_6 d1_6 A2_6 d2_6, v = .agg #[.slice A1_6 (kR m) d1_6, .slice A2_6 N d2_6] ∧ IntsIn W A1_6 (samP m true) ∧ IntsIn W A2_6 (samW m true N)
  | 7, v, W => ∃ A_7 c_7, v = .slice A_7 (kR m) c_7 ∧ IntsIn W A_7 (whN m true N)
  | 8, v, W => ∃ A_3 c_3, v = .slice A_3 (kR m) c_3 ∧ IntsIn W A_3 (whN m false N)
  | 9, v, W => ∃ A_7 c_7, v = .slice A_7 (kR m) c_7 ∧ IntsIn W A_7 (whN m true N)
  | _, _, _ => True
theorem lr8R_on (m : Md) (N : Nat) : ∀ i, i < 10 → ∀ v W W', lr8R m N i v W → Below W.heap.size W W' → lr8R m N i v W' := by
  iterate 10 (refine all_succ ?_ ?_)
  · exact all_zero
  · exact fun _ _ _ h _ => h
  · exact fun _ _ _ h _ => h
  · rintro v W W' ⟨A1_2, d1_2, A2_2, d2_2, e, h0, h1⟩ hb; exact ⟨A1_2, d1_2, A2_2, d2_2, e, h0.on hb, h1.on hb⟩
  · rintro v W W' ⟨A_3, c_3, e, h0⟩ hb; exact ⟨A_3, c_3, e, h0.on hb⟩
  · exact fun _ _ _ h _ => h
  · exact fun _ _ _ h _ => h
  · rintro v W W' ⟨A1_6, d1_6, A2_6, d2_6, e, h0, h1⟩ hb; exact ⟨A1_6, d1_6, A2_6, d2_6, e, h0.on hb, h1.on hb⟩
  · rintro v W W' ⟨A_7, c_7, e, h0⟩ hb; exact ⟨A_7, c_7, e, h0.on hb⟩
  · rintro v W W' ⟨A_3, c_3, e, h0⟩ hb; exact ⟨A_3, c_3, e, h0.on hb⟩
  · rintro v W W' ⟨A_7, c_7, e, h0⟩ hb; exact ⟨A_7, c_7, e, h0.on hb⟩
set_option maxRecDepth 100000 in
set_option maxHeartbeats 8000000 in
theorem lr8_region {S : World → Prop} (hon : ∀ W W', S W → Below W.heap.size W W' → S W') {w : World} {m : Md} (hM : ∀ W, S W → MdBk w w.heap.size 25 m W) {N : Nat} (HW : Hid (∀ (e : Bool) (W : World) (A1 A2 : Option Addr) (d1 d2 : Nat), IntsIn W A1 (samP m e) → IntsIn W A2 (samW m e N) → Calls Try.prog 40 #[.agg #[.int .i64 m.rings, .int .i64 m.give, .int .i64 m.plo, .int .i64 m.phi, .int .i64 m.wlo, .int .i64 m.whi, .int .i64 m.st, .int .i64 m.shrink, .int .i64 m.skin, .int .i64 m.fill, .int .i64 m.gap, .int .i64 m.deep], .agg #[.slice A1 (kR m) d1, .slice A2 N d2]] W fun e' w' => ∃ A c, e' = .returned (.slice A (kR m) c) ∧ IntsIn w' A (whN m e N) ∧ Below W.heap.size W w')) (HS0 : Hid (∀ W, Calls Try.prog 41 #[.agg #[.int .i64 m.rings, .int .i64 m.give, .int .i64 m.plo, .int .i64 m.phi, .int .i64 m.wlo, .int .i64 m.whi, .int .i64 m.st, .int .i64 m.shrink, .int .i64 m.skin, .int .i64 m.fill, .int .i64 m.gap, .int .i64 m.deep], .bool false, .int .i64 600] W fun e' w' => ∃ A1 c1 A2 c2, e' = .returned (.agg #[.slice A1 (kR m) c1, .slice A2 N c2]) ∧ IntsIn w' A1 (samP m false) ∧ IntsIn w' A2 (samW m false N) ∧ Below W.heap.size W w')) (HS1 : Hid (∀ W, Calls Try.prog 41 #[.agg #[.int .i64 m.rings, .int .i64 m.give, .int .i64 m.plo, .int .i64 m.phi, .int .i64 m.wlo, .int .i64 m.whi, .int .i64 m.st, .int .i64 m.shrink, .int .i64 m.skin, .int .i64 m.fill, .int .i64 m.gap, .int .i64 m.deep], .bool true, .int .i64 600] W fun e' w' => ∃ A1 c1 A2 c2, e' = .returned (.agg #[.slice A1 (kR m) c1, .slice A2 N c2]) ∧ IntsIn w' A1 (samP m true) ∧ IntsIn w' A2 (samW m true N) ∧ Below W.heap.size W w')) {Q : Exit → Act → World → Prop} {s0 s1 s3 s4 s5 s6 s7 s8 s9 s10 s11 s12 s13 s16 s17 s18 s19 s20 s21 s22 s23 s24 s25 s26 s27 s28 s29 s30 s31 s32 s33 s34 s35 s36 s37 s38 s39 s40 s41 s42 s43 s44 s45 s46 s47 s48 s49 s50 s51 s52 s53 s54 s55 s56 s57 s58 s59 s60 s61 s62 s71 s72 s73 s74 s75 s76 s77 s78 s79 s80 s81 s82 s83 s84 s85 s86 s87 s88 s89 s90 s91 s92 s93 s94 s95 s96 s97 s98 s99 s100 s101 s102 s103 s104 s105 s106 s107 s108 s109 s110 s111 s112 s113 s114 s115 s116 s117 s118 s119 s120 s121 s122 s123 s124 s125 s126 s127 s128 s129 s130 s131 s132 s133 s134 s135 s136 s137 s138 s139 s140 s141 s142 s143 s144 s145 s146 s147 s148 s149 s150 s151 s152 s153 s154 s155 s156 s157 s158 s159 s160 s161 s162 s163 s164 s165 s166 s167 s168 s169 s170 s171 s172 s173 s174 s175 s176 s177 s178 s179 s180 s181 s182 s183 s184 s185 s186 s187 s188 s189 s190 s191 : Value} {W0 : World} (HL : Hid (S W0))
    (HQ : Hid (∀ (u : Nat → Value) (A_8 : Option Addr) (c_8 : Nat) (A_9 : Option Addr) (c_9 : Nat) (W : World), IntsIn W A_8 (whN m false N) → IntsIn W A_9 (whN m true N) → S W → Q .normal ⟨#[s0, s1, .pointer (some ⟨w.heap.size, 0, none⟩), s3, s4, s5, s6, s7, s8, s9, s10, s11, s12, s13, .slice A_8 (kR m) c_8, .slice A_9 (kR m) c_9, s16, s17, s18, s19, s20, s21, s22, s23, s24, s25, s26, s27, s28, s29, s30, s31, s32, s33, s34, s35, s36, s37, s38, s39, s40, s41, s42, s43, s44, s45, s46, s47, s48, s49, s50, s51, s52, s53, s54, s55, s56, s57, s58, s59, s60, s61, s62, u 0, u 1, u 2, u 3, u 4, u 5, u 6, u 7, s71, s72, s73, s74, s75, s76, s77, s78, s79, s80, s81, s82, s83, s84, s85, s86, s87, s88, s89, s90, s91, s92, s93, s94, s95, s96, s97, s98, s99, s100, s101, s102, s103, s104, s105, s106, s107, s108, s109, s110, s111, s112, s113, s114, s115, s116, s117, s118, s119, s120, s121, s122, s123, s124, s125, s126, s127, s128, s129, s130, s131, s132, s133, s134, s135, s136, s137, s138, s139, s140, s141, s142, s143, s144, s145, s146, s147, s148, s149, s150, s151, s152, s153, s154, s155, s156, s157, s158, s159, s160, s161, s162, s163, s164, s165, s166, s167, s168, s169, s170, s171, s172, s173, s174, s175, s176, s177, s178, s179, s180, s181, s182, s183, s184, s185, s186, s187, s188, s189, s190, s191], []⟩ W)) :
    Code.wp Try.prog ((Try.f8.body.bind (regionAt 8)).getD .skip) Q ⟨#[s0, s1, .pointer (some ⟨w.heap.size, 0, none⟩), s3, s4, s5, s6, s7, s8, s9, s10, s11, s12, s13, undef, undef, s16, s17, s18, s19, s20, s21, s22, s23, s24, s25, s26, s27, s28, s29, s30, s31, s32, s33, s34, s35, s36, s37, s38, s39, s40, s41, s42, s43, s44, s45, s46, s47, s48, s49, s50, s51, s52, s53, s54, s55, s56, s57, s58, s59, s60, s61, s62, undef, undef, undef, undef, undef, undef, undef, undef, s71, s72, s73, s74, s75, s76, s77, s78, s79, s80, s81, s82, s83, s84, s85, s86, s87, s88, s89, s90, s91, s92, s93, s94, s95, s96, s97, s98, s99, s100, s101, s102, s103, s104, s105, s106, s107, s108, s109, s110, s111, s112, s113, s114, s115, s116, s117, s118, s119, s120, s121, s122, s123, s124, s125, s126, s127, s128, s129, s130, s131, s132, s133, s134, s135, s136, s137, s138, s139, s140, s141, s142, s143, s144, s145, s146, s147, s148, s149, s150, s151, s152, s153, s154, s155, s156, s157, s158, s159, s160, s161, s162, s163, s164, s165, s166, s167, s168, s169, s170, s171, s172, s173, s174, s175, s176, s177, s178, s179, s180, s181, s182, s183, s184, s185, s186, s187, s188, s189, s190, s191], []⟩ W0 := by
  conv => arg 2; whnf
  refine wp_region_spec (by kernel_rfl) 10 (by kernel_rfl) (fun u => ⟨#[s0, s1, .pointer (some ⟨w.heap.size, 0, none⟩), s3, s4, s5, s6, s7, s8, s9, s10, s11, s12, s13, u 8, u 9, s16, s17, s18, s19, s20, s21, s22, s23, s24, s25, s26, s27, s28, s29, s30, s31, s32, s33, s34, s35, s36, s37, s38, s39, s40, s41, s42, s43, s44, s45, s46, s47, s48, s49, s50, s51, s52, s53, s54, s55, s56, s57, s58, s59, s60, s61, s62, u 0, u 1, u 2, u 3, u 4, u 5, u 6, u 7, s71, s72, s73, s74, s75, s76, s77, s78, s79, s80, s81, s82, s83, s84, s85, s86, s87, s88, s89, s90, s91, s92, s93, s94, s95, s96, s97, s98, s99, s100, s101, s102, s103, s104, s105, s106, s107, s108, s109, s110, s111, s112, s113, s114, s115, s116, s117, s118, s119, s120, s121, s122, s123, s124, s125, s126, s127, s128, s129, s130, s131, s132, s133, s134, s135, s136, s137, s138, s139, s140, s141, s142, s143, s144, s145, s146, s147, s148, s149, s150, s151, s152, s153, s154, s155, s156, s157, s158, s159, s160, s161, s162, s163, s164, s165, s166, s167, s168, s169, s170, s171, s172, s173, s174, s175, s176, s177, s178, s179, s180, s181, s182, s183, s184, s185, s186, s187, s188, s189, s190, s191], []⟩) (fun i => undef) (fun W => Hid (S W)) (lr8R m N) (by kernel_rfl) (hon _ _ HL.out (Below.refl _ _).drew) (fun i v W W2 hi h hb => lr8R_on m N i hi v W W2 h hb) (by decide +kernel) ?_ ?_
  · iterate 10 (refine all_succ ?_ ?_)
    · exact all_zero
    · intro u W hB _ hd _ K hK
      have HK := Lib.hid hK; clear hK
      refine wpOp_of rfl (by rfl) ?_
      obtain ⟨c0, c1, c2, c3, c4, c5, c6, c7, c8, c9, c10, c11⟩ := (hM W hB.out).cells
      go_simp
      exact k_of (HK.out (.agg #[.int .i64 m.rings, .int .i64 m.give, .int .i64 m.plo, .int .i64 m.phi, .int .i64 m.wlo, .int .i64 m.whi, .int .i64 m.st, .int .i64 m.shrink, .int .i64 m.skin, .int .i64 m.fill, .int .i64 m.gap, .int .i64 m.deep]) _ rfl hB (Below.refl _ _)) (by kernel_rfl)
    · intro u W hB _ hd _ K hK
      have HK := Lib.hid hK; clear hK
      refine wpOp_of rfl (by rfl) ?_
      obtain ⟨c0, c1, c2, c3, c4, c5, c6, c7, c8, c9, c10, c11⟩ := (hM W hB.out).cells
      go_simp
      exact k_of (HK.out (.agg #[.int .i64 m.rings, .int .i64 m.give, .int .i64 m.plo, .int .i64 m.phi, .int .i64 m.wlo, .int .i64 m.whi, .int .i64 m.st, .int .i64 m.shrink, .int .i64 m.skin, .int .i64 m.fill, .int .i64 m.gap, .int .i64 m.deep]) _ rfl hB (Below.refl _ _)) (by kernel_rfl)
    · intro u W hB _ hd _ K hK
      have HK := Lib.hid hK; clear hK
      have e1 : u 1 = .agg #[.int .i64 m.rings, .int .i64 m.give, .int .i64 m.plo, .int .i64 m.phi, .int .i64 m.wlo, .int .i64 m.whi, .int .i64 m.st, .int .i64 m.shrink, .int .i64 m.skin, .int .i64 m.fill, .int .i64 m.gap, .int .i64 m.deep] := hd 1 (by decide +kernel)
      refine wpOp_of rfl (by rfl) ?_
      go_simp
      refine (HS0.out _).mono ?_
      rintro e w' ⟨A1, d1, A2, d2, rfl, i1, i2, hb⟩
      exact k_of (HK.out (.agg #[.slice A1 (kR m) d1, .slice A2 N d2]) _ ⟨A1, d1, A2, d2, rfl, i1, i2⟩ (hon _ _ hB.out hb) hb) (by rw [← u1_eq e1]; kernel_rfl)
    · intro u W hB _ hd _ K hK
      have HK := Lib.hid hK; clear hK
      have e0 : u 0 = .agg #[.int .i64 m.rings, .int .i64 m.give, .int .i64 m.plo, .int .i64 m.phi, .int .i64 m.wlo, .int .i64 m.whi, .int .i64 m.st, .int .i64 m.shrink, .int .i64 m.skin, .int .i64 m.fill, .int .i64 m.gap, .int .i64 m.deep] := hd 0 (by decide +kernel)
      obtain ⟨A1_2, d1_2, A2_2, d2_2, e2, f2_0, f2_1⟩ : lr8R m N 2 (u 2) W := hd 2 (by decide +kernel)
      refine wpOp_of rfl (by rfl) ?_
      go_simp
      refine (HW.out false W _ _ _ _ f2_0 f2_1).mono ?_
      rintro e w' ⟨A, c, rfl, i1, hb⟩
      exact k_of (HK.out (.slice A (kR m) c) _ ⟨A, c, rfl, i1⟩ (hon _ _ hB.out hb) hb) (by rw [← u1_eq e0, ← u1_eq e2]; kernel_rfl)
    · intro u W hB _ hd _ K hK
      have HK := Lib.hid hK; clear hK
      refine wpOp_of rfl (by rfl) ?_
      obtain ⟨c0, c1, c2, c3, c4, c5, c6, c7, c8, c9, c10, c11⟩ := (hM W hB.out).cells
      go_simp
      exact k_of (HK.out (.agg #[.int .i64 m.rings, .int .i64 m.give, .int .i64 m.plo, .int .i64 m.phi, .int .i64 m.wlo, .int .i64 m.whi, .int .i64 m.st, .int .i64 m.shrink, .int .i64 m.skin, .int .i64 m.fill, .int .i64 m.gap, .int .i64 m.deep]) _ rfl hB (Below.refl _ _)) (by kernel_rfl)
    · intro u W hB _ hd _ K hK
      have HK := Lib.hid hK; clear hK
      refine wpOp_of rfl (by rfl) ?_
      obtain ⟨c0, c1, c2, c3, c4, c5, c6, c7, c8, c9, c10, c11⟩ := (hM W hB.out).cells
      go_simp
      exact k_of (HK.out (.agg #[.int .i64 m.rings, .int .i64 m.give, .int .i64 m.plo, .int .i64 m.phi, .int .i64 m.wlo, .int .i64 m.whi, .int .i64 m.st, .int .i64 m.shrink, .int .i64 m.skin, .int .i64 m.fill, .int .i64 m.gap, .int .i64 m.deep]) _ rfl hB (Below.refl _ _)) (by kernel_rfl)
    · intro u W hB _ hd _ K hK
      have HK := Lib.hid hK; clear hK
      have e5 : u 5 = .agg #[.int .i64 m.rings, .int .i64 m.give, .int .i64 m.plo, .int .i64 m.phi, .int .i64 m.wlo, .int .i64 m.whi, .int .i64 m.st, .int .i64 m.shrink, .int .i64 m.skin, .int .i64 m.fill, .int .i64 m.gap, .int .i64 m.deep] := hd 5 (by decide +kernel)
      refine wpOp_of rfl (by rfl) ?_
      go_simp
      refine (HS1.out _).mono ?_
      rintro e w' ⟨A1, d1, A2, d2, rfl, i1, i2, hb⟩
      exact k_of (HK.out (.agg #[.slice A1 (kR m) d1, .slice A2 N d2]) _ ⟨A1, d1, A2, d2, rfl, i1, i2⟩ (hon _ _ hB.out hb) hb) (by rw [← u1_eq e5]; kernel_rfl)
    · intro u W hB _ hd _ K hK
      have HK := Lib.hid hK; clear hK
      have e4 : u 4 = .agg #[.int .i64 m.rings, .int .i64 m.give, .int .i64 m.plo, .int .i64 m.phi, .int .i64 m.wlo, .int .i64 m.whi, .int .i64 m.st, .int .i64 m.shrink, .int .i64 m.skin, .int .i64 m.fill, .int .i64 m.gap, .int .i64 m.deep] := hd 4 (by decide +kernel)
      obtain ⟨A1_6, d1_6, A2_6, d2_6, e6, f6_0, f6_1⟩ : lr8R m N 6 (u 6) W := hd 6 (by decide +kernel)
      refine wpOp_of rfl (by rfl) ?_
      go_simp
      refine (HW.out true W _ _ _ _ f6_0 f6_1).mono ?_
      rintro e w' ⟨A, c, rfl, i1, hb⟩
      exact k_of (HK.out (.slice A (kR m) c) _ ⟨A, c, rfl, i1⟩ (hon _ _ hB.out hb) hb) (by rw [← u1_eq e4, ← u1_eq e6]; kernel_rfl)
    · intro u W hB _ hd _ K hK
      have HK := Lib.hid hK; clear hK
      obtain ⟨A_3, c_3, e3, f3_0⟩ : lr8R m N 3 (u 3) W := hd 3 (by decide +kernel)
      refine wpOp_of rfl (by rfl) ?_
      go_simp
      exact k_of (HK.out (.slice A_3 (kR m) c_3) _ ⟨A_3, c_3, rfl, f3_0⟩ hB (Below.refl _ _)) (by rw [← u1_eq e3]; kernel_rfl)
    · intro u W hB _ hd _ K hK
      have HK := Lib.hid hK; clear hK
      obtain ⟨A_7, c_7, e7, f7_0⟩ : lr8R m N 7 (u 7) W := hd 7 (by decide +kernel)
      refine wpOp_of rfl (by rfl) ?_
      go_simp
      exact k_of (HK.out (.slice A_7 (kR m) c_7) _ ⟨A_7, c_7, rfl, f7_0⟩ hB (Below.refl _ _)) (by rw [← u1_eq e7]; kernel_rfl)
  · intro u W hB hd
    obtain ⟨A_8, c_8, e8, f8_0⟩ : lr8R m N 8 (u 8) W := hd 8 (by decide)
    obtain ⟨A_9, c_9, e9, f9_0⟩ : lr8R m N 9 (u 9) W := hd 9 (by decide)
    exact k_of (HQ.out u A_8 c_8 A_9 c_9 W f8_0 f9_0 hB.out) (by simp only [e8, e9])
end Go.Proofs.Ytljbjcnfkbmjkaa

namespace Go.Proofs.Ytljbjcnfkbmjkaa
open Go.RowKit Go.Shelf Go.Maps
attribute [local go_sem] Oper.semAt_some

/-- What each operation leaves. -/
def lr9R (p0 p1 : Int) (Aw Ac Ah Af Al : Option Addr) (cw cc ch ca cb rl : Nat) (n : Int) (w : World) : Nat → Value → World → Prop
  | 0, v, _ => v = .int .i64 0
  | 1, v, _ => v = .bool false
  | 2, v, _ => v = .bool false
  | 3, v, _ => v = .int .i64 0
  | 4, v, _ => v = .bool false
  | 5, v, _ => v = .bool false
  | 6, v, _ => v = .bool false
  | 7, v, _ => v = .int .i64 0
  | 8, v, _ => v = .bool false
  | 9, v, _ => v = .bool false
  | 10, v, _ => v = .bool false
  | 11, v, _ => v = .int .i64 0
  | 12, v, _ => v = .bool false
  | 13, v, _ => v = .bool false
  | 14, v, _ => v = .bool false
  | 15, v, _ => v = .slice Aw rl cw
  | 16, v, _ => v = .int .i64 (rl : Int)
  | 17, v, _ => v = .pointer (some ⟨w.heap.size, 0, none⟩)
  | 18, v, _ => v = .int .i64 (rl : Int)
  | 19, v, _ => v = .bool false
  | 20, v, _ => v = .bool false
  | 21, v, _ => v = .bool false
  | 22, v, _ => v = .slice Ac rl cc
  | 23, v, _ => v = .int .i64 (rl : Int)
  | 24, v, _ => v = .pointer (some ⟨w.heap.size, 0, none⟩)
  | 25, v, _ => v = .int .i64 (rl : Int)
  | 26, v, _ => v = .bool false
  | 27, v, _ => v = .bool false
  | 28, v, _ => v = .bool false
  | 29, v, _ => v = .slice Ah rl ch
  | 30, v, _ => v = .int .i64 (rl : Int)
  | 31, v, _ => v = .pointer (some ⟨w.heap.size, 0, none⟩)
  | 32, v, _ => v = .int .i64 (rl : Int)
  | 33, v, _ => v = .bool false
  | 34, v, _ => v = .bool false
  | 35, v, _ => v = .bool false
  | 36, v, _ => v = .agg #[.int .i64 p0, .int .i64 p1]
  | 37, v, _ => v = .slice Al rl cb
  | 38, v, _ => v = .int .i64 n
  | 39, v, _ => v = .int .i64 p0
  | 40, v, _ => v = .slice Af rl ca
  | 41, v, _ => v = .int .i64 n
  | 42, v, _ => v = .int .i64 p1
  | 43, v, _ => v = .agg #[.int .i64 p0, .int .i64 p1]
  | 44, v, _ => v = .bool false
  | 45, v, _ => v = .bool false
  | _, _, _ => True
theorem lr9R_on (p0 p1 : Int) (Aw Ac Ah Af Al : Option Addr) (cw cc ch ca cb rl : Nat) (n : Int) (w : World) : ∀ i, i < 46 → ∀ v W W', lr9R p0 p1 Aw Ac Ah Af Al cw cc ch ca cb rl n w i v W → Below W.heap.size W W' → lr9R p0 p1 Aw Ac Ah Af Al cw cc ch ca cb rl n w i v W' := by
  iterate 46 (refine all_succ ?_ ?_)
  · exact all_zero
  · exact fun _ _ _ h _ => h
  · exact fun _ _ _ h _ => h
  · exact fun _ _ _ h _ => h
  · exact fun _ _ _ h _ => h
  · exact fun _ _ _ h _ => h
  · exact fun _ _ _ h _ => h
  · exact fun _ _ _ h _ => h
  · exact fun _ _ _ h _ => h
  · exact fun _ _ _ h _ => h
  · exact fun _ _ _ h _ => h
  · exact fun _ _ _ h _ => h
  · exact fun _ _ _ h _ => h
  · exact fun _ _ _ h _ => h
  · exact fun _ _ _ h _ => h
  · exact fun _ _ _ h _ => h
  · exact fun _ _ _ h _ => h
  · exact fun _ _ _ h _ => h
  · exact fun _ _ _ h _ => h
  · exact fun _ _ _ h _ => h
  · exact fun _ _ _ h _ => h
  · exact fun _ _ _ h _ => h
  · exact fun _ _ _ h _ => h
  · exact fun _ _ _ h _ => h
  · exact fun _ _ _ h _ => h
  · exact fun _ _ _ h _ => h
  · exact fun _ _ _ h _ => h
  · exact fun _ _ _ h _ => h
  · exact fun _ _ _ h _ => h
  · exact fun _ _ _ h _ => h
  · exact fun _ _ _ h _ => h
  · exact fun _ _ _ h _ => h
  · exact fun _ _ _ h _ => h
  · exact fun _ _ _ h _ => h
  · exact fun _ _ _ h _ => h
  · exact fun _ _ _ h _ => h
  · exact fun _ _ _ h _ => h
  · exact fun _ _ _ h _ => h
  · exact fun _ _ _ h _ => h
  · exact fun _ _ _ h _ => h
  · exact fun _ _ _ h _ => h
  · exact fun _ _ _ h _ => h
  · exact fun _ _ _ h _ => h
  · exact fun _ _ _ h _ => h
  · exact fun _ _ _ h _ => h
  · exact fun _ _ _ h _ => h
  · exact fun _ _ _ h _ => h
set_option maxRecDepth 100000 in
set_option maxHeartbeats 8000000 in
theorem lr9_region {S : World → Prop} (hon : ∀ W W', S W → Below W.heap.size W W' → S W') {w : World} {m : Md} {K : Nat} {Aw Ac Ah Af Al : Option Addr} {p0 p1 : Int} {a b : List Int} (hM : ∀ W, S W → MdBk w w.heap.size 25 m W) (hK : ∀ W, S W → Blk W K 23 #[.int .i64 p0, .int .i64 p1]) (hf : ∀ W, S W → IntsIn W Af a) (hl : ∀ W, S W → IntsIn W Al b) {rl cw cc ch ca cb : Nat} {n : Int} (HR : Hid (m.rings = (rl : Int))) (HTa : Hid (∀ (W : World) (A : Option Addr) (c : Nat) (_ : IntsIn W A a), Calls Try.prog 42 #[.slice A rl c, .int .i64 n] W fun e w' => e = .returned (.int .i64 p1) ∧ w' = W)) (HTb : Hid (∀ (W : World) (A : Option Addr) (c : Nat) (_ : IntsIn W A b), Calls Try.prog 42 #[.slice A rl c, .int .i64 n] W fun e w' => e = .returned (.int .i64 p0) ∧ w' = W)) (hne : ∀ W, (binOp .neq 23 (.agg #[.int .i64 p0, .int .i64 p1]) (.agg #[.int .i64 p0, .int .i64 p1])).run Try.prog W = .ok (.bool false) W) {Q : Exit → Act → World → Prop} {s0 s1 s3 s4 s16 s17 s18 s19 s20 s21 s22 s23 s24 s25 s26 s27 s28 s29 s30 s31 s32 s33 s34 s35 s36 s37 s38 s39 s40 s41 s42 s43 s44 s45 s46 s47 s48 s49 s50 s51 s52 s53 s54 s55 s56 s57 s58 s59 s60 s61 s62 s63 s64 s65 s66 s67 s68 s69 s70 s117 s118 s119 s120 s121 s122 s123 s124 s125 s126 s127 s128 s129 s130 s131 s132 s133 s134 s135 s136 s137 s138 s139 s140 s141 s142 s143 s144 s145 s146 s147 s148 s149 s150 s151 s152 s153 s154 s155 s156 s157 s158 s159 s160 s161 s162 s163 s164 s165 s166 s167 s168 s169 s170 s171 s172 s173 s174 s175 s176 s177 s178 s179 s180 s181 s182 s183 s184 s185 s186 s187 s188 s189 s190 s191 : Value} {W0 : World} (HL : Hid (S W0))
    (HQ : Hid (∀ (u : Nat → Value) (W : World), S W → Q .normal ⟨#[s0, s1, .pointer (some ⟨w.heap.size, 0, none⟩), s3, s4, .int .i64 n, .slice Aw rl cw, .int .i64 0, .pointer (some ⟨K, 0, none⟩), .int .i64 0, .slice Ac rl cc, .int .i64 0, .slice Ah rl ch, .int .i64 0, .slice Af rl ca, .slice Al rl cb, s16, s17, s18, s19, s20, s21, s22, s23, s24, s25, s26, s27, s28, s29, s30, s31, s32, s33, s34, s35, s36, s37, s38, s39, s40, s41, s42, s43, s44, s45, s46, s47, s48, s49, s50, s51, s52, s53, s54, s55, s56, s57, s58, s59, s60, s61, s62, s63, s64, s65, s66, s67, s68, s69, s70, u 0, u 1, u 2, u 3, u 4, u 5, u 6, u 7, u 8, u 9, u 10, u 11, u 12, u 13, u 14, u 15, u 16, u 17, u 18, u 19, u 20, u 21, u 22, u 23, u 24, u 25, u 26, u 27, u 28, u 29, u 30, u 31, u 32, u 33, u 34, u 35, u 36, u 37, u 38, u 39, u 40, u 41, u 42, u 43, u 44, .bool false, s117, s118, s119, s120, s121, s122, s123, s124, s125, s126, s127, s128, s129, s130, s131, s132, s133, s134, s135, s136, s137, s138, s139, s140, s141, s142, s143, s144, s145, s146, s147, s148, s149, s150, s151, s152, s153, s154, s155, s156, s157, s158, s159, s160, s161, s162, s163, s164, s165, s166, s167, s168, s169, s170, s171, s172, s173, s174, s175, s176, s177, s178, s179, s180, s181, s182, s183, s184, s185, s186, s187, s188, s189, s190, s191], []⟩ W)) :
    Code.wp Try.prog ((Try.f8.body.bind (regionAt 9)).getD .skip) Q ⟨#[s0, s1, .pointer (some ⟨w.heap.size, 0, none⟩), s3, s4, .int .i64 n, .slice Aw rl cw, .int .i64 0, .pointer (some ⟨K, 0, none⟩), .int .i64 0, .slice Ac rl cc, .int .i64 0, .slice Ah rl ch, .int .i64 0, .slice Af rl ca, .slice Al rl cb, s16, s17, s18, s19, s20, s21, s22, s23, s24, s25, s26, s27, s28, s29, s30, s31, s32, s33, s34, s35, s36, s37, s38, s39, s40, s41, s42, s43, s44, s45, s46, s47, s48, s49, s50, s51, s52, s53, s54, s55, s56, s57, s58, s59, s60, s61, s62, s63, s64, s65, s66, s67, s68, s69, s70, undef, undef, undef, undef, undef, undef, undef, undef, undef, undef, undef, undef, undef, undef, undef, undef, undef, undef, undef, undef, undef, undef, undef, undef, undef, undef, undef, undef, undef, undef, undef, undef, undef, undef, undef, undef, undef, undef, undef, undef, undef, undef, undef, undef, undef, undef, s117, s118, s119, s120, s121, s122, s123, s124, s125, s126, s127, s128, s129, s130, s131, s132, s133, s134, s135, s136, s137, s138, s139, s140, s141, s142, s143, s144, s145, s146, s147, s148, s149, s150, s151, s152, s153, s154, s155, s156, s157, s158, s159, s160, s161, s162, s163, s164, s165, s166, s167, s168, s169, s170, s171, s172, s173, s174, s175, s176, s177, s178, s179, s180, s181, s182, s183, s184, s185, s186, s187, s188, s189, s190, s191], []⟩ W0 := by
  conv => arg 2; whnf
  refine wp_region_spec (by kernel_rfl) 46 (by kernel_rfl) (fun u => ⟨#[s0, s1, .pointer (some ⟨w.heap.size, 0, none⟩), s3, s4, .int .i64 n, .slice Aw rl cw, .int .i64 0, .pointer (some ⟨K, 0, none⟩), .int .i64 0, .slice Ac rl cc, .int .i64 0, .slice Ah rl ch, .int .i64 0, .slice Af rl ca, .slice Al rl cb, s16, s17, s18, s19, s20, s21, s22, s23, s24, s25, s26, s27, s28, s29, s30, s31, s32, s33, s34, s35, s36, s37, s38, s39, s40, s41, s42, s43, s44, s45, s46, s47, s48, s49, s50, s51, s52, s53, s54, s55, s56, s57, s58, s59, s60, s61, s62, s63, s64, s65, s66, s67, s68, s69, s70, u 0, u 1, u 2, u 3, u 4, u 5, u 6, u 7, u 8, u 9, u 10, u 11, u 12, u 13, u 14, u 15, u 16, u 17, u 18, u 19, u 20, u 21, u 22, u 23, u 24, u 25, u 26, u 27, u 28, u 29, u 30, u 31, u 32, u 33, u 34, u 35, u 36, u 37, u 38, u 39, u 40, u 41, u 42, u 43, u 44, u 45, s117, s118, s119, s120, s121, s122, s123, s124, s125, s126, s127, s128, s129, s130, s131, s132, s133, s134, s135, s136, s137, s138, s139, s140, s141, s142, s143, s144, s145, s146, s147, s148, s149, s150, s151, s152, s153, s154, s155, s156, s157, s158, s159, s160, s161, s162, s163, s164, s165, s166, s167, s168, s169, s170, s171, s172, s173, s174, s175, s176, s177, s178, s179, s180, s181, s182, s183, s184, s185, s186, s187, s188, s189, s190, s191], []⟩) (fun i => undef) (fun W => Hid (S W)) (lr9R p0 p1 Aw Ac Ah Af Al cw cc ch ca cb rl n w) (by kernel_rfl) (hon _ _ HL.out (Below.refl _ _).drew) (fun i v W W2 hi h hb => lr9R_on p0 p1 Aw Ac Ah Af Al cw cc ch ca cb rl n w i hi v W W2 h hb) (by decide +kernel) ?_ ?_
  · iterate 46 (refine all_succ ?_ ?_)
    · exact all_zero
    · intro u W hB _ hd _ K hK
      have HK := Lib.hid hK; clear hK
      refine wpOp_of rfl (by rfl) ?_
      go_simp
      exact k_of (HK.out (.int .i64 0) _ rfl hB (Below.refl _ _)) (by kernel_rfl)
    · intro u W hB _ hd _ K hK
      have HK := Lib.hid hK; clear hK
      have e0 : u 0 = .int .i64 0 := hd 0 (by decide +kernel)
      refine wpOp_of rfl (by rfl) ?_
      go_simp
      exact k_of (HK.out (.bool false) _ rfl hB (Below.refl _ _)) (by rw [← u1_eq e0]; kernel_rfl)
    · intro u W hB _ hd _ K hK
      have HK := Lib.hid hK; clear hK
      have e1 : u 1 = .bool false := hd 1 (by decide +kernel)
      refine wpOp_of rfl (by rfl) ?_
      go_simp
      exact k_of (HK.out (.bool false) _ rfl hB (Below.refl _ _)) (by rw [← u1_eq e1]; kernel_rfl)
    · intro u W hB _ hd _ K hK
      have HK := Lib.hid hK; clear hK
      have e2 : u 2 = .bool false := hd 2 (by decide +kernel)
      refine wpOp_of rfl (by rw [← u1_eq e2]; kernel_rfl) ?_
      go_simp
      exact k_of (HK.out (.int .i64 0) _ rfl hB (Below.refl _ _)) (by rw [← u1_eq e2]; kernel_rfl)
    · intro u W hB _ hd _ K hK
      have HK := Lib.hid hK; clear hK
      have e2 : u 2 = .bool false := hd 2 (by decide +kernel)
      have e3 : u 3 = .int .i64 0 := hd 3 (by decide +kernel)
      refine wpOp_of rfl (by rw [← u1_eq e2]; kernel_rfl) ?_
      go_simp
      exact k_of (HK.out (.bool false) _ rfl hB (Below.refl _ _)) (by rw [← u1_eq e2, ← u1_eq e3]; kernel_rfl)
    · intro u W hB _ hd _ K hK
      have HK := Lib.hid hK; clear hK
      have e2 : u 2 = .bool false := hd 2 (by decide +kernel)
      have e4 : u 4 = .bool false := hd 4 (by decide +kernel)
      refine wpOp_of rfl (by rfl) ?_
      go_simp
      exact k_of (HK.out (.bool false) _ rfl hB (Below.refl _ _)) (by rw [← u1_eq e2, ← u1_eq e4]; kernel_rfl)
    · intro u W hB _ hd _ K hK
      have HK := Lib.hid hK; clear hK
      have e5 : u 5 = .bool false := hd 5 (by decide +kernel)
      refine wpOp_of rfl (by rfl) ?_
      go_simp
      exact k_of (HK.out (.bool false) _ rfl hB (Below.refl _ _)) (by rw [← u1_eq e5]; kernel_rfl)
    · intro u W hB _ hd _ K hK
      have HK := Lib.hid hK; clear hK
      have e6 : u 6 = .bool false := hd 6 (by decide +kernel)
      refine wpOp_of rfl (by rw [← u1_eq e6]; kernel_rfl) ?_
      go_simp
      exact k_of (HK.out (.int .i64 0) _ rfl hB (Below.refl _ _)) (by rw [← u1_eq e6]; kernel_rfl)
    · intro u W hB _ hd _ K hK
      have HK := Lib.hid hK; clear hK
      have e6 : u 6 = .bool false := hd 6 (by decide +kernel)
      have e7 : u 7 = .int .i64 0 := hd 7 (by decide +kernel)
      refine wpOp_of rfl (by rw [← u1_eq e6]; kernel_rfl) ?_
      go_simp
      exact k_of (HK.out (.bool false) _ rfl hB (Below.refl _ _)) (by rw [← u1_eq e6, ← u1_eq e7]; kernel_rfl)
    · intro u W hB _ hd _ K hK
      have HK := Lib.hid hK; clear hK
      have e6 : u 6 = .bool false := hd 6 (by decide +kernel)
      have e8 : u 8 = .bool false := hd 8 (by decide +kernel)
      refine wpOp_of rfl (by rfl) ?_
      go_simp
      exact k_of (HK.out (.bool false) _ rfl hB (Below.refl _ _)) (by rw [← u1_eq e6, ← u1_eq e8]; kernel_rfl)
    · intro u W hB _ hd _ K hK
      have HK := Lib.hid hK; clear hK
      have e9 : u 9 = .bool false := hd 9 (by decide +kernel)
      refine wpOp_of rfl (by rfl) ?_
      go_simp
      exact k_of (HK.out (.bool false) _ rfl hB (Below.refl _ _)) (by rw [← u1_eq e9]; kernel_rfl)
    · intro u W hB _ hd _ K hK
      have HK := Lib.hid hK; clear hK
      have e10 : u 10 = .bool false := hd 10 (by decide +kernel)
      refine wpOp_of rfl (by rw [← u1_eq e10]; kernel_rfl) ?_
      go_simp
      exact k_of (HK.out (.int .i64 0) _ rfl hB (Below.refl _ _)) (by rw [← u1_eq e10]; kernel_rfl)
    · intro u W hB _ hd _ K hK
      have HK := Lib.hid hK; clear hK
      have e10 : u 10 = .bool false := hd 10 (by decide +kernel)
      have e11 : u 11 = .int .i64 0 := hd 11 (by decide +kernel)
      refine wpOp_of rfl (by rw [← u1_eq e10]; kernel_rfl) ?_
      go_simp
      exact k_of (HK.out (.bool false) _ rfl hB (Below.refl _ _)) (by rw [← u1_eq e10, ← u1_eq e11]; kernel_rfl)
    · intro u W hB _ hd _ K hK
      have HK := Lib.hid hK; clear hK
      have e10 : u 10 = .bool false := hd 10 (by decide +kernel)
      have e12 : u 12 = .bool false := hd 12 (by decide +kernel)
      refine wpOp_of rfl (by rfl) ?_
      go_simp
      exact k_of (HK.out (.bool false) _ rfl hB (Below.refl _ _)) (by rw [← u1_eq e10, ← u1_eq e12]; kernel_rfl)
    · intro u W hB _ hd _ K hK
      have HK := Lib.hid hK; clear hK
      have e13 : u 13 = .bool false := hd 13 (by decide +kernel)
      refine wpOp_of rfl (by rfl) ?_
      go_simp
      exact k_of (HK.out (.bool false) _ rfl hB (Below.refl _ _)) (by rw [← u1_eq e13]; kernel_rfl)
    · intro u W hB _ hd _ K hK
      have HK := Lib.hid hK; clear hK
      have e14 : u 14 = .bool false := hd 14 (by decide +kernel)
      refine wpOp_of rfl (by rw [← u1_eq e14]; kernel_rfl) ?_
      go_simp
      exact k_of (HK.out (.slice Aw rl cw) _ rfl hB (Below.refl _ _)) (by rw [← u1_eq e14]; kernel_rfl)
    · intro u W hB _ hd _ K hK
      have HK := Lib.hid hK; clear hK
      have e14 : u 14 = .bool false := hd 14 (by decide +kernel)
      have e15 : u 15 = .slice Aw rl cw := hd 15 (by decide +kernel)
      refine wpOp_of rfl (by rw [← u1_eq e14]; kernel_rfl) ?_
      go_simp
      exact k_of (HK.out (.int .i64 (rl : Int)) _ rfl hB (Below.refl _ _)) (by rw [← u1_eq e14, ← u1_eq e15]; kernel_rfl)
    · intro u W hB _ hd _ K hK
      have HK := Lib.hid hK; clear hK
      have e14 : u 14 = .bool false := hd 14 (by decide +kernel)
      refine wpOp_of rfl (by rw [← u1_eq e14]; kernel_rfl) ?_
      go_simp
      exact k_of (HK.out (.pointer (some ⟨w.heap.size, 0, none⟩)) _ rfl hB (Below.refl _ _)) (by rw [← u1_eq e14]; kernel_rfl)
    · intro u W hB _ hd _ K hK
      have HK := Lib.hid hK; clear hK
      have e14 : u 14 = .bool false := hd 14 (by decide +kernel)
      have e17 : u 17 = .pointer (some ⟨w.heap.size, 0, none⟩) := hd 17 (by decide +kernel)
      refine wpOp_of rfl (by rw [← u1_eq e14]; kernel_rfl) ?_
      have c0 := (hM W hB.out).bk.cell 0; rw [show m.rings = (rl : Int) from HR.out] at c0
      go_simp
      exact k_of (HK.out (.int .i64 (rl : Int)) _ rfl hB (Below.refl _ _)) (by rw [← u1_eq e14, ← u1_eq e17]; kernel_rfl)
    · intro u W hB _ hd _ K hK
      have HK := Lib.hid hK; clear hK
      have e14 : u 14 = .bool false := hd 14 (by decide +kernel)
      have e16 : u 16 = .int .i64 (rl : Int) := hd 16 (by decide +kernel)
      have e18 : u 18 = .int .i64 (rl : Int) := hd 18 (by decide +kernel)
      refine wpOp_of rfl (by rw [← u1_eq e14]; kernel_rfl) ?_
      go_simp
      exact k_of (HK.out (.bool false) _ rfl hB (Below.refl _ _)) (by rw [← u1_eq e14, ← u1_eq e16, ← u1_eq e18]; kernel_rfl)
    · intro u W hB _ hd _ K hK
      have HK := Lib.hid hK; clear hK
      have e14 : u 14 = .bool false := hd 14 (by decide +kernel)
      have e19 : u 19 = .bool false := hd 19 (by decide +kernel)
      refine wpOp_of rfl (by rfl) ?_
      go_simp
      exact k_of (HK.out (.bool false) _ rfl hB (Below.refl _ _)) (by rw [← u1_eq e14, ← u1_eq e19]; kernel_rfl)
    · intro u W hB _ hd _ K hK
      have HK := Lib.hid hK; clear hK
      have e20 : u 20 = .bool false := hd 20 (by decide +kernel)
      refine wpOp_of rfl (by rfl) ?_
      go_simp
      exact k_of (HK.out (.bool false) _ rfl hB (Below.refl _ _)) (by rw [← u1_eq e20]; kernel_rfl)
    · intro u W hB _ hd _ K hK
      have HK := Lib.hid hK; clear hK
      have e21 : u 21 = .bool false := hd 21 (by decide +kernel)
      refine wpOp_of rfl (by rw [← u1_eq e21]; kernel_rfl) ?_
      go_simp
      exact k_of (HK.out (.slice Ac rl cc) _ rfl hB (Below.refl _ _)) (by rw [← u1_eq e21]; kernel_rfl)
    · intro u W hB _ hd _ K hK
      have HK := Lib.hid hK; clear hK
      have e21 : u 21 = .bool false := hd 21 (by decide +kernel)
      have e22 : u 22 = .slice Ac rl cc := hd 22 (by decide +kernel)
      refine wpOp_of rfl (by rw [← u1_eq e21]; kernel_rfl) ?_
      go_simp
      exact k_of (HK.out (.int .i64 (rl : Int)) _ rfl hB (Below.refl _ _)) (by rw [← u1_eq e21, ← u1_eq e22]; kernel_rfl)
    · intro u W hB _ hd _ K hK
      have HK := Lib.hid hK; clear hK
      have e21 : u 21 = .bool false := hd 21 (by decide +kernel)
      refine wpOp_of rfl (by rw [← u1_eq e21]; kernel_rfl) ?_
      go_simp
      exact k_of (HK.out (.pointer (some ⟨w.heap.size, 0, none⟩)) _ rfl hB (Below.refl _ _)) (by rw [← u1_eq e21]; kernel_rfl)
    · intro u W hB _ hd _ K hK
      have HK := Lib.hid hK; clear hK
      have e21 : u 21 = .bool false := hd 21 (by decide +kernel)
      have e24 : u 24 = .pointer (some ⟨w.heap.size, 0, none⟩) := hd 24 (by decide +kernel)
      refine wpOp_of rfl (by rw [← u1_eq e21]; kernel_rfl) ?_
      have c0 := (hM W hB.out).bk.cell 0; rw [show m.rings = (rl : Int) from HR.out] at c0
      go_simp
      exact k_of (HK.out (.int .i64 (rl : Int)) _ rfl hB (Below.refl _ _)) (by rw [← u1_eq e21, ← u1_eq e24]; kernel_rfl)
    · intro u W hB _ hd _ K hK
      have HK := Lib.hid hK; clear hK
      have e21 : u 21 = .bool false := hd 21 (by decide +kernel)
      have e23 : u 23 = .int .i64 (rl : Int) := hd 23 (by decide +kernel)
      have e25 : u 25 = .int .i64 (rl : Int) := hd 25 (by decide +kernel)
      refine wpOp_of rfl (by rw [← u1_eq e21]; kernel_rfl) ?_
      go_simp
      exact k_of (HK.out (.bool false) _ rfl hB (Below.refl _ _)) (by rw [← u1_eq e21, ← u1_eq e23, ← u1_eq e25]; kernel_rfl)
    · intro u W hB _ hd _ K hK
      have HK := Lib.hid hK; clear hK
      have e21 : u 21 = .bool false := hd 21 (by decide +kernel)
      have e26 : u 26 = .bool false := hd 26 (by decide +kernel)
      refine wpOp_of rfl (by rfl) ?_
      go_simp
      exact k_of (HK.out (.bool false) _ rfl hB (Below.refl _ _)) (by rw [← u1_eq e21, ← u1_eq e26]; kernel_rfl)
    · intro u W hB _ hd _ K hK
      have HK := Lib.hid hK; clear hK
      have e27 : u 27 = .bool false := hd 27 (by decide +kernel)
      refine wpOp_of rfl (by rfl) ?_
      go_simp
      exact k_of (HK.out (.bool false) _ rfl hB (Below.refl _ _)) (by rw [← u1_eq e27]; kernel_rfl)
    · intro u W hB _ hd _ K hK
      have HK := Lib.hid hK; clear hK
      have e28 : u 28 = .bool false := hd 28 (by decide +kernel)
      refine wpOp_of rfl (by rw [← u1_eq e28]; kernel_rfl) ?_
      go_simp
      exact k_of (HK.out (.slice Ah rl ch) _ rfl hB (Below.refl _ _)) (by rw [← u1_eq e28]; kernel_rfl)
    · intro u W hB _ hd _ K hK
      have HK := Lib.hid hK; clear hK
      have e28 : u 28 = .bool false := hd 28 (by decide +kernel)
      have e29 : u 29 = .slice Ah rl ch := hd 29 (by decide +kernel)
      refine wpOp_of rfl (by rw [← u1_eq e28]; kernel_rfl) ?_
      go_simp
      exact k_of (HK.out (.int .i64 (rl : Int)) _ rfl hB (Below.refl _ _)) (by rw [← u1_eq e28, ← u1_eq e29]; kernel_rfl)
    · intro u W hB _ hd _ K hK
      have HK := Lib.hid hK; clear hK
      have e28 : u 28 = .bool false := hd 28 (by decide +kernel)
      refine wpOp_of rfl (by rw [← u1_eq e28]; kernel_rfl) ?_
      go_simp
      exact k_of (HK.out (.pointer (some ⟨w.heap.size, 0, none⟩)) _ rfl hB (Below.refl _ _)) (by rw [← u1_eq e28]; kernel_rfl)
    · intro u W hB _ hd _ K hK
      have HK := Lib.hid hK; clear hK
      have e28 : u 28 = .bool false := hd 28 (by decide +kernel)
      have e31 : u 31 = .pointer (some ⟨w.heap.size, 0, none⟩) := hd 31 (by decide +kernel)
      refine wpOp_of rfl (by rw [← u1_eq e28]; kernel_rfl) ?_
      have c0 := (hM W hB.out).bk.cell 0; rw [show m.rings = (rl : Int) from HR.out] at c0
      go_simp
      exact k_of (HK.out (.int .i64 (rl : Int)) _ rfl hB (Below.refl _ _)) (by rw [← u1_eq e28, ← u1_eq e31]; kernel_rfl)
    · intro u W hB _ hd _ K hK
      have HK := Lib.hid hK; clear hK
      have e28 : u 28 = .bool false := hd 28 (by decide +kernel)
      have e30 : u 30 = .int .i64 (rl : Int) := hd 30 (by decide +kernel)
      have e32 : u 32 = .int .i64 (rl : Int) := hd 32 (by decide +kernel)
      refine wpOp_of rfl (by rw [← u1_eq e28]; kernel_rfl) ?_
      go_simp
      exact k_of (HK.out (.bool false) _ rfl hB (Below.refl _ _)) (by rw [← u1_eq e28, ← u1_eq e30, ← u1_eq e32]; kernel_rfl)
    · intro u W hB _ hd _ K hK
      have HK := Lib.hid hK; clear hK
      have e28 : u 28 = .bool false := hd 28 (by decide +kernel)
      have e33 : u 33 = .bool false := hd 33 (by decide +kernel)
      refine wpOp_of rfl (by rfl) ?_
      go_simp
      exact k_of (HK.out (.bool false) _ rfl hB (Below.refl _ _)) (by rw [← u1_eq e28, ← u1_eq e33]; kernel_rfl)
    · intro u W hB _ hd _ K hK
      have HK := Lib.hid hK; clear hK
      have e34 : u 34 = .bool false := hd 34 (by decide +kernel)
      refine wpOp_of rfl (by rfl) ?_
      go_simp
      exact k_of (HK.out (.bool false) _ rfl hB (Below.refl _ _)) (by rw [← u1_eq e34]; kernel_rfl)
    · intro u W hB _ hd _ K hK
      have HK := Lib.hid hK; clear hK
      have e35 : u 35 = .bool false := hd 35 (by decide +kernel)
      refine wpOp_of rfl (by rw [← u1_eq e35]; kernel_rfl) ?_
      have d0 := (hK W hB.out).cell 0; have d1 := (hK W hB.out).cell 1
      go_simp
      exact k_of (HK.out (.agg #[.int .i64 p0, .int .i64 p1]) _ rfl hB (Below.refl _ _)) (by rw [← u1_eq e35]; kernel_rfl)
    · intro u W hB _ hd _ K hK
      have HK := Lib.hid hK; clear hK
      have e35 : u 35 = .bool false := hd 35 (by decide +kernel)
      refine wpOp_of rfl (by rw [← u1_eq e35]; kernel_rfl) ?_
      go_simp
      exact k_of (HK.out (.slice Al rl cb) _ rfl hB (Below.refl _ _)) (by rw [← u1_eq e35]; kernel_rfl)
    · intro u W hB _ hd _ K hK
      have HK := Lib.hid hK; clear hK
      have e35 : u 35 = .bool false := hd 35 (by decide +kernel)
      refine wpOp_of rfl (by rw [← u1_eq e35]; kernel_rfl) ?_
      go_simp
      exact k_of (HK.out (.int .i64 n) _ rfl hB (Below.refl _ _)) (by rw [← u1_eq e35]; kernel_rfl)
    · intro u W hB _ hd _ K hK
      have HK := Lib.hid hK; clear hK
      have e35 : u 35 = .bool false := hd 35 (by decide +kernel)
      have e37 : u 37 = .slice Al rl cb := hd 37 (by decide +kernel)
      have e38 : u 38 = .int .i64 n := hd 38 (by decide +kernel)
      refine wpOp_of rfl (by rw [← u1_eq e35]; kernel_rfl) ?_
      go_simp
      refine (HTb.out W Al cb (hl W hB.out)).mono ?_
      rintro e w' ⟨rfl, rfl⟩
      exact k_of (HK.out (.int .i64 p0) _ rfl hB (Below.refl _ _)) (by rw [← u1_eq e35, ← u1_eq e37, ← u1_eq e38]; kernel_rfl)
    · intro u W hB _ hd _ K hK
      have HK := Lib.hid hK; clear hK
      have e35 : u 35 = .bool false := hd 35 (by decide +kernel)
      refine wpOp_of rfl (by rw [← u1_eq e35]; kernel_rfl) ?_
      go_simp
      exact k_of (HK.out (.slice Af rl ca) _ rfl hB (Below.refl _ _)) (by rw [← u1_eq e35]; kernel_rfl)
    · intro u W hB _ hd _ K hK
      have HK := Lib.hid hK; clear hK
      have e35 : u 35 = .bool false := hd 35 (by decide +kernel)
      refine wpOp_of rfl (by rw [← u1_eq e35]; kernel_rfl) ?_
      go_simp
      exact k_of (HK.out (.int .i64 n) _ rfl hB (Below.refl _ _)) (by rw [← u1_eq e35]; kernel_rfl)
    · intro u W hB _ hd _ K hK
      have HK := Lib.hid hK; clear hK
      have e35 : u 35 = .bool false := hd 35 (by decide +kernel)
      have e40 : u 40 = .slice Af rl ca := hd 40 (by decide +kernel)
      have e41 : u 41 = .int .i64 n := hd 41 (by decide +kernel)
      refine wpOp_of rfl (by rw [← u1_eq e35]; kernel_rfl) ?_
      go_simp
      refine (HTa.out W Af ca (hf W hB.out)).mono ?_
      rintro e w' ⟨rfl, rfl⟩
      exact k_of (HK.out (.int .i64 p1) _ rfl hB (Below.refl _ _)) (by rw [← u1_eq e35, ← u1_eq e40, ← u1_eq e41]; kernel_rfl)
    · intro u W hB _ hd _ K hK
      have HK := Lib.hid hK; clear hK
      have e35 : u 35 = .bool false := hd 35 (by decide +kernel)
      have e39 : u 39 = .int .i64 p0 := hd 39 (by decide +kernel)
      have e42 : u 42 = .int .i64 p1 := hd 42 (by decide +kernel)
      refine wpOp_of rfl (by rw [← u1_eq e35]; kernel_rfl) ?_
      go_simp
      refine (span_any p0 p1 W).mono ?_
      rintro e w' ⟨rfl, hb⟩
      exact k_of (HK.out (.agg #[.int .i64 p0, .int .i64 p1]) _ rfl (hon _ _ hB.out hb) hb) (by rw [← u1_eq e35, ← u1_eq e39, ← u1_eq e42]; kernel_rfl)
    · intro u W hB _ hd _ K hK
      have HK := Lib.hid hK; clear hK
      have e35 : u 35 = .bool false := hd 35 (by decide +kernel)
      have e36 : u 36 = .agg #[.int .i64 p0, .int .i64 p1] := hd 36 (by decide +kernel)
      have e43 : u 43 = .agg #[.int .i64 p0, .int .i64 p1] := hd 43 (by decide +kernel)
      refine wpOp_of rfl (by rw [← u1_eq e35]; kernel_rfl) ?_
      go_simp
      exact k_of (HK.out (.bool false) _ rfl hB (Below.refl _ _)) (by rw [← u1_eq e35, ← u1_eq e36, ← u1_eq e43]; kernel_rfl)
    · intro u W hB _ hd _ K hK
      have HK := Lib.hid hK; clear hK
      have e35 : u 35 = .bool false := hd 35 (by decide +kernel)
      have e44 : u 44 = .bool false := hd 44 (by decide +kernel)
      refine wpOp_of rfl (by rfl) ?_
      go_simp
      exact k_of (HK.out (.bool false) _ rfl hB (Below.refl _ _)) (by rw [← u1_eq e35, ← u1_eq e44]; kernel_rfl)
  · intro u W hB hd
    have e45 : u 45 = .bool false := hd 45 (by decide)
    exact k_of (HQ.out u W hB.out) (by simp only [e45])
end Go.Proofs.Ytljbjcnfkbmjkaa

namespace Go.Proofs.Ytljbjcnfkbmjkaa
open Go.RowKit Go.Shelf Go.Maps
attribute [local go_sem] Oper.semAt_some

/-- What each operation leaves. -/
def lr17aR (b1 o1 c1 b2 o2 c2 b3 o3 c3 b4 o4 c4 b5 o5 c5 b6 o6 c6 k rl : Nat) (x y p q : Int) (w : World) : Nat → Value → World → Prop
  | 0, v, _ => v = .slice (some ⟨b1, o1, none⟩) rl c1
  | 1, v, _ => v = .int .i64 (k : Int)
  | 2, v, _ => v = .pointer (some ⟨b1, o1 + k * 2, none⟩)
  | 3, v, _ => v = .agg #[.int .i64 x, .int .i64 y]
  | 4, v, _ => v = .slice (some ⟨b2, o2, none⟩) rl c2
  | 5, v, _ => v = .int .i64 (k : Int)
  | 6, v, _ => v = .pointer (some ⟨b2, o2 + k, none⟩)
  | 7, v, _ => v = .int .i64 x
  | 8, v, _ => v = .slice (some ⟨b3, o3, none⟩) rl c3
  | 9, v, _ => v = .int .i64 (k : Int)
  | 10, v, _ => v = .pointer (some ⟨b3, o3 + k, none⟩)
  | 11, v, _ => v = .int .i64 y
  | 12, v, _ => v = .agg #[.int .i64 x, .int .i64 y]
  | 13, v, _ => v = .bool false
  | 14, v, _ => v = .bool false
  | 15, v, _ => v = .int .i64 0
  | 16, v, _ => v = .bool true
  | 17, v, _ => v = .bool true
  | 18, v, _ => v = .slice (some ⟨b6, o6, none⟩) rl c6
  | 19, v, _ => v = .int .i64 (rl : Int)
  | 20, v, _ => v = .pointer (some ⟨w.heap.size, 0, none⟩)
  | 21, v, _ => v = .int .i64 (rl : Int)
  | 22, v, _ => v = .bool false
  | 23, v, _ => v = .bool false
  | 24, v, _ => v = .slice (some ⟨b6, o6, none⟩) rl c6
  | 25, v, _ => v = .int .i64 (k : Int)
  | 26, v, _ => v = .pointer (some ⟨b6, o6 + k * 2, none⟩)
  | 27, v, _ => v = .agg #[.int .i64 p, .int .i64 q]
  | 28, v, _ => v = .slice (some ⟨b4, o4, none⟩) rl c4
  | 29, v, _ => v = .int .i64 (k : Int)
  | 30, v, _ => v = .pointer (some ⟨b4, o4 + k, none⟩)
  | 31, v, _ => v = .int .i64 p
  | 32, v, _ => v = .slice (some ⟨b5, o5, none⟩) rl c5
  | 33, v, _ => v = .int .i64 (k : Int)
  | 34, v, _ => v = .pointer (some ⟨b5, o5 + k, none⟩)
  | 35, v, _ => v = .int .i64 q
  | 36, v, _ => v = .agg #[.int .i64 p, .int .i64 q]
  | 37, v, _ => v = .bool false
  | 38, v, _ => v = .bool false
  | 39, v, _ => v = .bool false
  | 40, v, _ => v = .bool false
  | _, _, _ => True
theorem lr17aR_on (b1 o1 c1 b2 o2 c2 b3 o3 c3 b4 o4 c4 b5 o5 c5 b6 o6 c6 k rl : Nat) (x y p q : Int) (w : World) : ∀ i, i < 41 → ∀ v W W', lr17aR b1 o1 c1 b2 o2 c2 b3 o3 c3 b4 o4 c4 b5 o5 c5 b6 o6 c6 k rl x y p q w i v W → Below W.heap.size W W' → lr17aR b1 o1 c1 b2 o2 c2 b3 o3 c3 b4 o4 c4 b5 o5 c5 b6 o6 c6 k rl x y p q w i v W' := by
  iterate 41 (refine all_succ ?_ ?_)
  · exact all_zero
  · exact fun _ _ _ h _ => h
  · exact fun _ _ _ h _ => h
  · exact fun _ _ _ h _ => h
  · exact fun _ _ _ h _ => h
  · exact fun _ _ _ h _ => h
  · exact fun _ _ _ h _ => h
  · exact fun _ _ _ h _ => h
  · exact fun _ _ _ h _ => h
  · exact fun _ _ _ h _ => h
  · exact fun _ _ _ h _ => h
  · exact fun _ _ _ h _ => h
  · exact fun _ _ _ h _ => h
  · exact fun _ _ _ h _ => h
  · exact fun _ _ _ h _ => h
  · exact fun _ _ _ h _ => h
  · exact fun _ _ _ h _ => h
  · exact fun _ _ _ h _ => h
  · exact fun _ _ _ h _ => h
  · exact fun _ _ _ h _ => h
  · exact fun _ _ _ h _ => h
  · exact fun _ _ _ h _ => h
  · exact fun _ _ _ h _ => h
  · exact fun _ _ _ h _ => h
  · exact fun _ _ _ h _ => h
  · exact fun _ _ _ h _ => h
  · exact fun _ _ _ h _ => h
  · exact fun _ _ _ h _ => h
  · exact fun _ _ _ h _ => h
  · exact fun _ _ _ h _ => h
  · exact fun _ _ _ h _ => h
  · exact fun _ _ _ h _ => h
  · exact fun _ _ _ h _ => h
  · exact fun _ _ _ h _ => h
  · exact fun _ _ _ h _ => h
  · exact fun _ _ _ h _ => h
  · exact fun _ _ _ h _ => h
  · exact fun _ _ _ h _ => h
  · exact fun _ _ _ h _ => h
  · exact fun _ _ _ h _ => h
  · exact fun _ _ _ h _ => h
  · exact fun _ _ _ h _ => h
set_option maxRecDepth 100000 in
set_option maxHeartbeats 8000000 in
theorem lr17a_region {S : World → Prop} (hon : ∀ W W', S W → Below W.heap.size W W' → S W') {b1 o1 c1 b2 o2 c2 b3 o3 c3 b4 o4 c4 b5 o5 c5 b6 o6 c6 k rl : Nat} {x y p q : Int} {w : World} (hk : (k : Int) < rl) {m : Md} (hM : ∀ W, S W → MdBk w w.heap.size 25 m W) (HR : Hid (m.rings = (rl : Int))) (h1 : ∀ W, S W → W.cell? ⟨b1, o1 + k * 2, none⟩ = some (.int .i64 x) ∧ W.cell? ⟨b1, o1 + k * 2 + 1, none⟩ = some (.int .i64 y)) (h2 : ∀ W, S W → W.cell? ⟨b2, o2 + k, none⟩ = some (.int .i64 x)) (h3 : ∀ W, S W → W.cell? ⟨b3, o3 + k, none⟩ = some (.int .i64 y)) (h4 : ∀ W, S W → W.cell? ⟨b4, o4 + k, none⟩ = some (.int .i64 p)) (h5 : ∀ W, S W → W.cell? ⟨b5, o5 + k, none⟩ = some (.int .i64 q)) (h6 : ∀ W, S W → W.cell? ⟨b6, o6 + k * 2, none⟩ = some (.int .i64 p) ∧ W.cell? ⟨b6, o6 + k * 2 + 1, none⟩ = some (.int .i64 q)) {Q : Exit → Act → World → Prop} {s0 s1 s3 s4 s5 s8 s9 s11 s13 s17 s19 s20 s21 s22 s23 s24 s25 s26 s27 s28 s29 s30 s31 s32 s33 s34 s35 s36 s37 s38 s39 s40 s41 s42 s43 s44 s45 s46 s47 s48 s49 s50 s51 s52 s53 s54 s55 s56 s57 s58 s59 s60 s61 s62 s63 s64 s65 s66 s67 s68 s69 s70 s71 s72 s73 s74 s75 s76 s77 s78 s79 s80 s81 s82 s83 s84 s85 s86 s87 s88 s89 s90 s91 s92 s93 s94 s95 s96 s97 s98 s99 s100 s101 s102 s103 s104 s105 s106 s107 s108 s109 s110 s111 s112 s113 s114 s115 s116 s117 s118 s119 s120 s121 s122 s123 s124 s125 s126 s127 s128 s129 s130 s131 s132 s133 s134 s135 s177 s178 s179 s180 s181 s182 s183 s184 s185 s186 s187 s188 s189 s190 s191 s136 s137 s138 s139 s140 s141 s142 s143 s144 s145 s146 s147 s148 s149 s150 s151 s152 s153 s154 s155 s156 s157 s158 s159 s160 s161 s162 s163 s164 s165 s166 s167 s168 s169 s170 s171 s172 s173 s174 s175 s176 : Value} {W0 : World} (HL : Hid (S W0))
    (HQ : Hid (∀ (u : Nat → Value) (W : World), S W → Q .normal ⟨#[s0, s1, .pointer (some ⟨w.heap.size, 0, none⟩), s3, s4, s5, .slice (some ⟨b1, o1, none⟩) rl c1, .int .i64 0, s8, s9, .slice (some ⟨b2, o2, none⟩) rl c2, s11, .slice (some ⟨b3, o3, none⟩) rl c3, s13, .slice (some ⟨b4, o4, none⟩) rl c4, .slice (some ⟨b5, o5, none⟩) rl c5, .slice (some ⟨b6, o6, none⟩) rl c6, s17, .int .i64 (k : Int), s19, s20, s21, s22, s23, s24, s25, s26, s27, s28, s29, s30, s31, s32, s33, s34, s35, s36, s37, s38, s39, s40, s41, s42, s43, s44, s45, s46, s47, s48, s49, s50, s51, s52, s53, s54, s55, s56, s57, s58, s59, s60, s61, s62, s63, s64, s65, s66, s67, s68, s69, s70, s71, s72, s73, s74, s75, s76, s77, s78, s79, s80, s81, s82, s83, s84, s85, s86, s87, s88, s89, s90, s91, s92, s93, s94, s95, s96, s97, s98, s99, s100, s101, s102, s103, s104, s105, s106, s107, s108, s109, s110, s111, s112, s113, s114, s115, s116, s117, s118, s119, s120, s121, s122, s123, s124, s125, s126, s127, s128, s129, s130, s131, s132, s133, s134, s135, u 0, u 1, u 2, u 3, u 4, u 5, u 6, u 7, u 8, u 9, u 10, u 11, u 12, u 13, u 14, u 15, u 16, u 17, u 18, u 19, u 20, u 21, u 22, u 23, u 24, u 25, u 26, u 27, u 28, u 29, u 30, u 31, u 32, u 33, u 34, u 35, u 36, u 37, u 38, u 39, .bool false, s177, s178, s179, s180, s181, s182, s183, s184, s185, s186, s187, s188, s189, s190, s191], []⟩ W)) :
    Code.wp Try.prog ((Try.f8.body.bind (regionAt 17)).getD .skip) Q ⟨#[s0, s1, .pointer (some ⟨w.heap.size, 0, none⟩), s3, s4, s5, .slice (some ⟨b1, o1, none⟩) rl c1, .int .i64 0, s8, s9, .slice (some ⟨b2, o2, none⟩) rl c2, s11, .slice (some ⟨b3, o3, none⟩) rl c3, s13, .slice (some ⟨b4, o4, none⟩) rl c4, .slice (some ⟨b5, o5, none⟩) rl c5, .slice (some ⟨b6, o6, none⟩) rl c6, s17, .int .i64 (k : Int), s19, s20, s21, s22, s23, s24, s25, s26, s27, s28, s29, s30, s31, s32, s33, s34, s35, s36, s37, s38, s39, s40, s41, s42, s43, s44, s45, s46, s47, s48, s49, s50, s51, s52, s53, s54, s55, s56, s57, s58, s59, s60, s61, s62, s63, s64, s65, s66, s67, s68, s69, s70, s71, s72, s73, s74, s75, s76, s77, s78, s79, s80, s81, s82, s83, s84, s85, s86, s87, s88, s89, s90, s91, s92, s93, s94, s95, s96, s97, s98, s99, s100, s101, s102, s103, s104, s105, s106, s107, s108, s109, s110, s111, s112, s113, s114, s115, s116, s117, s118, s119, s120, s121, s122, s123, s124, s125, s126, s127, s128, s129, s130, s131, s132, s133, s134, s135, s136, s137, s138, s139, s140, s141, s142, s143, s144, s145, s146, s147, s148, s149, s150, s151, s152, s153, s154, s155, s156, s157, s158, s159, s160, s161, s162, s163, s164, s165, s166, s167, s168, s169, s170, s171, s172, s173, s174, s175, s176, s177, s178, s179, s180, s181, s182, s183, s184, s185, s186, s187, s188, s189, s190, s191], []⟩ W0 := by
  conv => arg 2; whnf
  refine wp_region_spec (by kernel_rfl) 41 (by kernel_rfl) (fun u => ⟨#[s0, s1, .pointer (some ⟨w.heap.size, 0, none⟩), s3, s4, s5, .slice (some ⟨b1, o1, none⟩) rl c1, .int .i64 0, s8, s9, .slice (some ⟨b2, o2, none⟩) rl c2, s11, .slice (some ⟨b3, o3, none⟩) rl c3, s13, .slice (some ⟨b4, o4, none⟩) rl c4, .slice (some ⟨b5, o5, none⟩) rl c5, .slice (some ⟨b6, o6, none⟩) rl c6, s17, .int .i64 (k : Int), s19, s20, s21, s22, s23, s24, s25, s26, s27, s28, s29, s30, s31, s32, s33, s34, s35, s36, s37, s38, s39, s40, s41, s42, s43, s44, s45, s46, s47, s48, s49, s50, s51, s52, s53, s54, s55, s56, s57, s58, s59, s60, s61, s62, s63, s64, s65, s66, s67, s68, s69, s70, s71, s72, s73, s74, s75, s76, s77, s78, s79, s80, s81, s82, s83, s84, s85, s86, s87, s88, s89, s90, s91, s92, s93, s94, s95, s96, s97, s98, s99, s100, s101, s102, s103, s104, s105, s106, s107, s108, s109, s110, s111, s112, s113, s114, s115, s116, s117, s118, s119, s120, s121, s122, s123, s124, s125, s126, s127, s128, s129, s130, s131, s132, s133, s134, s135, u 0, u 1, u 2, u 3, u 4, u 5, u 6, u 7, u 8, u 9, u 10, u 11, u 12, u 13, u 14, u 15, u 16, u 17, u 18, u 19, u 20, u 21, u 22, u 23, u 24, u 25, u 26, u 27, u 28, u 29, u 30, u 31, u 32, u 33, u 34, u 35, u 36, u 37, u 38, u 39, u 40, s177, s178, s179, s180, s181, s182, s183, s184, s185, s186, s187, s188, s189, s190, s191], []⟩) (fun i => if i = 0 then s136 else if i = 1 then s137 else if i = 2 then s138 else if i = 3 then s139 else if i = 4 then s140 else if i = 5 then s141 else if i = 6 then s142 else if i = 7 then s143 else if i = 8 then s144 else if i = 9 then s145 else if i = 10 then s146 else if i = 11 then s147 else if i = 12 then s148 else if i = 13 then s149 else if i = 14 then s150 else if i = 15 then s151 else if i = 16 then s152 else if i = 17 then s153 else if i = 18 then s154 else if i = 19 then s155 else if i = 20 then s156 else if i = 21 then s157 else if i = 22 then s158 else if i = 23 then s159 else if i = 24 then s160 else if i = 25 then s161 else if i = 26 then s162 else if i = 27 then s163 else if i = 28 then s164 else if i = 29 then s165 else if i = 30 then s166 else if i = 31 then s167 else if i = 32 then s168 else if i = 33 then s169 else if i = 34 then s170 else if i = 35 then s171 else if i = 36 then s172 else if i = 37 then s173 else if i = 38 then s174 else if i = 39 then s175 else if i = 40 then s176 else undef) (fun W => Hid (S W)) (lr17aR b1 o1 c1 b2 o2 c2 b3 o3 c3 b4 o4 c4 b5 o5 c5 b6 o6 c6 k rl x y p q w) (by kernel_rfl) (hon _ _ HL.out (Below.refl _ _).drew) (fun i v W W2 hi h hb => lr17aR_on b1 o1 c1 b2 o2 c2 b3 o3 c3 b4 o4 c4 b5 o5 c5 b6 o6 c6 k rl x y p q w i hi v W W2 h hb) (by decide +kernel) ?_ ?_
  · iterate 41 (refine all_succ ?_ ?_)
    · exact all_zero
    · intro u W hB _ hd _ K hK
      have HK := Lib.hid hK; clear hK
      refine wpOp_of rfl (by rfl) ?_
      go_simp
      exact k_of (HK.out (.slice (some ⟨b1, o1, none⟩) rl c1) _ rfl hB (Below.refl _ _)) (by kernel_rfl)
    · intro u W hB _ hd _ K hK
      have HK := Lib.hid hK; clear hK
      refine wpOp_of rfl (by rfl) ?_
      go_simp
      exact k_of (HK.out (.int .i64 (k : Int)) _ rfl hB (Below.refl _ _)) (by kernel_rfl)
    · intro u W hB _ hd _ K hK
      have HK := Lib.hid hK; clear hK
      have e0 : u 0 = .slice (some ⟨b1, o1, none⟩) rl c1 := hd 0 (by decide +kernel)
      have e1 : u 1 = .int .i64 (k : Int) := hd 1 (by decide +kernel)
      refine wpOp_of rfl (by rfl) ?_
      go_simp
      exact k_of (HK.out (.pointer (some ⟨b1, o1 + k * 2, none⟩)) _ rfl hB (Below.refl _ _)) (by rw [← u1_eq e0, ← u1_eq e1]; kernel_rfl)
    · intro u W hB _ hd _ K hK
      have HK := Lib.hid hK; clear hK
      have e2 : u 2 = .pointer (some ⟨b1, o1 + k * 2, none⟩) := hd 2 (by decide +kernel)
      refine wpOp_of rfl (by rfl) ?_
      obtain ⟨d0, d1⟩ := h1 W hB.out
      go_simp
      exact k_of (HK.out (.agg #[.int .i64 x, .int .i64 y]) _ rfl hB (Below.refl _ _)) (by rw [← u1_eq e2]; kernel_rfl)
    · intro u W hB _ hd _ K hK
      have HK := Lib.hid hK; clear hK
      refine wpOp_of rfl (by rfl) ?_
      go_simp
      exact k_of (HK.out (.slice (some ⟨b2, o2, none⟩) rl c2) _ rfl hB (Below.refl _ _)) (by kernel_rfl)
    · intro u W hB _ hd _ K hK
      have HK := Lib.hid hK; clear hK
      refine wpOp_of rfl (by rfl) ?_
      go_simp
      exact k_of (HK.out (.int .i64 (k : Int)) _ rfl hB (Below.refl _ _)) (by kernel_rfl)
    · intro u W hB _ hd _ K hK
      have HK := Lib.hid hK; clear hK
      have e4 : u 4 = .slice (some ⟨b2, o2, none⟩) rl c2 := hd 4 (by decide +kernel)
      have e5 : u 5 = .int .i64 (k : Int) := hd 5 (by decide +kernel)
      refine wpOp_of rfl (by rfl) ?_
      go_simp
      exact k_of (HK.out (.pointer (some ⟨b2, o2 + k, none⟩)) _ rfl hB (Below.refl _ _)) (by rw [← u1_eq e4, ← u1_eq e5]; kernel_rfl)
    · intro u W hB _ hd _ K hK
      have HK := Lib.hid hK; clear hK
      have e6 : u 6 = .pointer (some ⟨b2, o2 + k, none⟩) := hd 6 (by decide +kernel)
      refine wpOp_of rfl (by rfl) ?_
      have d0 := h2 W hB.out
      go_simp
      exact k_of (HK.out (.int .i64 x) _ rfl hB (Below.refl _ _)) (by rw [← u1_eq e6]; kernel_rfl)
    · intro u W hB _ hd _ K hK
      have HK := Lib.hid hK; clear hK
      refine wpOp_of rfl (by rfl) ?_
      go_simp
      exact k_of (HK.out (.slice (some ⟨b3, o3, none⟩) rl c3) _ rfl hB (Below.refl _ _)) (by kernel_rfl)
    · intro u W hB _ hd _ K hK
      have HK := Lib.hid hK; clear hK
      refine wpOp_of rfl (by rfl) ?_
      go_simp
      exact k_of (HK.out (.int .i64 (k : Int)) _ rfl hB (Below.refl _ _)) (by kernel_rfl)
    · intro u W hB _ hd _ K hK
      have HK := Lib.hid hK; clear hK
      have e8 : u 8 = .slice (some ⟨b3, o3, none⟩) rl c3 := hd 8 (by decide +kernel)
      have e9 : u 9 = .int .i64 (k : Int) := hd 9 (by decide +kernel)
      refine wpOp_of rfl (by rfl) ?_
      go_simp
      exact k_of (HK.out (.pointer (some ⟨b3, o3 + k, none⟩)) _ rfl hB (Below.refl _ _)) (by rw [← u1_eq e8, ← u1_eq e9]; kernel_rfl)
    · intro u W hB _ hd _ K hK
      have HK := Lib.hid hK; clear hK
      have e10 : u 10 = .pointer (some ⟨b3, o3 + k, none⟩) := hd 10 (by decide +kernel)
      refine wpOp_of rfl (by rfl) ?_
      have d0 := h3 W hB.out
      go_simp
      exact k_of (HK.out (.int .i64 y) _ rfl hB (Below.refl _ _)) (by rw [← u1_eq e10]; kernel_rfl)
    · intro u W hB _ hd _ K hK
      have HK := Lib.hid hK; clear hK
      have e7 : u 7 = .int .i64 x := hd 7 (by decide +kernel)
      have e11 : u 11 = .int .i64 y := hd 11 (by decide +kernel)
      refine wpOp_of rfl (by rfl) ?_
      go_simp
      refine (span_any x y W).mono ?_
      rintro e w' ⟨rfl, hb⟩
      exact k_of (HK.out (.agg #[.int .i64 x, .int .i64 y]) _ rfl (hon _ _ hB.out hb) hb) (by rw [← u1_eq e7, ← u1_eq e11]; kernel_rfl)
    · intro u W hB _ hd _ K hK
      have HK := Lib.hid hK; clear hK
      have e3 : u 3 = .agg #[.int .i64 x, .int .i64 y] := hd 3 (by decide +kernel)
      have e12 : u 12 = .agg #[.int .i64 x, .int .i64 y] := hd 12 (by decide +kernel)
      refine wpOp_of rfl (by rfl) ?_
      have hne := spn_same x y
      go_simp
      exact k_of (HK.out (.bool false) _ rfl hB (Below.refl _ _)) (by rw [← u1_eq e3, ← u1_eq e12]; kernel_rfl)
    · intro u W hB _ hd _ K hK
      have HK := Lib.hid hK; clear hK
      have e13 : u 13 = .bool false := hd 13 (by decide +kernel)
      refine wpOp_of rfl (by rfl) ?_
      go_simp
      exact k_of (HK.out (.bool false) _ rfl hB (Below.refl _ _)) (by rw [← u1_eq e13]; kernel_rfl)
    · intro u W hB _ hd _ K hK
      have HK := Lib.hid hK; clear hK
      have e14 : u 14 = .bool false := hd 14 (by decide +kernel)
      refine wpOp_of rfl (by rw [← u1_eq e14]; kernel_rfl) ?_
      go_simp
      exact k_of (HK.out (.int .i64 0) _ rfl hB (Below.refl _ _)) (by rw [← u1_eq e14]; kernel_rfl)
    · intro u W hB _ hd _ K hK
      have HK := Lib.hid hK; clear hK
      have e14 : u 14 = .bool false := hd 14 (by decide +kernel)
      have e15 : u 15 = .int .i64 0 := hd 15 (by decide +kernel)
      refine wpOp_of rfl (by rw [← u1_eq e14]; kernel_rfl) ?_
      go_simp
      exact k_of (HK.out (.bool true) _ rfl hB (Below.refl _ _)) (by rw [← u1_eq e14, ← u1_eq e15]; kernel_rfl)
    · intro u W hB _ hd _ K hK
      have HK := Lib.hid hK; clear hK
      have e14 : u 14 = .bool false := hd 14 (by decide +kernel)
      have e16 : u 16 = .bool true := hd 16 (by decide +kernel)
      refine wpOp_of rfl (by rw [← u1_eq e14]; kernel_rfl) ?_
      go_simp
      exact k_of (HK.out (.bool true) _ rfl hB (Below.refl _ _)) (by rw [← u1_eq e14, ← u1_eq e16]; kernel_rfl)
    · intro u W hB _ hd _ K hK
      have HK := Lib.hid hK; clear hK
      have e17 : u 17 = .bool true := hd 17 (by decide +kernel)
      refine wpOp_of rfl (by rw [← u1_eq e17]; kernel_rfl) ?_
      go_simp
      exact k_of (HK.out (.slice (some ⟨b6, o6, none⟩) rl c6) _ rfl hB (Below.refl _ _)) (by rw [← u1_eq e17]; kernel_rfl)
    · intro u W hB _ hd _ K hK
      have HK := Lib.hid hK; clear hK
      have e17 : u 17 = .bool true := hd 17 (by decide +kernel)
      have e18 : u 18 = .slice (some ⟨b6, o6, none⟩) rl c6 := hd 18 (by decide +kernel)
      refine wpOp_of rfl (by rw [← u1_eq e17]; kernel_rfl) ?_
      go_simp
      exact k_of (HK.out (.int .i64 (rl : Int)) _ rfl hB (Below.refl _ _)) (by rw [← u1_eq e17, ← u1_eq e18]; kernel_rfl)
    · intro u W hB _ hd _ K hK
      have HK := Lib.hid hK; clear hK
      have e17 : u 17 = .bool true := hd 17 (by decide +kernel)
      refine wpOp_of rfl (by rw [← u1_eq e17]; kernel_rfl) ?_
      go_simp
      exact k_of (HK.out (.pointer (some ⟨w.heap.size, 0, none⟩)) _ rfl hB (Below.refl _ _)) (by rw [← u1_eq e17]; kernel_rfl)
    · intro u W hB _ hd _ K hK
      have HK := Lib.hid hK; clear hK
      have e17 : u 17 = .bool true := hd 17 (by decide +kernel)
      have e20 : u 20 = .pointer (some ⟨w.heap.size, 0, none⟩) := hd 20 (by decide +kernel)
      refine wpOp_of rfl (by rw [← u1_eq e17]; kernel_rfl) ?_
      have c0 := (hM W hB.out).bk.cell 0; rw [show m.rings = (rl : Int) from HR.out] at c0
      go_simp
      exact k_of (HK.out (.int .i64 (rl : Int)) _ rfl hB (Below.refl _ _)) (by rw [← u1_eq e17, ← u1_eq e20]; kernel_rfl)
    · intro u W hB _ hd _ K hK
      have HK := Lib.hid hK; clear hK
      have e17 : u 17 = .bool true := hd 17 (by decide +kernel)
      have e19 : u 19 = .int .i64 (rl : Int) := hd 19 (by decide +kernel)
      have e21 : u 21 = .int .i64 (rl : Int) := hd 21 (by decide +kernel)
      refine wpOp_of rfl (by rw [← u1_eq e17]; kernel_rfl) ?_
      go_simp
      exact k_of (HK.out (.bool false) _ rfl hB (Below.refl _ _)) (by rw [← u1_eq e17, ← u1_eq e19, ← u1_eq e21]; kernel_rfl)
    · intro u W hB _ hd _ K hK
      have HK := Lib.hid hK; clear hK
      have e17 : u 17 = .bool true := hd 17 (by decide +kernel)
      have e22 : u 22 = .bool false := hd 22 (by decide +kernel)
      refine wpOp_of rfl (by rw [← u1_eq e17]; kernel_rfl) ?_
      go_simp
      exact k_of (HK.out (.bool false) _ rfl hB (Below.refl _ _)) (by rw [← u1_eq e17, ← u1_eq e22]; kernel_rfl)
    · intro u W hB _ hd _ K hK
      have HK := Lib.hid hK; clear hK
      have e23 : u 23 = .bool false := hd 23 (by decide +kernel)
      refine wpOp_of rfl (by rw [← u1_eq e23]; kernel_rfl) ?_
      go_simp
      exact k_of (HK.out (.slice (some ⟨b6, o6, none⟩) rl c6) _ rfl hB (Below.refl _ _)) (by rw [← u1_eq e23]; kernel_rfl)
    · intro u W hB _ hd _ K hK
      have HK := Lib.hid hK; clear hK
      have e23 : u 23 = .bool false := hd 23 (by decide +kernel)
      refine wpOp_of rfl (by rw [← u1_eq e23]; kernel_rfl) ?_
      go_simp
      exact k_of (HK.out (.int .i64 (k : Int)) _ rfl hB (Below.refl _ _)) (by rw [← u1_eq e23]; kernel_rfl)
    · intro u W hB _ hd _ K hK
      have HK := Lib.hid hK; clear hK
      have e23 : u 23 = .bool false := hd 23 (by decide +kernel)
      have e24 : u 24 = .slice (some ⟨b6, o6, none⟩) rl c6 := hd 24 (by decide +kernel)
      have e25 : u 25 = .int .i64 (k : Int) := hd 25 (by decide +kernel)
      refine wpOp_of rfl (by rw [← u1_eq e23]; kernel_rfl) ?_
      go_simp
      exact k_of (HK.out (.pointer (some ⟨b6, o6 + k * 2, none⟩)) _ rfl hB (Below.refl _ _)) (by rw [← u1_eq e23, ← u1_eq e24, ← u1_eq e25]; kernel_rfl)
    · intro u W hB _ hd _ K hK
      have HK := Lib.hid hK; clear hK
      have e23 : u 23 = .bool false := hd 23 (by decide +kernel)
      have e26 : u 26 = .pointer (some ⟨b6, o6 + k * 2, none⟩) := hd 26 (by decide +kernel)
      refine wpOp_of rfl (by rw [← u1_eq e23]; kernel_rfl) ?_
      obtain ⟨d0, d1⟩ := h6 W hB.out
      go_simp
      exact k_of (HK.out (.agg #[.int .i64 p, .int .i64 q]) _ rfl hB (Below.refl _ _)) (by rw [← u1_eq e23, ← u1_eq e26]; kernel_rfl)
    · intro u W hB _ hd _ K hK
      have HK := Lib.hid hK; clear hK
      have e23 : u 23 = .bool false := hd 23 (by decide +kernel)
      refine wpOp_of rfl (by rw [← u1_eq e23]; kernel_rfl) ?_
      go_simp
      exact k_of (HK.out (.slice (some ⟨b4, o4, none⟩) rl c4) _ rfl hB (Below.refl _ _)) (by rw [← u1_eq e23]; kernel_rfl)
    · intro u W hB _ hd _ K hK
      have HK := Lib.hid hK; clear hK
      have e23 : u 23 = .bool false := hd 23 (by decide +kernel)
      refine wpOp_of rfl (by rw [← u1_eq e23]; kernel_rfl) ?_
      go_simp
      exact k_of (HK.out (.int .i64 (k : Int)) _ rfl hB (Below.refl _ _)) (by rw [← u1_eq e23]; kernel_rfl)
    · intro u W hB _ hd _ K hK
      have HK := Lib.hid hK; clear hK
      have e23 : u 23 = .bool false := hd 23 (by decide +kernel)
      have e28 : u 28 = .slice (some ⟨b4, o4, none⟩) rl c4 := hd 28 (by decide +kernel)
      have e29 : u 29 = .int .i64 (k : Int) := hd 29 (by decide +kernel)
      refine wpOp_of rfl (by rw [← u1_eq e23]; kernel_rfl) ?_
      go_simp
      exact k_of (HK.out (.pointer (some ⟨b4, o4 + k, none⟩)) _ rfl hB (Below.refl _ _)) (by rw [← u1_eq e23, ← u1_eq e28, ← u1_eq e29]; kernel_rfl)
    · intro u W hB _ hd _ K hK
      have HK := Lib.hid hK; clear hK
      have e23 : u 23 = .bool false := hd 23 (by decide +kernel)
      have e30 : u 30 = .pointer (some ⟨b4, o4 + k, none⟩) := hd 30 (by decide +kernel)
      refine wpOp_of rfl (by rw [← u1_eq e23]; kernel_rfl) ?_
      have d0 := h4 W hB.out
      go_simp
      exact k_of (HK.out (.int .i64 p) _ rfl hB (Below.refl _ _)) (by rw [← u1_eq e23, ← u1_eq e30]; kernel_rfl)
    · intro u W hB _ hd _ K hK
      have HK := Lib.hid hK; clear hK
      have e23 : u 23 = .bool false := hd 23 (by decide +kernel)
      refine wpOp_of rfl (by rw [← u1_eq e23]; kernel_rfl) ?_
      go_simp
      exact k_of (HK.out (.slice (some ⟨b5, o5, none⟩) rl c5) _ rfl hB (Below.refl _ _)) (by rw [← u1_eq e23]; kernel_rfl)
    · intro u W hB _ hd _ K hK
      have HK := Lib.hid hK; clear hK
      have e23 : u 23 = .bool false := hd 23 (by decide +kernel)
      refine wpOp_of rfl (by rw [← u1_eq e23]; kernel_rfl) ?_
      go_simp
      exact k_of (HK.out (.int .i64 (k : Int)) _ rfl hB (Below.refl _ _)) (by rw [← u1_eq e23]; kernel_rfl)
    · intro u W hB _ hd _ K hK
      have HK := Lib.hid hK; clear hK
      have e23 : u 23 = .bool false := hd 23 (by decide +kernel)
      have e32 : u 32 = .slice (some ⟨b5, o5, none⟩) rl c5 := hd 32 (by decide +kernel)
      have e33 : u 33 = .int .i64 (k : Int) := hd 33 (by decide +kernel)
      refine wpOp_of rfl (by rw [← u1_eq e23]; kernel_rfl) ?_
      go_simp
      exact k_of (HK.out (.pointer (some ⟨b5, o5 + k, none⟩)) _ rfl hB (Below.refl _ _)) (by rw [← u1_eq e23, ← u1_eq e32, ← u1_eq e33]; kernel_rfl)
    · intro u W hB _ hd _ K hK
      have HK := Lib.hid hK; clear hK
      have e23 : u 23 = .bool false := hd 23 (by decide +kernel)
      have e34 : u 34 = .pointer (some ⟨b5, o5 + k, none⟩) := hd 34 (by decide +kernel)
      refine wpOp_of rfl (by rw [← u1_eq e23]; kernel_rfl) ?_
      have d0 := h5 W hB.out
      go_simp
      exact k_of (HK.out (.int .i64 q) _ rfl hB (Below.refl _ _)) (by rw [← u1_eq e23, ← u1_eq e34]; kernel_rfl)
    · intro u W hB _ hd _ K hK
      have HK := Lib.hid hK; clear hK
      have e23 : u 23 = .bool false := hd 23 (by decide +kernel)
      have e31 : u 31 = .int .i64 p := hd 31 (by decide +kernel)
      have e35 : u 35 = .int .i64 q := hd 35 (by decide +kernel)
      refine wpOp_of rfl (by rw [← u1_eq e23]; kernel_rfl) ?_
      go_simp
      refine (span_any p q W).mono ?_
      rintro e w' ⟨rfl, hb⟩
      exact k_of (HK.out (.agg #[.int .i64 p, .int .i64 q]) _ rfl (hon _ _ hB.out hb) hb) (by rw [← u1_eq e23, ← u1_eq e31, ← u1_eq e35]; kernel_rfl)
    · intro u W hB _ hd _ K hK
      have HK := Lib.hid hK; clear hK
      have e23 : u 23 = .bool false := hd 23 (by decide +kernel)
      have e27 : u 27 = .agg #[.int .i64 p, .int .i64 q] := hd 27 (by decide +kernel)
      have e36 : u 36 = .agg #[.int .i64 p, .int .i64 q] := hd 36 (by decide +kernel)
      refine wpOp_of rfl (by rw [← u1_eq e23]; kernel_rfl) ?_
      have hne := spn_same p q
      go_simp
      exact k_of (HK.out (.bool false) _ rfl hB (Below.refl _ _)) (by rw [← u1_eq e23, ← u1_eq e27, ← u1_eq e36]; kernel_rfl)
    · intro u W hB _ hd _ K hK
      have HK := Lib.hid hK; clear hK
      have e17 : u 17 = .bool true := hd 17 (by decide +kernel)
      have e23 : u 23 = .bool false := hd 23 (by decide +kernel)
      have e37 : u 37 = .bool false := hd 37 (by decide +kernel)
      refine wpOp_of rfl (by rw [← u1_eq e17]; kernel_rfl) ?_
      go_simp
      exact k_of (HK.out (.bool false) _ rfl hB (Below.refl _ _)) (by rw [← u1_eq e17, ← u1_eq e23, ← u1_eq e37]; kernel_rfl)
    · intro u W hB _ hd _ K hK
      have HK := Lib.hid hK; clear hK
      have e14 : u 14 = .bool false := hd 14 (by decide +kernel)
      have e17 : u 17 = .bool true := hd 17 (by decide +kernel)
      have e38 : u 38 = .bool false := hd 38 (by decide +kernel)
      refine wpOp_of rfl (by rw [← u1_eq e14]; kernel_rfl) ?_
      go_simp
      exact k_of (HK.out (.bool false) _ rfl hB (Below.refl _ _)) (by rw [← u1_eq e14, ← u1_eq e17, ← u1_eq e38]; kernel_rfl)
    · intro u W hB _ hd _ K hK
      have HK := Lib.hid hK; clear hK
      have e14 : u 14 = .bool false := hd 14 (by decide +kernel)
      have e39 : u 39 = .bool false := hd 39 (by decide +kernel)
      refine wpOp_of rfl (by rfl) ?_
      go_simp
      exact k_of (HK.out (.bool false) _ rfl hB (Below.refl _ _)) (by rw [← u1_eq e14, ← u1_eq e39]; kernel_rfl)
  · intro u W hB hd
    have e40 : u 40 = .bool false := hd 40 (by decide)
    exact k_of (HQ.out u W hB.out) (by simp only [e40])
end Go.Proofs.Ytljbjcnfkbmjkaa

namespace Go.Proofs.Ytljbjcnfkbmjkaa
open Go.RowKit Go.Shelf Go.Maps
attribute [local go_sem] Oper.semAt_some

/-- What each operation leaves. -/
def lr17bR (b1 o1 c1 b2 o2 c2 b3 o3 c3 k rl : Nat) (x y : Int) : Nat → Value → World → Prop
  | 0, v, _ => v = .slice (some ⟨b1, o1, none⟩) rl c1
  | 1, v, _ => v = .int .i64 (k : Int)
  | 2, v, _ => v = .pointer (some ⟨b1, o1 + k * 2, none⟩)
  | 3, v, _ => v = .agg #[.int .i64 x, .int .i64 y]
  | 4, v, _ => v = .slice (some ⟨b2, o2, none⟩) rl c2
  | 5, v, _ => v = .int .i64 (k : Int)
  | 6, v, _ => v = .pointer (some ⟨b2, o2 + k, none⟩)
  | 7, v, _ => v = .int .i64 x
  | 8, v, _ => v = .slice (some ⟨b3, o3, none⟩) rl c3
  | 9, v, _ => v = .int .i64 (k : Int)
  | 10, v, _ => v = .pointer (some ⟨b3, o3 + k, none⟩)
  | 11, v, _ => v = .int .i64 y
  | 12, v, _ => v = .agg #[.int .i64 x, .int .i64 y]
  | 13, v, _ => v = .bool false
  | 14, v, _ => v = .bool false
  | 15, v, _ => v = .int .i64 9
  | 16, v, _ => v = .bool false
  | 17, v, _ => v = .bool false
  | 18, v, _ => v = undef
  | 19, v, _ => v = undef
  | 20, v, _ => v = undef
  | 21, v, _ => v = undef
  | 22, v, _ => v = undef
  | 23, v, _ => v = undef
  | 24, v, _ => v = undef
  | 25, v, _ => v = undef
  | 26, v, _ => v = undef
  | 27, v, _ => v = undef
  | 28, v, _ => v = undef
  | 29, v, _ => v = undef
  | 30, v, _ => v = undef
  | 31, v, _ => v = undef
  | 32, v, _ => v = undef
  | 33, v, _ => v = undef
  | 34, v, _ => v = undef
  | 35, v, _ => v = undef
  | 36, v, _ => v = undef
  | 37, v, _ => v = undef
  | 38, v, _ => v = undef
  | 39, v, _ => v = .bool false
  | 40, v, _ => v = .bool false
  | _, _, _ => True
theorem lr17bR_on (b1 o1 c1 b2 o2 c2 b3 o3 c3 k rl : Nat) (x y : Int) : ∀ i, i < 41 → ∀ v W W', lr17bR b1 o1 c1 b2 o2 c2 b3 o3 c3 k rl x y i v W → Below W.heap.size W W' → lr17bR b1 o1 c1 b2 o2 c2 b3 o3 c3 k rl x y i v W' := by
  iterate 41 (refine all_succ ?_ ?_)
  · exact all_zero
  · exact fun _ _ _ h _ => h
  · exact fun _ _ _ h _ => h
  · exact fun _ _ _ h _ => h
  · exact fun _ _ _ h _ => h
  · exact fun _ _ _ h _ => h
  · exact fun _ _ _ h _ => h
  · exact fun _ _ _ h _ => h
  · exact fun _ _ _ h _ => h
  · exact fun _ _ _ h _ => h
  · exact fun _ _ _ h _ => h
  · exact fun _ _ _ h _ => h
  · exact fun _ _ _ h _ => h
  · exact fun _ _ _ h _ => h
  · exact fun _ _ _ h _ => h
  · exact fun _ _ _ h _ => h
  · exact fun _ _ _ h _ => h
  · exact fun _ _ _ h _ => h
  · exact fun _ _ _ h _ => h
  · exact fun _ _ _ h _ => h
  · exact fun _ _ _ h _ => h
  · exact fun _ _ _ h _ => h
  · exact fun _ _ _ h _ => h
  · exact fun _ _ _ h _ => h
  · exact fun _ _ _ h _ => h
  · exact fun _ _ _ h _ => h
  · exact fun _ _ _ h _ => h
  · exact fun _ _ _ h _ => h
  · exact fun _ _ _ h _ => h
  · exact fun _ _ _ h _ => h
  · exact fun _ _ _ h _ => h
  · exact fun _ _ _ h _ => h
  · exact fun _ _ _ h _ => h
  · exact fun _ _ _ h _ => h
  · exact fun _ _ _ h _ => h
  · exact fun _ _ _ h _ => h
  · exact fun _ _ _ h _ => h
  · exact fun _ _ _ h _ => h
  · exact fun _ _ _ h _ => h
  · exact fun _ _ _ h _ => h
  · exact fun _ _ _ h _ => h
  · exact fun _ _ _ h _ => h
set_option maxRecDepth 100000 in
set_option maxHeartbeats 8000000 in
theorem lr17b_region {S : World → Prop} (hon : ∀ W W', S W → Below W.heap.size W W' → S W') {b1 o1 c1 b2 o2 c2 b3 o3 c3 k rl : Nat} {x y : Int} (hk : (k : Int) < rl) (h1 : ∀ W, S W → W.cell? ⟨b1, o1 + k * 2, none⟩ = some (.int .i64 x) ∧ W.cell? ⟨b1, o1 + k * 2 + 1, none⟩ = some (.int .i64 y)) (h2 : ∀ W, S W → W.cell? ⟨b2, o2 + k, none⟩ = some (.int .i64 x)) (h3 : ∀ W, S W → W.cell? ⟨b3, o3 + k, none⟩ = some (.int .i64 y)) {Q : Exit → Act → World → Prop} {s0 s1 s2 s3 s4 s5 s8 s9 s11 s13 s14 s15 s16 s17 s19 s20 s21 s22 s23 s24 s25 s26 s27 s28 s29 s30 s31 s32 s33 s34 s35 s36 s37 s38 s39 s40 s41 s42 s43 s44 s45 s46 s47 s48 s49 s50 s51 s52 s53 s54 s55 s56 s57 s58 s59 s60 s61 s62 s63 s64 s65 s66 s67 s68 s69 s70 s71 s72 s73 s74 s75 s76 s77 s78 s79 s80 s81 s82 s83 s84 s85 s86 s87 s88 s89 s90 s91 s92 s93 s94 s95 s96 s97 s98 s99 s100 s101 s102 s103 s104 s105 s106 s107 s108 s109 s110 s111 s112 s113 s114 s115 s116 s117 s118 s119 s120 s121 s122 s123 s124 s125 s126 s127 s128 s129 s130 s131 s132 s133 s134 s135 s177 s178 s179 s180 s181 s182 s183 s184 s185 s186 s187 s188 s189 s190 s191 s136 s137 s138 s139 s140 s141 s142 s143 s144 s145 s146 s147 s148 s149 s150 s151 s152 s153 s154 s155 s156 s157 s158 s159 s160 s161 s162 s163 s164 s165 s166 s167 s168 s169 s170 s171 s172 s173 s174 s175 s176 : Value} {W0 : World} (HL : Hid (S W0))
    (HQ : Hid (∀ (u : Nat → Value) (W : World), S W → Q .normal ⟨#[s0, s1, s2, s3, s4, s5, .slice (some ⟨b1, o1, none⟩) rl c1, .int .i64 9, s8, s9, .slice (some ⟨b2, o2, none⟩) rl c2, s11, .slice (some ⟨b3, o3, none⟩) rl c3, s13, s14, s15, s16, s17, .int .i64 (k : Int), s19, s20, s21, s22, s23, s24, s25, s26, s27, s28, s29, s30, s31, s32, s33, s34, s35, s36, s37, s38, s39, s40, s41, s42, s43, s44, s45, s46, s47, s48, s49, s50, s51, s52, s53, s54, s55, s56, s57, s58, s59, s60, s61, s62, s63, s64, s65, s66, s67, s68, s69, s70, s71, s72, s73, s74, s75, s76, s77, s78, s79, s80, s81, s82, s83, s84, s85, s86, s87, s88, s89, s90, s91, s92, s93, s94, s95, s96, s97, s98, s99, s100, s101, s102, s103, s104, s105, s106, s107, s108, s109, s110, s111, s112, s113, s114, s115, s116, s117, s118, s119, s120, s121, s122, s123, s124, s125, s126, s127, s128, s129, s130, s131, s132, s133, s134, s135, u 0, u 1, u 2, u 3, u 4, u 5, u 6, u 7, u 8, u 9, u 10, u 11, u 12, u 13, u 14, u 15, u 16, u 17, u 18, u 19, u 20, u 21, u 22, u 23, u 24, u 25, u 26, u 27, u 28, u 29, u 30, u 31, u 32, u 33, u 34, u 35, u 36, u 37, u 38, u 39, .bool false, s177, s178, s179, s180, s181, s182, s183, s184, s185, s186, s187, s188, s189, s190, s191], []⟩ W)) :
    Code.wp Try.prog ((Try.f8.body.bind (regionAt 17)).getD .skip) Q ⟨#[s0, s1, s2, s3, s4, s5, .slice (some ⟨b1, o1, none⟩) rl c1, .int .i64 9, s8, s9, .slice (some ⟨b2, o2, none⟩) rl c2, s11, .slice (some ⟨b3, o3, none⟩) rl c3, s13, s14, s15, s16, s17, .int .i64 (k : Int), s19, s20, s21, s22, s23, s24, s25, s26, s27, s28, s29, s30, s31, s32, s33, s34, s35, s36, s37, s38, s39, s40, s41, s42, s43, s44, s45, s46, s47, s48, s49, s50, s51, s52, s53, s54, s55, s56, s57, s58, s59, s60, s61, s62, s63, s64, s65, s66, s67, s68, s69, s70, s71, s72, s73, s74, s75, s76, s77, s78, s79, s80, s81, s82, s83, s84, s85, s86, s87, s88, s89, s90, s91, s92, s93, s94, s95, s96, s97, s98, s99, s100, s101, s102, s103, s104, s105, s106, s107, s108, s109, s110, s111, s112, s113, s114, s115, s116, s117, s118, s119, s120, s121, s122, s123, s124, s125, s126, s127, s128, s129, s130, s131, s132, s133, s134, s135, s136, s137, s138, s139, s140, s141, s142, s143, s144, s145, s146, s147, s148, s149, s150, s151, s152, s153, s154, s155, s156, s157, s158, s159, s160, s161, s162, s163, s164, s165, s166, s167, s168, s169, s170, s171, s172, s173, s174, s175, s176, s177, s178, s179, s180, s181, s182, s183, s184, s185, s186, s187, s188, s189, s190, s191], []⟩ W0 := by
  conv => arg 2; whnf
  refine wp_region_spec (by kernel_rfl) 41 (by kernel_rfl) (fun u => ⟨#[s0, s1, s2, s3, s4, s5, .slice (some ⟨b1, o1, none⟩) rl c1, .int .i64 9, s8, s9, .slice (some ⟨b2, o2, none⟩) rl c2, s11, .slice (some ⟨b3, o3, none⟩) rl c3, s13, s14, s15, s16, s17, .int .i64 (k : Int), s19, s20, s21, s22, s23, s24, s25, s26, s27, s28, s29, s30, s31, s32, s33, s34, s35, s36, s37, s38, s39, s40, s41, s42, s43, s44, s45, s46, s47, s48, s49, s50, s51, s52, s53, s54, s55, s56, s57, s58, s59, s60, s61, s62, s63, s64, s65, s66, s67, s68, s69, s70, s71, s72, s73, s74, s75, s76, s77, s78, s79, s80, s81, s82, s83, s84, s85, s86, s87, s88, s89, s90, s91, s92, s93, s94, s95, s96, s97, s98, s99, s100, s101, s102, s103, s104, s105, s106, s107, s108, s109, s110, s111, s112, s113, s114, s115, s116, s117, s118, s119, s120, s121, s122, s123, s124, s125, s126, s127, s128, s129, s130, s131, s132, s133, s134, s135, u 0, u 1, u 2, u 3, u 4, u 5, u 6, u 7, u 8, u 9, u 10, u 11, u 12, u 13, u 14, u 15, u 16, u 17, u 18, u 19, u 20, u 21, u 22, u 23, u 24, u 25, u 26, u 27, u 28, u 29, u 30, u 31, u 32, u 33, u 34, u 35, u 36, u 37, u 38, u 39, u 40, s177, s178, s179, s180, s181, s182, s183, s184, s185, s186, s187, s188, s189, s190, s191], []⟩) (fun i => if i = 0 then s136 else if i = 1 then s137 else if i = 2 then s138 else if i = 3 then s139 else if i = 4 then s140 else if i = 5 then s141 else if i = 6 then s142 else if i = 7 then s143 else if i = 8 then s144 else if i = 9 then s145 else if i = 10 then s146 else if i = 11 then s147 else if i = 12 then s148 else if i = 13 then s149 else if i = 14 then s150 else if i = 15 then s151 else if i = 16 then s152 else if i = 17 then s153 else if i = 18 then s154 else if i = 19 then s155 else if i = 20 then s156 else if i = 21 then s157 else if i = 22 then s158 else if i = 23 then s159 else if i = 24 then s160 else if i = 25 then s161 else if i = 26 then s162 else if i = 27 then s163 else if i = 28 then s164 else if i = 29 then s165 else if i = 30 then s166 else if i = 31 then s167 else if i = 32 then s168 else if i = 33 then s169 else if i = 34 then s170 else if i = 35 then s171 else if i = 36 then s172 else if i = 37 then s173 else if i = 38 then s174 else if i = 39 then s175 else if i = 40 then s176 else undef) (fun W => Hid (S W)) (lr17bR b1 o1 c1 b2 o2 c2 b3 o3 c3 k rl x y) (by kernel_rfl) (hon _ _ HL.out (Below.refl _ _).drew) (fun i v W W2 hi h hb => lr17bR_on b1 o1 c1 b2 o2 c2 b3 o3 c3 k rl x y i hi v W W2 h hb) (by decide +kernel) ?_ ?_
  · iterate 41 (refine all_succ ?_ ?_)
    · exact all_zero
    · intro u W hB _ hd _ K hK
      have HK := Lib.hid hK; clear hK
      refine wpOp_of rfl (by rfl) ?_
      go_simp
      exact k_of (HK.out (.slice (some ⟨b1, o1, none⟩) rl c1) _ rfl hB (Below.refl _ _)) (by kernel_rfl)
    · intro u W hB _ hd _ K hK
      have HK := Lib.hid hK; clear hK
      refine wpOp_of rfl (by rfl) ?_
      go_simp
      exact k_of (HK.out (.int .i64 (k : Int)) _ rfl hB (Below.refl _ _)) (by kernel_rfl)
    · intro u W hB _ hd _ K hK
      have HK := Lib.hid hK; clear hK
      have e0 : u 0 = .slice (some ⟨b1, o1, none⟩) rl c1 := hd 0 (by decide +kernel)
      have e1 : u 1 = .int .i64 (k : Int) := hd 1 (by decide +kernel)
      refine wpOp_of rfl (by rfl) ?_
      go_simp
      exact k_of (HK.out (.pointer (some ⟨b1, o1 + k * 2, none⟩)) _ rfl hB (Below.refl _ _)) (by rw [← u1_eq e0, ← u1_eq e1]; kernel_rfl)
    · intro u W hB _ hd _ K hK
      have HK := Lib.hid hK; clear hK
      have e2 : u 2 = .pointer (some ⟨b1, o1 + k * 2, none⟩) := hd 2 (by decide +kernel)
      refine wpOp_of rfl (by rfl) ?_
      obtain ⟨d0, d1⟩ := h1 W hB.out
      go_simp
      exact k_of (HK.out (.agg #[.int .i64 x, .int .i64 y]) _ rfl hB (Below.refl _ _)) (by rw [← u1_eq e2]; kernel_rfl)
    · intro u W hB _ hd _ K hK
      have HK := Lib.hid hK; clear hK
      refine wpOp_of rfl (by rfl) ?_
      go_simp
      exact k_of (HK.out (.slice (some ⟨b2, o2, none⟩) rl c2) _ rfl hB (Below.refl _ _)) (by kernel_rfl)
    · intro u W hB _ hd _ K hK
      have HK := Lib.hid hK; clear hK
      refine wpOp_of rfl (by rfl) ?_
      go_simp
      exact k_of (HK.out (.int .i64 (k : Int)) _ rfl hB (Below.refl _ _)) (by kernel_rfl)
    · intro u W hB _ hd _ K hK
      have HK := Lib.hid hK; clear hK
      have e4 : u 4 = .slice (some ⟨b2, o2, none⟩) rl c2 := hd 4 (by decide +kernel)
      have e5 : u 5 = .int .i64 (k : Int) := hd 5 (by decide +kernel)
      refine wpOp_of rfl (by rfl) ?_
      go_simp
      exact k_of (HK.out (.pointer (some ⟨b2, o2 + k, none⟩)) _ rfl hB (Below.refl _ _)) (by rw [← u1_eq e4, ← u1_eq e5]; kernel_rfl)
    · intro u W hB _ hd _ K hK
      have HK := Lib.hid hK; clear hK
      have e6 : u 6 = .pointer (some ⟨b2, o2 + k, none⟩) := hd 6 (by decide +kernel)
      refine wpOp_of rfl (by rfl) ?_
      have d0 := h2 W hB.out
      go_simp
      exact k_of (HK.out (.int .i64 x) _ rfl hB (Below.refl _ _)) (by rw [← u1_eq e6]; kernel_rfl)
    · intro u W hB _ hd _ K hK
      have HK := Lib.hid hK; clear hK
      refine wpOp_of rfl (by rfl) ?_
      go_simp
      exact k_of (HK.out (.slice (some ⟨b3, o3, none⟩) rl c3) _ rfl hB (Below.refl _ _)) (by kernel_rfl)
    · intro u W hB _ hd _ K hK
      have HK := Lib.hid hK; clear hK
      refine wpOp_of rfl (by rfl) ?_
      go_simp
      exact k_of (HK.out (.int .i64 (k : Int)) _ rfl hB (Below.refl _ _)) (by kernel_rfl)
    · intro u W hB _ hd _ K hK
      have HK := Lib.hid hK; clear hK
      have e8 : u 8 = .slice (some ⟨b3, o3, none⟩) rl c3 := hd 8 (by decide +kernel)
      have e9 : u 9 = .int .i64 (k : Int) := hd 9 (by decide +kernel)
      refine wpOp_of rfl (by rfl) ?_
      go_simp
      exact k_of (HK.out (.pointer (some ⟨b3, o3 + k, none⟩)) _ rfl hB (Below.refl _ _)) (by rw [← u1_eq e8, ← u1_eq e9]; kernel_rfl)
    · intro u W hB _ hd _ K hK
      have HK := Lib.hid hK; clear hK
      have e10 : u 10 = .pointer (some ⟨b3, o3 + k, none⟩) := hd 10 (by decide +kernel)
      refine wpOp_of rfl (by rfl) ?_
      have d0 := h3 W hB.out
      go_simp
      exact k_of (HK.out (.int .i64 y) _ rfl hB (Below.refl _ _)) (by rw [← u1_eq e10]; kernel_rfl)
    · intro u W hB _ hd _ K hK
      have HK := Lib.hid hK; clear hK
      have e7 : u 7 = .int .i64 x := hd 7 (by decide +kernel)
      have e11 : u 11 = .int .i64 y := hd 11 (by decide +kernel)
      refine wpOp_of rfl (by rfl) ?_
      go_simp
      refine (span_any x y W).mono ?_
      rintro e w' ⟨rfl, hb⟩
      exact k_of (HK.out (.agg #[.int .i64 x, .int .i64 y]) _ rfl (hon _ _ hB.out hb) hb) (by rw [← u1_eq e7, ← u1_eq e11]; kernel_rfl)
    · intro u W hB _ hd _ K hK
      have HK := Lib.hid hK; clear hK
      have e3 : u 3 = .agg #[.int .i64 x, .int .i64 y] := hd 3 (by decide +kernel)
      have e12 : u 12 = .agg #[.int .i64 x, .int .i64 y] := hd 12 (by decide +kernel)
      refine wpOp_of rfl (by rfl) ?_
      have hne := spn_same x y
      go_simp
      exact k_of (HK.out (.bool false) _ rfl hB (Below.refl _ _)) (by rw [← u1_eq e3, ← u1_eq e12]; kernel_rfl)
    · intro u W hB _ hd _ K hK
      have HK := Lib.hid hK; clear hK
      have e13 : u 13 = .bool false := hd 13 (by decide +kernel)
      refine wpOp_of rfl (by rfl) ?_
      go_simp
      exact k_of (HK.out (.bool false) _ rfl hB (Below.refl _ _)) (by rw [← u1_eq e13]; kernel_rfl)
    · intro u W hB _ hd _ K hK
      have HK := Lib.hid hK; clear hK
      have e14 : u 14 = .bool false := hd 14 (by decide +kernel)
      refine wpOp_of rfl (by rw [← u1_eq e14]; kernel_rfl) ?_
      go_simp
      exact k_of (HK.out (.int .i64 9) _ rfl hB (Below.refl _ _)) (by rw [← u1_eq e14]; kernel_rfl)
    · intro u W hB _ hd _ K hK
      have HK := Lib.hid hK; clear hK
      have e14 : u 14 = .bool false := hd 14 (by decide +kernel)
      have e15 : u 15 = .int .i64 9 := hd 15 (by decide +kernel)
      refine wpOp_of rfl (by rw [← u1_eq e14]; kernel_rfl) ?_
      go_simp
      exact k_of (HK.out (.bool false) _ rfl hB (Below.refl _ _)) (by rw [← u1_eq e14, ← u1_eq e15]; kernel_rfl)
    · intro u W hB _ hd _ K hK
      have HK := Lib.hid hK; clear hK
      have e14 : u 14 = .bool false := hd 14 (by decide +kernel)
      have e16 : u 16 = .bool false := hd 16 (by decide +kernel)
      refine wpOp_of rfl (by rw [← u1_eq e14]; kernel_rfl) ?_
      go_simp
      exact k_of (HK.out (.bool false) _ rfl hB (Below.refl _ _)) (by rw [← u1_eq e14, ← u1_eq e16]; kernel_rfl)
    · intro u W hB _ hd _ K hK
      have HK := Lib.hid hK; clear hK
      have e17 : u 17 = .bool false := hd 17 (by decide +kernel)
      refine wpOp_skip rfl (by rw [← u1_eq e17]; kernel_rfl) ?_
      exact k_of (HK.out undef _ rfl hB (Below.refl _ _)) (by rw [← u1_eq e17]; kernel_rfl)
    · intro u W hB _ hd _ K hK
      have HK := Lib.hid hK; clear hK
      have e17 : u 17 = .bool false := hd 17 (by decide +kernel)
      refine wpOp_skip rfl (by rw [← u1_eq e17]; kernel_rfl) ?_
      exact k_of (HK.out undef _ rfl hB (Below.refl _ _)) (by rw [← u1_eq e17]; kernel_rfl)
    · intro u W hB _ hd _ K hK
      have HK := Lib.hid hK; clear hK
      have e17 : u 17 = .bool false := hd 17 (by decide +kernel)
      refine wpOp_skip rfl (by rw [← u1_eq e17]; kernel_rfl) ?_
      exact k_of (HK.out undef _ rfl hB (Below.refl _ _)) (by rw [← u1_eq e17]; kernel_rfl)
    · intro u W hB _ hd _ K hK
      have HK := Lib.hid hK; clear hK
      have e17 : u 17 = .bool false := hd 17 (by decide +kernel)
      refine wpOp_skip rfl (by rw [← u1_eq e17]; kernel_rfl) ?_
      exact k_of (HK.out undef _ rfl hB (Below.refl _ _)) (by rw [← u1_eq e17]; kernel_rfl)
    · intro u W hB _ hd _ K hK
      have HK := Lib.hid hK; clear hK
      have e17 : u 17 = .bool false := hd 17 (by decide +kernel)
      refine wpOp_skip rfl (by rw [← u1_eq e17]; kernel_rfl) ?_
      exact k_of (HK.out undef _ rfl hB (Below.refl _ _)) (by rw [← u1_eq e17]; kernel_rfl)
    · intro u W hB _ hd _ K hK
      have HK := Lib.hid hK; clear hK
      have e17 : u 17 = .bool false := hd 17 (by decide +kernel)
      refine wpOp_skip rfl (by rw [← u1_eq e17]; kernel_rfl) ?_
      exact k_of (HK.out undef _ rfl hB (Below.refl _ _)) (by rw [← u1_eq e17]; kernel_rfl)
    · intro u W hB _ hd _ K hK
      have HK := Lib.hid hK; clear hK
      have e23 : u 23 = undef := hd 23 (by decide +kernel)
      refine wpOp_skip rfl (by rw [← u1_eq e23]; kernel_rfl) ?_
      exact k_of (HK.out undef _ rfl hB (Below.refl _ _)) (by rw [← u1_eq e23]; kernel_rfl)
    · intro u W hB _ hd _ K hK
      have HK := Lib.hid hK; clear hK
      have e23 : u 23 = undef := hd 23 (by decide +kernel)
      refine wpOp_skip rfl (by rw [← u1_eq e23]; kernel_rfl) ?_
      exact k_of (HK.out undef _ rfl hB (Below.refl _ _)) (by rw [← u1_eq e23]; kernel_rfl)
    · intro u W hB _ hd _ K hK
      have HK := Lib.hid hK; clear hK
      have e23 : u 23 = undef := hd 23 (by decide +kernel)
      refine wpOp_skip rfl (by rw [← u1_eq e23]; kernel_rfl) ?_
      exact k_of (HK.out undef _ rfl hB (Below.refl _ _)) (by rw [← u1_eq e23]; kernel_rfl)
    · intro u W hB _ hd _ K hK
      have HK := Lib.hid hK; clear hK
      have e23 : u 23 = undef := hd 23 (by decide +kernel)
      refine wpOp_skip rfl (by rw [← u1_eq e23]; kernel_rfl) ?_
      exact k_of (HK.out undef _ rfl hB (Below.refl _ _)) (by rw [← u1_eq e23]; kernel_rfl)
    · intro u W hB _ hd _ K hK
      have HK := Lib.hid hK; clear hK
      have e23 : u 23 = undef := hd 23 (by decide +kernel)
      refine wpOp_skip rfl (by rw [← u1_eq e23]; kernel_rfl) ?_
      exact k_of (HK.out undef _ rfl hB (Below.refl _ _)) (by rw [← u1_eq e23]; kernel_rfl)
    · intro u W hB _ hd _ K hK
      have HK := Lib.hid hK; clear hK
      have e23 : u 23 = undef := hd 23 (by decide +kernel)
      refine wpOp_skip rfl (by rw [← u1_eq e23]; kernel_rfl) ?_
      exact k_of (HK.out undef _ rfl hB (Below.refl _ _)) (by rw [← u1_eq e23]; kernel_rfl)
    · intro u W hB _ hd _ K hK
      have HK := Lib.hid hK; clear hK
      have e23 : u 23 = undef := hd 23 (by decide +kernel)
      refine wpOp_skip rfl (by rw [← u1_eq e23]; kernel_rfl) ?_
      exact k_of (HK.out undef _ rfl hB (Below.refl _ _)) (by rw [← u1_eq e23]; kernel_rfl)
    · intro u W hB _ hd _ K hK
      have HK := Lib.hid hK; clear hK
      have e23 : u 23 = undef := hd 23 (by decide +kernel)
      refine wpOp_skip rfl (by rw [← u1_eq e23]; kernel_rfl) ?_
      exact k_of (HK.out undef _ rfl hB (Below.refl _ _)) (by rw [← u1_eq e23]; kernel_rfl)
    · intro u W hB _ hd _ K hK
      have HK := Lib.hid hK; clear hK
      have e23 : u 23 = undef := hd 23 (by decide +kernel)
      refine wpOp_skip rfl (by rw [← u1_eq e23]; kernel_rfl) ?_
      exact k_of (HK.out undef _ rfl hB (Below.refl _ _)) (by rw [← u1_eq e23]; kernel_rfl)
    · intro u W hB _ hd _ K hK
      have HK := Lib.hid hK; clear hK
      have e23 : u 23 = undef := hd 23 (by decide +kernel)
      refine wpOp_skip rfl (by rw [← u1_eq e23]; kernel_rfl) ?_
      exact k_of (HK.out undef _ rfl hB (Below.refl _ _)) (by rw [← u1_eq e23]; kernel_rfl)
    · intro u W hB _ hd _ K hK
      have HK := Lib.hid hK; clear hK
      have e23 : u 23 = undef := hd 23 (by decide +kernel)
      refine wpOp_skip rfl (by rw [← u1_eq e23]; kernel_rfl) ?_
      exact k_of (HK.out undef _ rfl hB (Below.refl _ _)) (by rw [← u1_eq e23]; kernel_rfl)
    · intro u W hB _ hd _ K hK
      have HK := Lib.hid hK; clear hK
      have e23 : u 23 = undef := hd 23 (by decide +kernel)
      refine wpOp_skip rfl (by rw [← u1_eq e23]; kernel_rfl) ?_
      exact k_of (HK.out undef _ rfl hB (Below.refl _ _)) (by rw [← u1_eq e23]; kernel_rfl)
    · intro u W hB _ hd _ K hK
      have HK := Lib.hid hK; clear hK
      have e23 : u 23 = undef := hd 23 (by decide +kernel)
      refine wpOp_skip rfl (by rw [← u1_eq e23]; kernel_rfl) ?_
      exact k_of (HK.out undef _ rfl hB (Below.refl _ _)) (by rw [← u1_eq e23]; kernel_rfl)
    · intro u W hB _ hd _ K hK
      have HK := Lib.hid hK; clear hK
      have e23 : u 23 = undef := hd 23 (by decide +kernel)
      refine wpOp_skip rfl (by rw [← u1_eq e23]; kernel_rfl) ?_
      exact k_of (HK.out undef _ rfl hB (Below.refl _ _)) (by rw [← u1_eq e23]; kernel_rfl)
    · intro u W hB _ hd _ K hK
      have HK := Lib.hid hK; clear hK
      have e17 : u 17 = .bool false := hd 17 (by decide +kernel)
      refine wpOp_skip rfl (by rw [← u1_eq e17]; kernel_rfl) ?_
      exact k_of (HK.out undef _ rfl hB (Below.refl _ _)) (by rw [← u1_eq e17]; kernel_rfl)
    · intro u W hB _ hd _ K hK
      have HK := Lib.hid hK; clear hK
      have e14 : u 14 = .bool false := hd 14 (by decide +kernel)
      have e17 : u 17 = .bool false := hd 17 (by decide +kernel)
      have e38 : u 38 = undef := hd 38 (by decide +kernel)
      refine wpOp_of rfl (by rw [← u1_eq e14]; kernel_rfl) ?_
      go_simp
      exact k_of (HK.out (.bool false) _ rfl hB (Below.refl _ _)) (by rw [← u1_eq e14, ← u1_eq e17, ← u1_eq e38]; kernel_rfl)
    · intro u W hB _ hd _ K hK
      have HK := Lib.hid hK; clear hK
      have e14 : u 14 = .bool false := hd 14 (by decide +kernel)
      have e39 : u 39 = .bool false := hd 39 (by decide +kernel)
      refine wpOp_of rfl (by rfl) ?_
      go_simp
      exact k_of (HK.out (.bool false) _ rfl hB (Below.refl _ _)) (by rw [← u1_eq e14, ← u1_eq e39]; kernel_rfl)
  · intro u W hB hd
    have e40 : u 40 = .bool false := hd 40 (by decide)
    exact k_of (HQ.out u W hB.out) (by simp only [e40])
end Go.Proofs.Ytljbjcnfkbmjkaa
