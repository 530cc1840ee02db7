/- MouldWider: its mathematics, its memory, two regions. -/
import Derived.Test.YtljbjcnfkbmjkaaGj
import Derived.Test.YtljbjcnfkbmjkaaMgr
namespace Go.Proofs.Ytljbjcnfkbmjkaa
open Go.RowKit Go.Shelf Go.Maps
attribute [local go_sem] Oper.semAt_some

/-- A mould with wider ranges. -/
structure WideOk (m : Md) (p q r s : Int) : Prop where
  ok : MdOk m
  ok2 : MdOk (widen m p q r s)
  h1 : p ≤ m.plo
  h2 : m.phi ≤ q
  h3 : r ≤ m.wlo
  h4 : m.whi ≤ s
theorem WideOk.of {m : Md} (h : MdOk m) {p q r s a b c d : Int} (ha : 0 ≤ a) (hb : 0 ≤ b) (hc : 0 ≤ c) (hd : 0 ≤ d) (hp : p = max 0 (m.plo - a)) (hq : q = min 2000 (m.phi + b)) (hr : r = max 0 (m.wlo - c)) (hs : s = min 2000 (m.whi + d)) : WideOk m p q r s := by
  have h1 := h.plo; have h2 := h.phi; have h3 := h.wlo; have h4 := h.whi; have h5 := h.pour; have h6 := h.wall
  refine ⟨h, ⟨⟨h.rings, h.give, ?_, ?_, ?_, ?_, h.st, h.shrink, h.skin, h.fill, h.gap, h.deep⟩, ?_, ?_⟩, ?_, ?_, ?_, ?_⟩
  · show 0 ≤ p ∧ p ≤ 2000; omega
  · show 0 ≤ q ∧ q ≤ 2000; omega
  · show 0 ≤ r ∧ r ≤ 2000; omega
  · show 0 ≤ s ∧ s ≤ 2000; omega
  · show p ≤ q; omega
  · show r ≤ s; omega
  · omega
  · omega
  · omega
  · omega
theorem WideOk.ab {m : Md} {p q r s : Int} (h : WideOk m p q r s) {a b a2 b2 : List Int} (ha : wh m false = a) (hb : wh m true = b) (ha2 : wh (widen m p q r s) false = a2) (hb2 : wh (widen m p q r s) true = b2) : Wle a2 a ∧ Wle b b2 := by
  have h2 := wh_wide h.ok.toMdIn h.h1 h.h2 h.h3 h.h4
  rw [ha, hb, ha2, hb2] at h2
  exact h2
/-- A plan that the wider mould bears: so does the narrower one, and its hollows lie within. -/
theorem WideOk.holl {m : Md} {p q r s : Int} (h : WideOk m p q r s) {l : List Int} {x1 x2 x3 x4 e0 y1 y2 y3 y4 : Int} (hx : hollR m l = (((x1, x2), (x3, x4)), e0)) (hy : hollR (widen m p q r s) l = (((y1, y2), (y3, y4)), 0)) : e0 = 0 ∧ ¬ (x1 < y1) ∧ ¬ (y2 < x2) := by
  obtain ⟨a, ha⟩ : ∃ a, wh m false = a := ⟨_, rfl⟩
  obtain ⟨b, hb⟩ : ∃ b, wh m true = b := ⟨_, rfl⟩
  obtain ⟨a2, ha2⟩ : ∃ a2, wh (widen m p q r s) false = a2 := ⟨_, rfl⟩
  obtain ⟨b2, hb2⟩ : ∃ b2, wh (widen m p q r s) true = b2 := ⟨_, rfl⟩
  obtain ⟨w1, w2⟩ := h.ab ha hb ha2 hb2
  rcases holl_cases hy with ⟨h1, _⟩ | ⟨_, ho⟩
  · exact absurd rfl h1
  · have hnv := ho.nev
    have hpo := ho.pours
    have q1 := ho.e1
    have q2 := ho.e2
    rw [ha2] at hpo q1
    rw [hb2] at hnv q2
    have hpl : planE m l = 0 := ho.plan
    have hn := never_mono w2 hnv
    have hp2 : pours m a2 l = true := hpo
    have hp3 := pours_mono w1 hp2
    have q1' : y1 = hollM m a2 l := q1
    have q2' : y2 = hollM m b2 l := q2
    have la : a.length = kR m := by rw [← ha]; exact wh_length m false
    have lb : b.length = kR m := by rw [← hb]; exact wh_length m true
    have fa : Bef 601 a := by rw [← ha]; exact wh_bef m false
    have fb : Bef 601 b := by rw [← hb]; exact wh_bef m true
    have fa2 : Bef 601 a2 := by rw [← ha2]; exact wh_bef _ false
    have fb2 : Bef 601 b2 := by rw [← hb2]; exact wh_bef _ true
    have hab := wh_ab h.ok ha hb
    have na := never_mono hab hn
    have m1 := holl_mono h.ok.toMdIn w1 (by rw [w1.length, la]) na fa2 fa l
    have m2 := holl_mono h.ok.toMdIn w2 lb hnv fb fb2 l
    have h9 : hollR m l = (((hollM m a l, hollM m b l), (pourM m b l, pourM m a l)), 0) := by
      unfold hollR
      rw [if_neg (fun h5 => h5 (checkM_ok.2 h.ok)), if_neg (fun h5 => h5 hpl), hb, ha, if_neg (by rw [hn]; decide), if_pos hp3]
    rw [h9] at hx
    simp only [Prod.mk.injEq] at hx
    obtain ⟨⟨⟨e1, e2⟩, _⟩, e3⟩ := hx
    exact ⟨e3.symm, by omega, by omega⟩
/-- What lies in memory: the mould, the numbers, the mould that gets wider, what Warm returned. -/
structure WdB (w : World) (m : Md) (y0 y1 y2 y3 y4 : Int) (G : Nat) (Aw : Option Addr) (wl : List (Int × Int)) (a b c d : Int) (W : World) : Prop where
  bm : MdBk w w.heap.size 25 m W
  y : Blk W (w.heap.size + 1) 79 #[.int .u16 y0, .int .u16 y1, .int .u16 y2, .int .u16 y3, .int .u16 y4]
  g : Blk W G 25 #[.int .i64 m.rings, .int .i64 m.give, .int .i64 a, .int .i64 b, .int .i64 c, .int .i64 d, .int .i64 m.st, .int .i64 m.shrink, .int .i64 m.skin, .int .i64 m.fill, .int .i64 m.gap, .int .i64 m.deep]
  v : SpansAt W G Aw wl
  hg : w.heap.size + 1 < G
section
variable {w W W' : World} {m : Md} {y0 y1 y2 y3 y4 : Int} {G : Nat} {Aw : Option Addr} {wl : List (Int × Int)} {a b c d : Int}
theorem WdB.on (h : WdB w m y0 y1 y2 y3 y4 G Aw wl a b c d W) (hb : Below W.heap.size W W') : WdB w m y0 y1 y2 y3 y4 G Aw wl a b c d W' :=
  ⟨h.bm.on hb, h.y.on hb, h.g.on hb, RowAt.below h.v hb (Nat.le_of_lt h.g.lt), h.hg⟩
theorem WdB.low (h : WdB w m y0 y1 y2 y3 y4 G Aw wl a b c d W) (hb : Below G W W') : MdBk w w.heap.size 25 m W' ∧ Blk W' (w.heap.size + 1) 79 #[.int .u16 y0, .int .u16 y1, .int .u16 y2, .int .u16 y3, .int .u16 y4] ∧ SpansAt W' G Aw wl := by
  have hg := h.hg
  exact ⟨⟨h.bm.bk.below hb (by omega), h.bm.b.trans (hb.mono (by omega))⟩, h.y.below hb hg, RowAt.below h.v hb (Nat.le_refl _)⟩
theorem WdB.set2 (h : WdB w m y0 y1 y2 y3 y4 G Aw wl a b c d W) (p q : Int) : WdB w m y0 y1 y2 y3 y4 G Aw wl p q c d ((W.setCell ⟨G, 2, none⟩ (.int .i64 p)).setCell ⟨G, 3, none⟩ (.int .i64 q)) := by
  obtain ⟨h1, h2, h3⟩ := h.low (below_set (below_set (Below.refl G W) (Nat.le_refl _)) (Nat.le_refl _))
  exact ⟨h1, h2, (h.g.set_ 2 (.int .i64 p)).set_ 3 (.int .i64 q), h3, h.hg⟩
theorem WdB.set4 (h : WdB w m y0 y1 y2 y3 y4 G Aw wl a b c d W) (p q : Int) : WdB w m y0 y1 y2 y3 y4 G Aw wl a b p q ((W.setCell ⟨G, 4, none⟩ (.int .i64 p)).setCell ⟨G, 5, none⟩ (.int .i64 q)) := by
  obtain ⟨h1, h2, h3⟩ := h.low (below_set (below_set (Below.refl G W) (Nat.le_refl _)) (Nat.le_refl _))
  exact ⟨h1, h2, (h.g.set_ 4 (.int .i64 p)).set_ 5 (.int .i64 q), h3, h.hg⟩
end
set_option maxRecDepth 100000 in
set_option maxHeartbeats 8000000 in
theorem wd6_region {w W0 : World} {m : Md} {y0 y1 y2 y3 y4 : Int} {G : Nat} {Aw : Option Addr} {wl : List (Int × Int)} {a b c d p q : Int} (h0 : 0 ≤ m.plo ∧ m.plo ≤ 2000) (h1 : 0 ≤ m.phi ∧ m.phi ≤ 2000) (hy : 0 ≤ y1 ∧ y1 ≤ 65535) (hz : 0 ≤ y2 ∧ y2 ≤ 65535) (hp : p = max 0 (m.plo - y1 % 100)) (hq : q = min 2000 (m.phi + y2 % 100))
    {Q : Exit → Act → World → Prop} {s0 s1 s2 s4 s6 s7 s8 s9 s11 s12 s13 s14 s15 s16 s17 s18 s19 s20 s21 s22 s23 s24 s25 s26 s27 s28 s29 s30 s31 s32 s33 s34 s35 s36 s37 s38 s39 s40 s41 s42 s43 s44 s45 s46 s47 s48 s49 s50 s51 s52 s53 s54 s55 s56 s57 s58 s59 s60 s61 s62 s63 s64 s65 s66 s67 s68 s69 s70 s71 s72 s73 s74 s75 s76 s77 s78 s79 s80 s81 s82 s83 s84 s85 s86 s87 s88 s89 s90 s91 s92 s93 s94 s95 s96 s97 s98 s99 s100 s101 s102 s103 s104 s105 s106 s107 s108 s109 s110 s111 s112 s113 s114 s115 s116 s117 s118 s119 s120 s121 s122 s123 s124 s125 s126 s127 s128 s129 s130 s131 s132 s133 s134 s135 s136 s137 s138 s139 s140 s141 s142 s143 s144 s145 s146 s147 s148 s149 s150 s151 s152 s153 s154 s155 s156 s157 s158 s159 s160 s161 s162 s163 s164 s165 s166 s167 s168 s169 s170 s171 s172 s173 s174 s175 s176 s177 s178 s179 s180 s181 s182 s183 s184 s185 s186 s187 s188 s189 s190 s191 s192 s193 s194 s195 s196 s197 s198 s199 s200 s201 s202 s203 s204 s205 s206 : Value} (HB : Hid (WdB w m y0 y1 y2 y3 y4 G Aw wl a b c d W0))
    (HQ : Hid (∀ (u39 u40 u41 u42 u43 u44 u45 u46 u47 u48 u49 u50 u51 u52 u53 u54 u55 u56 u57 u58 : Value) (W : World), WdB w m y0 y1 y2 y3 y4 G Aw wl p q c d W → Q .normal ⟨#[s0, s1, s2, .pointer (some ⟨w.heap.size, 0, none⟩), s4, .pointer (some ⟨w.heap.size + 1, 0, none⟩), s6, s7, s8, s9, .pointer (some ⟨G, 0, none⟩), s11, s12, s13, s14, s15, s16, s17, s18, s19, s20, s21, s22, s23, s24, s25, s26, s27, s28, s29, s30, s31, s32, s33, s34, s35, s36, s37, s38, u39, u40, u41, u42, u43, u44, u45, u46, u47, u48, u49, u50, u51, u52, u53, u54, u55, u56, u57, u58, s59, s60, s61, s62, s63, s64, s65, s66, s67, s68, s69, s70, s71, s72, s73, s74, s75, s76, s77, s78, s79, s80, s81, s82, s83, s84, s85, s86, s87, s88, s89, s90, s91, s92, s93, s94, s95, s96, s97, s98, s99, s100, s101, s102, s103, s104, s105, s106, s107, s108, s109, s110, s111, s112, s113, s114, s115, s116, s117, s118, s119, s120, s121, s122, s123, s124, s125, s126, s127, s128, s129, s130, s131, s132, s133, s134, s135, s136, s137, s138, s139, s140, s141, s142, s143, s144, s145, s146, s147, s148, s149, s150, s151, s152, s153, s154, s155, s156, s157, s158, s159, s160, s161, s162, s163, s164, s165, s166, s167, s168, s169, s170, s171, s172, s173, s174, s175, s176, s177, s178, s179, s180, s181, s182, s183, s184, s185, s186, s187, s188, s189, s190, s191, s192, s193, s194, s195, s196, s197, s198, s199, s200, s201, s202, s203, s204, s205, s206], []⟩ W)) :
    Code.wp Try.prog ((Try.f16.body.bind (regionAt 6)).getD .skip) Q ⟨#[s0, s1, s2, .pointer (some ⟨w.heap.size, 0, none⟩), s4, .pointer (some ⟨w.heap.size + 1, 0, none⟩), s6, s7, s8, s9, .pointer (some ⟨G, 0, none⟩), s11, s12, s13, s14, s15, s16, s17, s18, s19, s20, s21, s22, s23, s24, s25, s26, s27, s28, s29, s30, s31, s32, s33, s34, s35, s36, s37, s38, s39, s40, s41, s42, s43, s44, s45, s46, s47, s48, s49, s50, s51, s52, s53, s54, s55, s56, s57, s58, s59, s60, s61, s62, s63, s64, s65, s66, s67, s68, s69, s70, s71, s72, s73, s74, s75, s76, s77, s78, s79, s80, s81, s82, s83, s84, s85, s86, s87, s88, s89, s90, s91, s92, s93, s94, s95, s96, s97, s98, s99, s100, s101, s102, s103, s104, s105, s106, s107, s108, s109, s110, s111, s112, s113, s114, s115, s116, s117, s118, s119, s120, s121, s122, s123, s124, s125, s126, s127, s128, s129, s130, s131, s132, s133, s134, s135, s136, s137, s138, s139, s140, s141, s142, s143, s144, s145, s146, s147, s148, s149, s150, s151, s152, s153, s154, s155, s156, s157, s158, s159, s160, s161, s162, s163, s164, s165, s166, s167, s168, s169, s170, s171, s172, s173, s174, s175, s176, s177, s178, s179, s180, s181, s182, s183, s184, s185, s186, s187, s188, s189, s190, s191, s192, s193, s194, s195, s196, s197, s198, s199, s200, s201, s202, s203, s204, s205, s206], []⟩ W0 := by
  conv => arg 2; whnf
  have b1 : 0 ≤ y1 % 100 ∧ y1 % 100 ≤ 99 := by omega
  have b2 : 0 ≤ y2 % 100 ∧ y2 % 100 ≤ 99 := by omega
  obtain ⟨c0, c1, c2, c3, c4, c5, c6, c7, c8, c9, c10, c11⟩ := HB.out.bm.cells
  have d0 := HB.out.y.cell 0
  have d1 := HB.out.y.cell 1
  have d2 := HB.out.y.cell 2
  have d3 := HB.out.y.cell 3
  have d4 := HB.out.y.cell 4
  have hlt := HB.out.y.lt
  subst hp hq
  go_wp2_with (first
    | (go_at_call 36; (with_reducible refine (span_any _ _ _).mono ?_); rintro e w1 ⟨rfl, hb⟩; have H1 := Lib.hid (HB.out.on hb); have f0 := H1.out.g.frozen 2; have f1 := H1.out.g.frozen 3; have g0 := H1.out.g.cell 2; have g1 := H1.out.g.cell 3; have hl1 := H1.out.g.lt; clear hb c0 c1 c2 c3 c4 c5 c6 c7 c8 c9 c10 c11 d0 d1 d2 d3 d4)
    | fail)
  first
    | exact HQ.out _ _ _ _ _ _ _ _ _ _ _ _ _ _ _ _ _ _ _ _ _ (H1.out.set2 _ _)
    | exact NoPanic.normal (HQ.out _ _ _ _ _ _ _ _ _ _ _ _ _ _ _ _ _ _ _ _ _ (H1.out.set2 _ _))
set_option maxRecDepth 100000 in
set_option maxHeartbeats 8000000 in
theorem wd7_region {w W0 : World} {m : Md} {y0 y1 y2 y3 y4 : Int} {G : Nat} {Aw : Option Addr} {wl : List (Int × Int)} {a b c d p q : Int} (h0 : 0 ≤ m.wlo ∧ m.wlo ≤ 2000) (h1 : 0 ≤ m.whi ∧ m.whi ≤ 2000) (hy : 0 ≤ y3 ∧ y3 ≤ 65535) (hz : 0 ≤ y4 ∧ y4 ≤ 65535) (hp : p = max 0 (m.wlo - y3 % 100)) (hq : q = min 2000 (m.whi + y4 % 100))
    {Q : Exit → Act → World → Prop} {s0 s1 s2 s4 s6 s7 s8 s9 s11 s12 s13 s14 s15 s16 s17 s18 s19 s20 s21 s22 s23 s24 s25 s26 s27 s28 s29 s30 s31 s32 s33 s34 s35 s36 s37 s38 s39 s40 s41 s42 s43 s44 s45 s46 s47 s48 s49 s50 s51 s52 s53 s54 s55 s56 s57 s58 s59 s60 s61 s62 s63 s64 s65 s66 s67 s68 s69 s70 s71 s72 s73 s74 s75 s76 s77 s78 s79 s80 s81 s82 s83 s84 s85 s86 s87 s88 s89 s90 s91 s92 s93 s94 s95 s96 s97 s98 s99 s100 s101 s102 s103 s104 s105 s106 s107 s108 s109 s110 s111 s112 s113 s114 s115 s116 s117 s118 s119 s120 s121 s122 s123 s124 s125 s126 s127 s128 s129 s130 s131 s132 s133 s134 s135 s136 s137 s138 s139 s140 s141 s142 s143 s144 s145 s146 s147 s148 s149 s150 s151 s152 s153 s154 s155 s156 s157 s158 s159 s160 s161 s162 s163 s164 s165 s166 s167 s168 s169 s170 s171 s172 s173 s174 s175 s176 s177 s178 s179 s180 s181 s182 s183 s184 s185 s186 s187 s188 s189 s190 s191 s192 s193 s194 s195 s196 s197 s198 s199 s200 s201 s202 s203 s204 s205 s206 : Value} (HB : Hid (WdB w m y0 y1 y2 y3 y4 G Aw wl a b c d W0))
    (HQ : Hid (∀ (u59 u60 u61 u62 u63 u64 u65 u66 u67 u68 u69 u70 u71 u72 u73 u74 u75 u76 u77 u78 : Value) (W : World), WdB w m y0 y1 y2 y3 y4 G Aw wl a b p q W → Q .normal ⟨#[s0, s1, s2, .pointer (some ⟨w.heap.size, 0, none⟩), s4, .pointer (some ⟨w.heap.size + 1, 0, none⟩), s6, s7, s8, s9, .pointer (some ⟨G, 0, none⟩), s11, s12, s13, s14, s15, s16, s17, s18, s19, s20, s21, s22, s23, s24, s25, s26, s27, s28, s29, s30, s31, s32, s33, s34, s35, s36, s37, s38, s39, s40, s41, s42, s43, s44, s45, s46, s47, s48, s49, s50, s51, s52, s53, s54, s55, s56, s57, s58, u59, u60, u61, u62, u63, u64, u65, u66, u67, u68, u69, u70, u71, u72, u73, u74, u75, u76, u77, u78, s79, s80, s81, s82, s83, s84, s85, s86, s87, s88, s89, s90, s91, s92, s93, s94, s95, s96, s97, s98, s99, s100, s101, s102, s103, s104, s105, s106, s107, s108, s109, s110, s111, s112, s113, s114, s115, s116, s117, s118, s119, s120, s121, s122, s123, s124, s125, s126, s127, s128, s129, s130, s131, s132, s133, s134, s135, s136, s137, s138, s139, s140, s141, s142, s143, s144, s145, s146, s147, s148, s149, s150, s151, s152, s153, s154, s155, s156, s157, s158, s159, s160, s161, s162, s163, s164, s165, s166, s167, s168, s169, s170, s171, s172, s173, s174, s175, s176, s177, s178, s179, s180, s181, s182, s183, s184, s185, s186, s187, s188, s189, s190, s191, s192, s193, s194, s195, s196, s197, s198, s199, s200, s201, s202, s203, s204, s205, s206], []⟩ W)) :
    Code.wp Try.prog ((Try.f16.body.bind (regionAt 7)).getD .skip) Q ⟨#[s0, s1, s2, .pointer (some ⟨w.heap.size, 0, none⟩), s4, .pointer (some ⟨w.heap.size + 1, 0, none⟩), s6, s7, s8, s9, .pointer (some ⟨G, 0, none⟩), s11, s12, s13, s14, s15, s16, s17, s18, s19, s20, s21, s22, s23, s24, s25, s26, s27, s28, s29, s30, s31, s32, s33, s34, s35, s36, s37, s38, s39, s40, s41, s42, s43, s44, s45, s46, s47, s48, s49, s50, s51, s52, s53, s54, s55, s56, s57, s58, s59, s60, s61, s62, s63, s64, s65, s66, s67, s68, s69, s70, s71, s72, s73, s74, s75, s76, s77, s78, s79, s80, s81, s82, s83, s84, s85, s86, s87, s88, s89, s90, s91, s92, s93, s94, s95, s96, s97, s98, s99, s100, s101, s102, s103, s104, s105, s106, s107, s108, s109, s110, s111, s112, s113, s114, s115, s116, s117, s118, s119, s120, s121, s122, s123, s124, s125, s126, s127, s128, s129, s130, s131, s132, s133, s134, s135, s136, s137, s138, s139, s140, s141, s142, s143, s144, s145, s146, s147, s148, s149, s150, s151, s152, s153, s154, s155, s156, s157, s158, s159, s160, s161, s162, s163, s164, s165, s166, s167, s168, s169, s170, s171, s172, s173, s174, s175, s176, s177, s178, s179, s180, s181, s182, s183, s184, s185, s186, s187, s188, s189, s190, s191, s192, s193, s194, s195, s196, s197, s198, s199, s200, s201, s202, s203, s204, s205, s206], []⟩ W0 := by
  conv => arg 2; whnf
  have b1 : 0 ≤ y3 % 100 ∧ y3 % 100 ≤ 99 := by omega
  have b2 : 0 ≤ y4 % 100 ∧ y4 % 100 ≤ 99 := by omega
  obtain ⟨c0, c1, c2, c3, c4, c5, c6, c7, c8, c9, c10, c11⟩ := HB.out.bm.cells
  have d0 := HB.out.y.cell 0
  have d1 := HB.out.y.cell 1
  have d2 := HB.out.y.cell 2
  have d3 := HB.out.y.cell 3
  have d4 := HB.out.y.cell 4
  have hlt := HB.out.y.lt
  subst hp hq
  go_wp2_with (first
    | (go_at_call 36; (with_reducible refine (span_any _ _ _).mono ?_); rintro e w1 ⟨rfl, hb⟩; have H1 := Lib.hid (HB.out.on hb); have f0 := H1.out.g.frozen 4; have f1 := H1.out.g.frozen 5; have g0 := H1.out.g.cell 4; have g1 := H1.out.g.cell 5; have hl1 := H1.out.g.lt; clear hb c0 c1 c2 c3 c4 c5 c6 c7 c8 c9 c10 c11 d0 d1 d2 d3 d4)
    | fail)
  first
    | exact HQ.out _ _ _ _ _ _ _ _ _ _ _ _ _ _ _ _ _ _ _ _ _ (H1.out.set4 _ _)
    | exact NoPanic.normal (HQ.out _ _ _ _ _ _ _ _ _ _ _ _ _ _ _ _ _ _ _ _ _ (H1.out.set4 _ _))
end Go.Proofs.Ytljbjcnfkbmjkaa
