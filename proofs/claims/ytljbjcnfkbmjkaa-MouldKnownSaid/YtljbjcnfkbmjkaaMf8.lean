/- MouldKnown's regions that call Skin and Hollow. -/
import Derived.Test.YtljbjcnfkbmjkaaMf7
import Derived.Test.YtljbjcnfkbmjkaaMgr
namespace Go.Proofs.Ytljbjcnfkbmjkaa
open Go.RowKit Go.Shelf Go.Maps
attribute [local go_sem] Oper.semAt_some

set_option maxRecDepth 100000 in
set_option maxHeartbeats 8000000 in
theorem kn_r8 {Q : Exit → Act → World → Prop} {WB W0 : World} {N i : Nat} {mn r1 r2 : Int} (hi : i < 3) (hc : WB.cell? ⟨N, i, none⟩ = some (.int .i64 mn)) (hN : N < WB.heap.size) (hs : skinR (mo 150) mn = ((r1, r2), 0)) {s0 s1 s2 s3 s4 s6 s7 s8 s10 s11 s12 s13 s14 s15 s16 s17 s18 s19 s20 s21 s22 s23 s24 s25 s26 s27 s28 s29 s30 s31 s32 s33 s34 s35 s36 s37 s38 s39 s40 s41 s42 s43 s44 s45 s46 s47 s48 s49 s50 s51 s52 s53 s54 s55 s56 s57 s58 s59 s60 s61 s62 s63 s64 s65 s66 s67 s68 s69 s70 s71 s72 s73 s74 s75 s76 s77 s78 s79 s80 s81 s82 s83 s84 s85 s86 s87 s88 s89 s90 s91 s92 s93 s94 s95 s96 s97 s98 s99 s100 s101 s102 s103 s104 s105 s106 s107 s108 s109 s110 s111 s112 s113 s114 s115 s116 s117 s118 s119 s120 s121 s122 s123 s124 s125 s126 s127 s128 s129 s130 s131 : Value} (HL0 : Hid (Below WB.heap.size WB W0))
    (HQ : Hid (∀ (K : Nat) (u47 u48 u49 u50 u51 u52 u53 u54 u55 : Value) (W : World), Below WB.heap.size WB W → Blk W K 23 #[.int .i64 r1, .int .i64 r2] → Q .normal ⟨#[s0, s1, s2, s3, s4, .slice (some ⟨N, 0, none⟩) 3 3, s6, s7, s8, .int .i64 (i : Int), .pointer (some ⟨K, 0, none⟩), .int .i64 0, s12, s13, s14, s15, s16, s17, s18, s19, s20, s21, s22, s23, s24, s25, s26, s27, s28, s29, s30, s31, s32, s33, s34, s35, s36, s37, s38, s39, s40, s41, s42, s43, s44, s45, s46, u47, u48, u49, u50, u51, u52, u53, u54, u55, s56, s57, s58, s59, s60, s61, s62, s63, s64, s65, s66, s67, s68, s69, s70, s71, s72, s73, s74, s75, s76, s77, s78, s79, s80, s81, s82, s83, s84, s85, s86, s87, s88, s89, s90, s91, s92, s93, s94, s95, s96, s97, s98, s99, s100, s101, s102, s103, s104, s105, s106, s107, s108, s109, s110, s111, s112, s113, s114, s115, s116, s117, s118, s119, s120, s121, s122, s123, s124, s125, s126, s127, s128, s129, s130, s131], []⟩ W)) :
    Code.wp Try.prog ((Try.f6.body.bind (regionAt 8)).getD .skip) Q ⟨#[s0, s1, s2, s3, s4, .slice (some ⟨N, 0, none⟩) 3 3, s6, s7, s8, .int .i64 (i : Int), s10, s11, s12, s13, s14, s15, s16, s17, s18, s19, s20, s21, s22, s23, s24, s25, s26, s27, s28, s29, s30, s31, s32, s33, s34, s35, s36, s37, s38, s39, s40, s41, s42, s43, s44, s45, s46, s47, s48, s49, s50, s51, s52, s53, s54, s55, s56, s57, s58, s59, s60, s61, s62, s63, s64, s65, s66, s67, s68, s69, s70, s71, s72, s73, s74, s75, s76, s77, s78, s79, s80, s81, s82, s83, s84, s85, s86, s87, s88, s89, s90, s91, s92, s93, s94, s95, s96, s97, s98, s99, s100, s101, s102, s103, s104, s105, s106, s107, s108, s109, s110, s111, s112, s113, s114, s115, s116, s117, s118, s119, s120, s121, s122, s123, s124, s125, s126, s127, s128, s129, s130, s131], []⟩ W0 := by
  conv => arg 2; whnf
  have LAST : Hid (Below WB.heap.size WB W0.drew) := HL0.out.drew
  have hi' : (i : Int) < 3 := by omega
  have y0 := kept_of HL0.out ⟨N, i, none⟩ _ hc
  have hz : N < W0.heap.size := Nat.lt_of_lt_of_le hN HL0.out.size
  refine wp_region_noPanic ?_
  go_region_law (first
    | (go_simp; (with_reducible refine (lmould_any 150 _).mono ?_); rintro e wa ⟨rfl, hb⟩;
       (first
        | (have NEW : Hid (Below WB.heap.size WB wa) := LAST.out.trans (hb.mono LAST.out.size); clear LAST; have LAST := NEW; clear NEW)
        | (have hk := LAST.out.size; have HKZ : Hid (Blk wa W0.heap.size 23 #[.int .i64 0, .int .i64 0]) := (Blk.new W0.drew 23 #[.int .i64 0, .int .i64 0]).on hb; have NEW : Hid (Below WB.heap.size WB wa) := (LAST.out.alloc LAST.out.size (.cells #[.int .i64 0, .int .i64 0] 23)).trans (hb.mono (LAST.out.alloc LAST.out.size (.cells #[.int .i64 0, .int .i64 0] 23)).size); clear LAST; have LAST := NEW; clear NEW; have k0 := HKZ.out.cell 0; have f0 := HKZ.out.frozen 0; have k1 := HKZ.out.cell 1; have f1 := HKZ.out.frozen 1; have hlk := HKZ.out.lt));
       have y0 := kept_of LAST.out ⟨N, i, none⟩ _ hc; have hz := Nat.lt_of_lt_of_le hN LAST.out.size; clear hb)
    | (go_simp; refine (kn_skin _ hs).mono ?_; rintro e wk ⟨rfl, hb⟩;
       (first
        | (have NEW : Hid (Below WB.heap.size WB wk) := LAST.out.trans (hb.mono LAST.out.size); clear LAST; have LAST := NEW; clear NEW;
           first
            | (have NZ := Lib.hid (HKZ.out.on hb); clear HKZ; have HKZ := NZ; clear NZ; have k0 := HKZ.out.cell 0; have f0 := HKZ.out.frozen 0; have k1 := HKZ.out.cell 1; have f1 := HKZ.out.frozen 1; have hlk := HKZ.out.lt)
            | skip)
        | (have hk := LAST.out.size; have HKZ := Lib.hid ((Blk.new wa 23 #[.int .i64 0, .int .i64 0]).on hb); have NEW : Hid (Below WB.heap.size WB wk) := (LAST.out.alloc LAST.out.size (.cells #[.int .i64 0, .int .i64 0] 23)).trans (hb.mono (LAST.out.alloc LAST.out.size (.cells #[.int .i64 0, .int .i64 0] 23)).size); clear LAST; have LAST := NEW; clear NEW; have k0 := HKZ.out.cell 0; have f0 := HKZ.out.frozen 0; have k1 := HKZ.out.cell 1; have f1 := HKZ.out.frozen 1; have hlk := HKZ.out.lt));
       clear hb)
    | fail)
  all_goals first
    | exact NoPanic.normal (HQ.out _ _ _ _ _ _ _ _ _ _ _ (LAST.out.alloc LAST.out.size _) (Blk.new _ _ _))
    | exact NoPanic.normal (HQ.out _ _ _ _ _ _ _ _ _ _ _ (below_set (below_set LAST.out hk) hk) ((HKZ.out.set_ 0 (.int .i64 r1)).set_ 1 (.int .i64 r2)))

set_option maxRecDepth 100000 in
set_option maxHeartbeats 8000000 in
theorem kn_r9 {Q : Exit → Act → World → Prop} {WB W0 : World} {N i c : Nat} {A : Option Addr} {l : List Int} {x1 x2 x3 x4 : Int} (hi : i < 3) (hc : WB.cell? ⟨N, i, none⟩ = some (.slice A l.length c)) (hN : N < WB.heap.size) (hl : IntsIn WB A l) (hs : hollR (mo 150) l = (((x1, x2), (x3, x4)), 0)) {s0 s1 s2 s3 s4 s5 s6 s8 s10 s11 s12 s13 s14 s15 s16 s17 s18 s19 s20 s21 s22 s23 s24 s25 s26 s27 s28 s29 s30 s31 s32 s33 s34 s35 s36 s37 s38 s39 s40 s41 s42 s43 s44 s45 s46 s47 s48 s49 s50 s51 s52 s53 s54 s55 s56 s57 s58 s59 s60 s61 s62 s63 s64 s65 s66 s67 s68 s69 s70 s71 s72 s73 s74 s75 s76 s77 s78 s79 s80 s81 s82 s83 s84 s85 s86 s87 s88 s89 s90 s91 s92 s93 s94 s95 s96 s97 s98 s99 s100 s101 s102 s103 s104 s105 s106 s107 s108 s109 s110 s111 s112 s113 s114 s115 s116 s117 s118 s119 s120 s121 s122 s123 s124 s125 s126 s127 s128 s129 s130 s131 : Value} (HL0 : Hid (Below WB.heap.size WB W0))
    (HQ : Hid (∀ (K : Nat) (u56 u57 u58 u59 u60 u61 u62 u63 u64 : Value) (W : World), Below WB.heap.size WB W → Blk W K 45 #[.int .i64 x1, .int .i64 x2, .int .i64 x3, .int .i64 x4] → Q .normal ⟨#[s0, s1, s2, s3, s4, s5, s6, .slice (some ⟨N, 0, none⟩) 3 3, s8, .int .i64 (i : Int), s10, s11, .pointer (some ⟨K, 0, none⟩), .int .i64 0, s14, s15, s16, s17, s18, s19, s20, s21, s22, s23, s24, s25, s26, s27, s28, s29, s30, s31, s32, s33, s34, s35, s36, s37, s38, s39, s40, s41, s42, s43, s44, s45, s46, s47, s48, s49, s50, s51, s52, s53, s54, s55, u56, u57, u58, u59, u60, u61, u62, u63, u64, s65, s66, s67, s68, s69, s70, s71, s72, s73, s74, s75, s76, s77, s78, s79, s80, s81, s82, s83, s84, s85, s86, s87, s88, s89, s90, s91, s92, s93, s94, s95, s96, s97, s98, s99, s100, s101, s102, s103, s104, s105, s106, s107, s108, s109, s110, s111, s112, s113, s114, s115, s116, s117, s118, s119, s120, s121, s122, s123, s124, s125, s126, s127, s128, s129, s130, s131], []⟩ W)) :
    Code.wp Try.prog ((Try.f6.body.bind (regionAt 9)).getD .skip) Q ⟨#[s0, s1, s2, s3, s4, s5, s6, .slice (some ⟨N, 0, none⟩) 3 3, s8, .int .i64 (i : Int), s10, s11, s12, s13, s14, s15, s16, s17, s18, s19, s20, s21, s22, s23, s24, s25, s26, s27, s28, s29, s30, s31, s32, s33, s34, s35, s36, s37, s38, s39, s40, s41, s42, s43, s44, s45, s46, s47, s48, s49, s50, s51, s52, s53, s54, s55, s56, s57, s58, s59, s60, s61, s62, s63, s64, s65, s66, s67, s68, s69, s70, s71, s72, s73, s74, s75, s76, s77, s78, s79, s80, s81, s82, s83, s84, s85, s86, s87, s88, s89, s90, s91, s92, s93, s94, s95, s96, s97, s98, s99, s100, s101, s102, s103, s104, s105, s106, s107, s108, s109, s110, s111, s112, s113, s114, s115, s116, s117, s118, s119, s120, s121, s122, s123, s124, s125, s126, s127, s128, s129, s130, s131], []⟩ W0 := by
  conv => arg 2; whnf
  have LAST : Hid (Below WB.heap.size WB W0.drew) := HL0.out.drew
  have hi' : (i : Int) < 3 := by omega
  have y0 := kept_of HL0.out ⟨N, i, none⟩ _ hc
  have hz : N < W0.heap.size := Nat.lt_of_lt_of_le hN HL0.out.size
  refine wp_region_noPanic ?_
  go_region_law (first
    | (go_simp; (with_reducible refine (lmould_any 150 _).mono ?_); rintro e wa ⟨rfl, hb⟩;
       (first
        | (have NEW : Hid (Below WB.heap.size WB wa) := LAST.out.trans (hb.mono LAST.out.size); clear LAST; have LAST := NEW; clear NEW)
        | (have hk := LAST.out.size; have HKZ : Hid (Blk wa W0.heap.size 45 #[.int .i64 0, .int .i64 0, .int .i64 0, .int .i64 0]) := (Blk.new W0.drew 45 #[.int .i64 0, .int .i64 0, .int .i64 0, .int .i64 0]).on hb; have NEW : Hid (Below WB.heap.size WB wa) := (LAST.out.alloc LAST.out.size (.cells #[.int .i64 0, .int .i64 0, .int .i64 0, .int .i64 0] 45)).trans (hb.mono (LAST.out.alloc LAST.out.size (.cells #[.int .i64 0, .int .i64 0, .int .i64 0, .int .i64 0] 45)).size); clear LAST; have LAST := NEW; clear NEW; have k0 := HKZ.out.cell 0; have f0 := HKZ.out.frozen 0; have k1 := HKZ.out.cell 1; have f1 := HKZ.out.frozen 1; have k2 := HKZ.out.cell 2; have f2 := HKZ.out.frozen 2; have k3 := HKZ.out.cell 3; have f3 := HKZ.out.frozen 3; have hlk := HKZ.out.lt));
       have y0 := kept_of LAST.out ⟨N, i, none⟩ _ hc; have hz := Nat.lt_of_lt_of_le hN LAST.out.size; clear hb)
    | (go_simp; refine (kn_holl (by first | exact hl.on LAST.out | exact hl.on (LAST.out.alloc LAST.out.size _)) hs).mono ?_; rintro e wk ⟨rfl, hb⟩;
       (first
        | (have NEW : Hid (Below WB.heap.size WB wk) := LAST.out.trans (hb.mono LAST.out.size); clear LAST; have LAST := NEW; clear NEW;
           first
            | (have NZ := Lib.hid (HKZ.out.on hb); clear HKZ; have HKZ := NZ; clear NZ; have k0 := HKZ.out.cell 0; have f0 := HKZ.out.frozen 0; have k1 := HKZ.out.cell 1; have f1 := HKZ.out.frozen 1; have k2 := HKZ.out.cell 2; have f2 := HKZ.out.frozen 2; have k3 := HKZ.out.cell 3; have f3 := HKZ.out.frozen 3; have hlk := HKZ.out.lt)
            | skip)
        | (have hk := LAST.out.size; have HKZ := Lib.hid ((Blk.new wa 45 #[.int .i64 0, .int .i64 0, .int .i64 0, .int .i64 0]).on hb); have NEW : Hid (Below WB.heap.size WB wk) := (LAST.out.alloc LAST.out.size (.cells #[.int .i64 0, .int .i64 0, .int .i64 0, .int .i64 0] 45)).trans (hb.mono (LAST.out.alloc LAST.out.size (.cells #[.int .i64 0, .int .i64 0, .int .i64 0, .int .i64 0] 45)).size); clear LAST; have LAST := NEW; clear NEW; have k0 := HKZ.out.cell 0; have f0 := HKZ.out.frozen 0; have k1 := HKZ.out.cell 1; have f1 := HKZ.out.frozen 1; have k2 := HKZ.out.cell 2; have f2 := HKZ.out.frozen 2; have k3 := HKZ.out.cell 3; have f3 := HKZ.out.frozen 3; have hlk := HKZ.out.lt));
       clear hb)
    | fail)
  all_goals first
    | exact NoPanic.normal (HQ.out _ _ _ _ _ _ _ _ _ _ _ (LAST.out.alloc LAST.out.size _) (Blk.new _ _ _))
    | exact NoPanic.normal (HQ.out _ _ _ _ _ _ _ _ _ _ _ (below_set (below_set (below_set (below_set LAST.out hk) hk) hk) hk) ((((HKZ.out.set_ 0 (.int .i64 x1)).set_ 1 (.int .i64 x2)).set_ 2 (.int .i64 x3)).set_ 3 (.int .i64 x4)))

end Go.Proofs.Ytljbjcnfkbmjkaa
