/- Layer wick, a part: ends and truths. No statement is proved here. -/
import Derived.Test.YtkjfommdeljefaaGd
import Derived.Test.YtkjfommdeljefaaQv
import Derived.Test.YtkjfommdeljefaaQx
namespace Go.Proofs.Ytkjfommdeljefaa
open Go.RowKit Go.Shelf Go.Maps
attribute [local go_sem] Oper.semAt_some


theorem between_any (a b n : Int) (w : World) :
    Calls Try.prog 76 #[.int .i64 a, .int .i64 b, .int .i64 n] w fun e w' => e = .returned (.int .i64 (max a (min b n))) ∧ w' = w := by
  go_enter Try.func76, Try.ntmps76
  go_wp2_with fail
  all_goals (go_ret; exact ⟨ret_i64 (by omega), rfl⟩)
def preT (a b c n : Int) (k : Nat) : Int := if k = 0 then n else if k = 1 then n * a else if k = 2 then n * a * b else n * a * b * c
set_option maxRecDepth 100000 in
theorem times_any {a b c n : Int} (h1 : IntKind.i64.wrap (n * a) = n * a) (h2 : IntKind.i64.wrap (n * a * b) = n * a * b) (h3 : IntKind.i64.wrap (n * a * b * c) = n * a * b * c) (w : World) :
    Calls Try.prog 77 #[.agg #[.int .i64 a, .int .i64 b, .int .i64 c], .int .i64 n] w fun e w' => e = .returned (.int .i64 (n * a * b * c)) ∧ Below w.heap.size w w' := by
  have HB := Lib.hid ((Below.refl _ w).alloc (Nat.le_refl _) (.cells #[.int .i64 a, .int .i64 b, .int .i64 c] 126))
  have i0 : ∀ W, (Instr.index 126 (.agg #[.int .i64 a, .int .i64 b, .int .i64 c]) (.int .i64 0)).run Try.prog W = .ok (.int .i64 a) W := fun _ => by kernel_rfl
  have i1 : ∀ W, (Instr.index 126 (.agg #[.int .i64 a, .int .i64 b, .int .i64 c]) (.int .i64 1)).run Try.prog W = .ok (.int .i64 b) W := fun _ => by kernel_rfl
  have i2 : ∀ W, (Instr.index 126 (.agg #[.int .i64 a, .int .i64 b, .int .i64 c]) (.int .i64 2)).run Try.prog W = .ok (.int .i64 c) W := fun _ => by kernel_rfl
  go_enter Try.func77, Try.ntmps77
  go_wp2_with fail
  go_loopw [1, 8] (fun v i W => ∃ k : Nat, k ≤ 3 ∧ i = .int .i64 (k : Int) ∧ v = .int .i64 (preT a b c n k) ∧ Hid (Below w.heap.size w W)) (fun _ i _ => 3 - (intOf i).toNat)
  case atStart => exact ⟨0, by omega, rfl, rfl, HB⟩
  case round =>
    obtain ⟨k, hk, rfl, rfl, HB⟩ := hrel
    rcases (by omega : k = 0 ∨ k = 1 ∨ k = 2 ∨ k = 3) with rfl | rfl | rfl | rfl
    · simp only [preT, if_true, Int.cast_ofNat_Int]
      go_wp2_with fail
      go_roundw
      case rel => exact ⟨1, by omega, rfl, rfl, HB⟩
      case measure => decide
    · simp only [preT, Int.cast_ofNat_Int]
      go_wp2_with fail
      go_roundw
      case rel => exact ⟨2, by omega, rfl, rfl, HB⟩
      case measure => decide
    · simp only [preT, Int.cast_ofNat_Int]
      go_wp2_with fail
      go_roundw
      case rel => exact ⟨3, by omega, rfl, rfl, HB⟩
      case measure => decide
    · simp only [preT, Int.cast_ofNat_Int]
      go_wp2_with fail
      go_ret
      exact ⟨rfl, HB.out⟩
set_option maxRecDepth 100000 in
set_option maxHeartbeats 1000000 in
theorem wax_any {w : World} {p : Sp} {c : Cd} {x : Wx} (h : ShIn w p) (h0 : 0 ≤ c.wax) (hx : p.s.xs[c.wax.toNat]? = some x) :
    Calls Try.prog 78 #[.agg #[.slice p.ka p.s.ks.length p.kc, .slice p.xa p.s.xs.length p.xc, .int .i64 p.s.flo, .int .i64 p.s.fhi, .int .i64 p.s.plo, .int .i64 p.s.phi, .int .i64 c.wax, .int .i64 c.dia, .int .i64 c.dra, .int .i64 c.clo, .int .i64 c.chi]] w fun e w' => e = .returned (.agg #[.string x.nm, .int .i64 x.flo, .int .i64 x.fhi, .int .i64 x.rlo, .int .i64 x.rhi, .int .i64 x.slo, .int .i64 x.shi, .int .i64 x.ch]) ∧ Below w.heap.size w w' := by
  have hl := h.xs.len
  have hlt : c.wax < p.s.xs.length := by have := (List.getElem?_eq_some_iff.1 hx).1; omega
  obtain ⟨b, o, hxa, hbb, c0, c1, c2, c3, c4, c5, c6, c7⟩ := wxs_at h.xs.at_ hx
  have HB := Lib.hid ((Below.refl _ w).alloc (Nat.le_refl _) (.cells #[.slice p.ka p.s.ks.length p.kc, .slice p.xa p.s.xs.length p.xc, .int .i64 p.s.flo, .int .i64 p.s.fhi, .int .i64 p.s.plo, .int .i64 p.s.phi, .int .i64 c.wax, .int .i64 c.dia, .int .i64 c.dra, .int .i64 c.clo, .int .i64 c.chi] 93))
  obtain ⟨s, ka, kc, xa, xc⟩ := p
  simp only at hxa hl hlt hbb c0 c1 c2 c3 c4 c5 c6 c7 HB
  subst hxa
  clear h hx
  go_enter Try.func78, Try.ntmps78
  go_wp2_with fail
  refine bodyPost_ret (v := .agg #[.string x.nm, .int .i64 x.flo, .int .i64 x.fhi, .int .i64 x.rlo, .int .i64 x.rhi, .int .i64 x.slo, .int .i64 x.shi, .int .i64 x.ch]) (by simp [results, Try.results78, go_sem]) rfl ⟨rfl, ?_⟩
  exact HB.out.alloc (by simp) _

/-- What each operation leaves. -/
def en1F (P b o : Nat) (q : Int) (p : Sp) (c : Cd) (k : Wk) (x : Wx) : Nat → Value → Prop
  | 0, v => v = .pointer (some ⟨P, 0, none⟩)
  | 1, v => v = .pointer (some ⟨P, 0, none⟩)
  | 2, v => v = .slice (some ⟨b, o, none⟩) p.s.ks.length p.kc
  | 3, v => v = .int .i64 q
  | 4, v => v = .pointer (some ⟨b, o + q.toNat * 4, none⟩)
  | 5, v => v = .pointer (some ⟨b, o + q.toNat * 4 + 2, none⟩)
  | 6, v => v = .agg #[.int .i64 k.plo, .int .i64 k.phi]
  | 7, v => v = .agg #[.slice (some ⟨b, o, none⟩) p.s.ks.length p.kc, .slice p.xa p.s.xs.length p.xc, .int .i64 p.s.flo, .int .i64 p.s.fhi, .int .i64 p.s.plo, .int .i64 p.s.phi, .int .i64 c.wax, .int .i64 c.dia, .int .i64 c.dra, .int .i64 c.clo, .int .i64 c.chi]
  | 8, v => v = .agg #[.string x.nm, .int .i64 x.flo, .int .i64 x.fhi, .int .i64 x.rlo, .int .i64 x.rhi, .int .i64 x.slo, .int .i64 x.shi, .int .i64 x.ch]
  | 9, v => v = .pointer (some ⟨P, 6, none⟩)
  | 10, v => v = .agg #[.int .i64 c.wax, .int .i64 c.dia, .int .i64 c.dra, .int .i64 c.clo, .int .i64 c.chi]
  | 11, _ => True
  | 12, _ => True
  | 13, _ => True
  | 14, _ => True
  | 15, _ => True
  | 16, _ => True
  | _, _ => True
set_option maxRecDepth 100000 in
set_option maxHeartbeats 8000000 in
theorem en1_region {P b o N : Nat} {q : Int} {p : Sp} {c : Cd} {k : Wk} {x : Wx} {S : World → Prop} (h0 : 0 ≤ q) (hq : q < p.s.ks.length) (hP : ∀ W, S W → Blk W P 93 #[.slice (some ⟨b, o, none⟩) p.s.ks.length p.kc, .slice p.xa p.s.xs.length p.xc, .int .i64 p.s.flo, .int .i64 p.s.fhi, .int .i64 p.s.plo, .int .i64 p.s.phi, .int .i64 c.wax, .int .i64 c.dia, .int .i64 c.dra, .int .i64 c.clo, .int .i64 c.chi]) (hk : ∀ W, S W → W.cell? ⟨b, o + q.toNat * 4 + 2, none⟩ = some (.int .i64 k.plo) ∧ W.cell? ⟨b, o + q.toNat * 4 + 3, none⟩ = some (.int .i64 k.phi)) (HW : Hid (∀ W, S W → Calls Try.prog 78 #[.agg #[.slice (some ⟨b, o, none⟩) p.s.ks.length p.kc, .slice p.xa p.s.xs.length p.xc, .int .i64 p.s.flo, .int .i64 p.s.fhi, .int .i64 p.s.plo, .int .i64 p.s.phi, .int .i64 c.wax, .int .i64 c.dia, .int .i64 c.dra, .int .i64 c.clo, .int .i64 c.chi]] W fun e w' => e = .returned (.agg #[.string x.nm, .int .i64 x.flo, .int .i64 x.fhi, .int .i64 x.rlo, .int .i64 x.rhi, .int .i64 x.slo, .int .i64 x.shi, .int .i64 x.ch]) ∧ Below W.heap.size W w')) (hon : ∀ W W', S W → Below W.heap.size W W' → S W') (hput : ∀ W W' G, S W → W.grownBy W' (some G) → (N ≤ G) → S W') (hN : ∀ W, S W → N ≤ W.heap.size) {Q : Exit → Act → World → Prop} {s0 s3 s4 s5 s20 s21 s22 s23 s24 s25 s26 s27 s28 s29 s30 s31 s32 s33 s34 s35 s36 s37 s38 s39 s40 s41 s42 s43 s44 s45 s46 s47 s48 s49 s50 s51 s52 s53 s54 s55 s56 : Value} {W0 : World} (HL : Hid (S W0))
    (HQ : Hid (∀ (u : Nat → Value) (G0 G1 G2 : Nat) (W : World), S W → N ≤ G0 → N ≤ G1 → N ≤ G2 → Blk W (G0) 25 #[.int .i64 k.plo, .int .i64 k.phi] → Blk W (G1) 80 #[.string x.nm, .int .i64 x.flo, .int .i64 x.fhi, .int .i64 x.rlo, .int .i64 x.rhi, .int .i64 x.slo, .int .i64 x.shi, .int .i64 x.ch] → Blk W (G2) 34 #[.int .i64 c.wax, .int .i64 c.dia, .int .i64 c.dra, .int .i64 c.clo, .int .i64 c.chi] → Q .normal ⟨#[s0, .int .i64 q, .pointer (some ⟨P, 0, none⟩), s3, s4, s5, .pointer (some ⟨G0, 0, none⟩), .pointer (some ⟨G1, 0, none⟩), .pointer (some ⟨G2, 0, none⟩), u 0, u 1, u 2, u 3, u 4, u 5, u 6, u 7, u 8, u 9, u 10, s20, s21, s22, s23, s24, s25, s26, s27, s28, s29, s30, s31, s32, s33, s34, s35, s36, s37, s38, s39, s40, s41, s42, s43, s44, s45, s46, s47, s48, s49, s50, s51, s52, s53, s54, s55, s56], []⟩ W)) :
    Code.wp Try.prog ((Try.f75.body.bind (regionAt 1)).getD .skip) Q ⟨#[s0, .int .i64 q, .pointer (some ⟨P, 0, none⟩), s3, s4, s5, undef, undef, undef, undef, undef, undef, undef, undef, undef, undef, undef, undef, undef, undef, s20, s21, s22, s23, s24, s25, s26, s27, s28, s29, s30, s31, s32, s33, s34, s35, s36, s37, s38, s39, s40, s41, s42, s43, s44, s45, s46, s47, s48, s49, s50, s51, s52, s53, s54, s55, s56], []⟩ W0 := by
  conv => arg 2; whnf
  refine wp_region_vars (by kernel_rfl) 17 (by kernel_rfl) (fun u => ⟨#[s0, .int .i64 q, .pointer (some ⟨P, 0, none⟩), s3, s4, s5, u 11, u 12, u 13, u 0, u 1, u 2, u 3, u 4, u 5, u 6, u 7, u 8, u 9, u 10, s20, s21, s22, s23, s24, s25, s26, s27, s28, s29, s30, s31, s32, s33, s34, s35, s36, s37, s38, s39, s40, s41, s42, s43, s44, s45, s46, s47, s48, s49, s50, s51, s52, s53, s54, s55, s56], []⟩) (fun i => undef) (fun W => Hid (S W)) (en1F P b o q p c k x) (N) [⟨some 11, 0, 14, 25, #[.int .i64 0, .int .i64 0], #[.int .i64 k.plo, .int .i64 k.phi]⟩, ⟨some 12, 0, 15, 80, #[.string ⟨#[]⟩, .int .i64 0, .int .i64 0, .int .i64 0, .int .i64 0, .int .i64 0, .int .i64 0, .int .i64 0], #[.string x.nm, .int .i64 x.flo, .int .i64 x.fhi, .int .i64 x.rlo, .int .i64 x.rhi, .int .i64 x.slo, .int .i64 x.shi, .int .i64 x.ch]⟩, ⟨some 13, 0, 16, 34, #[.int .i64 0, .int .i64 0, .int .i64 0, .int .i64 0, .int .i64 0], #[.int .i64 c.wax, .int .i64 c.dia, .int .i64 c.dra, .int .i64 c.clo, .int .i64 c.chi]⟩] [11, 12, 13] [14, 15, 16] rfl rfl (by kernel_rfl) (hon _ _ HL.out (Below.refl _ _).drew) ?hV (fun W h => hN W h.out) ?hg (by decide +kernel) (fun W W' h hb => hon W W' h.out hb) ?hp ?hA ?hP (by decide) (by decide) (by decide) (by decide) (by decide) ?step ?done
  case hV =>
    refine ⟨fun q hq => ⟨fun a e hl => (by cases hl), fun G hG => ?_⟩, fun q hq r hr hne G h1 h2 => ?_⟩
    · simp only [List.mem_cons, List.not_mem_nil, or_false] at hq
      rcases hq with rfl | rfl | rfl
      · exact absurd hG.1 (by decide)
      · exact absurd hG.1 (by decide)
      · exact absurd hG.1 (by decide)
    · simp only [List.mem_cons, List.not_mem_nil, or_false] at hq
      rcases hq with rfl | rfl | rfl
      · exact absurd h1.1 (by decide)
      · exact absurd h1.1 (by decide)
      · exact absurd h1.1 (by decide)
  case hg =>
    intro q hq ha
    simp only [List.mem_cons, List.not_mem_nil, or_false] at hq
    rcases hq with rfl | rfl | rfl
    · cases ha
    · cases ha
    · cases ha
  case hp =>
    intro W W' G h hg hG
    refine hput W W' G h.out hg ?_
    rcases hG with h1 | ⟨q, hq, ha, h2⟩
    · exact h1
    · simp only [List.mem_cons, List.not_mem_nil, or_false] at hq
      rcases hq with rfl | rfl | rfl
      · cases ha
      · cases ha
      · cases ha
  case hA =>
    intro q hq i ha
    simp only [List.mem_cons, List.not_mem_nil, or_false] at hq
    rcases hq with rfl | rfl | rfl
    · cases ha
      refine ⟨by show _ ∈ waits _ _ 14; decide +kernel, fun u W hB K hK => ?_⟩
      have HK := Lib.hid hK; clear hK
      refine wpOp_of rfl (by rfl) ?_
      go_simp
      exact k_of HK.out (by kernel_rfl)
    · cases ha
      refine ⟨by show _ ∈ waits _ _ 15; decide +kernel, fun u W hB K hK => ?_⟩
      have HK := Lib.hid hK; clear hK
      refine wpOp_of rfl (by rfl) ?_
      go_simp
      exact k_of HK.out (by kernel_rfl)
    · cases ha
      refine ⟨by show _ ∈ waits _ _ 16; decide +kernel, fun u W hB K hK => ?_⟩
      have HK := Lib.hid hK; clear hK
      refine wpOp_of rfl (by rfl) ?_
      go_simp
      exact k_of HK.out (by kernel_rfl)
  case hP =>
    intro q hq u W hB hd G hG hb K hK
    have HK := Lib.hid hK; clear hK
    simp only [List.mem_cons, List.not_mem_nil, or_false] at hq
    rcases hq with rfl | rfl | rfl
    · obtain ⟨-, eG, hle⟩ := hG
      replace eG : u 11 = .pointer (some ⟨G, 0, none⟩) := eG
      replace hd : ∀ j ∈ waits .any _ 14, j ∉ [11, 12, 13] → j ∉ [14, 15, 16] → en1F P b o q p c k x j (u j) := hd
      have e6 : u 6 = .agg #[.int .i64 k.plo, .int .i64 k.phi] := hd 6 (by decide +kernel) (by decide) (by decide)
      replace hb : Blk W G 25 #[.int .i64 0, .int .i64 0] := hb
      have hb2 := ((hb).set_ 0 (.int .i64 k.plo)).set_ 1 (.int .i64 k.phi)
      simp only [List.setIfInBounds_toArray, List.set_cons_zero, List.set_cons_succ] at hb2
      have hg2 : W.grownBy _ (some (G)) := grown_more (grown_more (World.grownBy.refl W (some G)) 0 (.int .i64 k.plo)) 1 (.int .i64 k.phi)
      have fz0 := hb.frozen 0
      have cl0 := hb.cell 0
      have fz1 := hb.frozen 1
      have cl1 := hb.cell 1
      have gl := hb.lt
      have HB2 := Lib.hid hb2
      have HG2 := Lib.hid hg2
      clear hb2 hg2
      refine wpOp_of rfl (by rfl) ?_
      go_simp
      exact k_of (HK.out _ HB2.out HG2.out) (by rw [← u1_eq eG, ← u1_eq e6] <;> kernel_rfl)
    · obtain ⟨-, eG, hle⟩ := hG
      replace eG : u 12 = .pointer (some ⟨G, 0, none⟩) := eG
      replace hd : ∀ j ∈ waits .any _ 15, j ∉ [11, 12, 13] → j ∉ [14, 15, 16] → en1F P b o q p c k x j (u j) := hd
      have e8 : u 8 = .agg #[.string x.nm, .int .i64 x.flo, .int .i64 x.fhi, .int .i64 x.rlo, .int .i64 x.rhi, .int .i64 x.slo, .int .i64 x.shi, .int .i64 x.ch] := hd 8 (by decide +kernel) (by decide) (by decide)
      replace hb : Blk W G 80 #[.string ⟨#[]⟩, .int .i64 0, .int .i64 0, .int .i64 0, .int .i64 0, .int .i64 0, .int .i64 0, .int .i64 0] := hb
      have hb2 := ((((((((hb).set_ 0 (.string x.nm)).set_ 1 (.int .i64 x.flo)).set_ 2 (.int .i64 x.fhi)).set_ 3 (.int .i64 x.rlo)).set_ 4 (.int .i64 x.rhi)).set_ 5 (.int .i64 x.slo)).set_ 6 (.int .i64 x.shi)).set_ 7 (.int .i64 x.ch)
      simp only [List.setIfInBounds_toArray, List.set_cons_zero, List.set_cons_succ] at hb2
      have hg2 : W.grownBy _ (some (G)) := grown_more (grown_more (grown_more (grown_more (grown_more (grown_more (grown_more (grown_more (World.grownBy.refl W (some G)) 0 (.string x.nm)) 1 (.int .i64 x.flo)) 2 (.int .i64 x.fhi)) 3 (.int .i64 x.rlo)) 4 (.int .i64 x.rhi)) 5 (.int .i64 x.slo)) 6 (.int .i64 x.shi)) 7 (.int .i64 x.ch)
      have fz0 := hb.frozen 0
      have cl0 := hb.cell 0
      have fz1 := hb.frozen 1
      have cl1 := hb.cell 1
      have fz2 := hb.frozen 2
      have cl2 := hb.cell 2
      have fz3 := hb.frozen 3
      have cl3 := hb.cell 3
      have fz4 := hb.frozen 4
      have cl4 := hb.cell 4
      have fz5 := hb.frozen 5
      have cl5 := hb.cell 5
      have fz6 := hb.frozen 6
      have cl6 := hb.cell 6
      have fz7 := hb.frozen 7
      have cl7 := hb.cell 7
      have gl := hb.lt
      have HB2 := Lib.hid hb2
      have HG2 := Lib.hid hg2
      clear hb2 hg2
      refine wpOp_of rfl (by rfl) ?_
      go_simp
      exact k_of (HK.out _ HB2.out HG2.out) (by rw [← u1_eq eG, ← u1_eq e8] <;> kernel_rfl)
    · obtain ⟨-, eG, hle⟩ := hG
      replace eG : u 13 = .pointer (some ⟨G, 0, none⟩) := eG
      replace hd : ∀ j ∈ waits .any _ 16, j ∉ [11, 12, 13] → j ∉ [14, 15, 16] → en1F P b o q p c k x j (u j) := hd
      have e10 : u 10 = .agg #[.int .i64 c.wax, .int .i64 c.dia, .int .i64 c.dra, .int .i64 c.clo, .int .i64 c.chi] := hd 10 (by decide +kernel) (by decide) (by decide)
      replace hb : Blk W G 34 #[.int .i64 0, .int .i64 0, .int .i64 0, .int .i64 0, .int .i64 0] := hb
      have hb2 := (((((hb).set_ 0 (.int .i64 c.wax)).set_ 1 (.int .i64 c.dia)).set_ 2 (.int .i64 c.dra)).set_ 3 (.int .i64 c.clo)).set_ 4 (.int .i64 c.chi)
      simp only [List.setIfInBounds_toArray, List.set_cons_zero, List.set_cons_succ] at hb2
      have hg2 : W.grownBy _ (some (G)) := grown_more (grown_more (grown_more (grown_more (grown_more (World.grownBy.refl W (some G)) 0 (.int .i64 c.wax)) 1 (.int .i64 c.dia)) 2 (.int .i64 c.dra)) 3 (.int .i64 c.clo)) 4 (.int .i64 c.chi)
      have fz0 := hb.frozen 0
      have cl0 := hb.cell 0
      have fz1 := hb.frozen 1
      have cl1 := hb.cell 1
      have fz2 := hb.frozen 2
      have cl2 := hb.cell 2
      have fz3 := hb.frozen 3
      have cl3 := hb.cell 3
      have fz4 := hb.frozen 4
      have cl4 := hb.cell 4
      have gl := hb.lt
      have HB2 := Lib.hid hb2
      have HG2 := Lib.hid hg2
      clear hb2 hg2
      refine wpOp_of rfl (by rfl) ?_
      go_simp
      exact k_of (HK.out _ HB2.out HG2.out) (by rw [← u1_eq eG, ← u1_eq e10] <;> kernel_rfl)
  case step =>
    iterate 17 (refine all_succ ?_ ?_)
    · exact all_zero
    · intro _ _ u W hB hv hd K hK
      have HK := Lib.hid hK; clear hK
      refine wpOp_of rfl (by rfl) ?_
      go_simp
      exact k_of (HK.out (.pointer (some ⟨P, 0, none⟩)) _ rfl hB (Below.refl _ _)) (by kernel_rfl)
    · intro _ _ u W hB hv hd K hK
      have HK := Lib.hid hK; clear hK
      have e0 : u 0 = .pointer (some ⟨P, 0, none⟩) := hd 0 (by decide +kernel) (by decide) (by decide)
      refine wpOp_of rfl (by rfl) ?_
      go_simp
      exact k_of (HK.out (.pointer (some ⟨P, 0, none⟩)) _ rfl hB (Below.refl _ _)) (by rw [← u1_eq e0]; kernel_rfl)
    · intro _ _ u W hB hv hd K hK
      have HK := Lib.hid hK; clear hK
      have e1 : u 1 = .pointer (some ⟨P, 0, none⟩) := hd 1 (by decide +kernel) (by decide) (by decide)
      refine wpOp_of rfl (by rfl) ?_
      have z0 := (hP W hB.out).cell 0
      go_simp
      exact k_of (HK.out (.slice (some ⟨b, o, none⟩) p.s.ks.length p.kc) _ rfl hB (Below.refl _ _)) (by rw [← u1_eq e1]; kernel_rfl)
    · intro _ _ u W hB hv hd K hK
      have HK := Lib.hid hK; clear hK
      refine wpOp_of rfl (by rfl) ?_
      go_simp
      exact k_of (HK.out (.int .i64 q) _ rfl hB (Below.refl _ _)) (by kernel_rfl)
    · intro _ _ u W hB hv hd K hK
      have HK := Lib.hid hK; clear hK
      have e2 : u 2 = .slice (some ⟨b, o, none⟩) p.s.ks.length p.kc := hd 2 (by decide +kernel) (by decide) (by decide)
      have e3 : u 3 = .int .i64 q := hd 3 (by decide +kernel) (by decide) (by decide)
      refine wpOp_of rfl (by rfl) ?_
      go_simp
      exact k_of (HK.out (.pointer (some ⟨b, o + q.toNat * 4, none⟩)) _ rfl hB (Below.refl _ _)) (by rw [← u1_eq e2, ← u1_eq e3]; kernel_rfl)
    · intro _ _ u W hB hv hd K hK
      have HK := Lib.hid hK; clear hK
      have e4 : u 4 = .pointer (some ⟨b, o + q.toNat * 4, none⟩) := hd 4 (by decide +kernel) (by decide) (by decide)
      refine wpOp_of rfl (by rfl) ?_
      go_simp
      exact k_of (HK.out (.pointer (some ⟨b, o + q.toNat * 4 + 2, none⟩)) _ rfl hB (Below.refl _ _)) (by rw [← u1_eq e4]; kernel_rfl)
    · intro _ _ u W hB hv hd K hK
      have HK := Lib.hid hK; clear hK
      have e5 : u 5 = .pointer (some ⟨b, o + q.toNat * 4 + 2, none⟩) := hd 5 (by decide +kernel) (by decide) (by decide)
      refine wpOp_of rfl (by rfl) ?_
      obtain ⟨y0, y1⟩ := hk W hB.out
      go_simp
      exact k_of (HK.out (.agg #[.int .i64 k.plo, .int .i64 k.phi]) _ rfl hB (Below.refl _ _)) (by rw [← u1_eq e5]; kernel_rfl)
    · intro _ _ u W hB hv hd K hK
      have HK := Lib.hid hK; clear hK
      refine wpOp_of rfl (by rfl) ?_
      have z0 := (hP W hB.out).cell 0; have z1 := (hP W hB.out).cell 1; have z2 := (hP W hB.out).cell 2; have z3 := (hP W hB.out).cell 3; have z4 := (hP W hB.out).cell 4; have z5 := (hP W hB.out).cell 5; have z6 := (hP W hB.out).cell 6; have z7 := (hP W hB.out).cell 7; have z8 := (hP W hB.out).cell 8; have z9 := (hP W hB.out).cell 9; have z10 := (hP W hB.out).cell 10
      go_simp
      exact k_of (HK.out (.agg #[.slice (some ⟨b, o, none⟩) p.s.ks.length p.kc, .slice p.xa p.s.xs.length p.xc, .int .i64 p.s.flo, .int .i64 p.s.fhi, .int .i64 p.s.plo, .int .i64 p.s.phi, .int .i64 c.wax, .int .i64 c.dia, .int .i64 c.dra, .int .i64 c.clo, .int .i64 c.chi]) _ rfl hB (Below.refl _ _)) (by kernel_rfl)
    · intro _ _ u W hB hv hd K hK
      have HK := Lib.hid hK; clear hK
      have e7 : u 7 = .agg #[.slice (some ⟨b, o, none⟩) p.s.ks.length p.kc, .slice p.xa p.s.xs.length p.xc, .int .i64 p.s.flo, .int .i64 p.s.fhi, .int .i64 p.s.plo, .int .i64 p.s.phi, .int .i64 c.wax, .int .i64 c.dia, .int .i64 c.dra, .int .i64 c.clo, .int .i64 c.chi] := hd 7 (by decide +kernel) (by decide) (by decide)
      refine wpOp_of rfl (by rfl) ?_
      go_simp
      refine (HW.out W hB.out).mono ?_
      rintro e w' ⟨rfl, hb⟩
      exact k_of (HK.out (.agg #[.string x.nm, .int .i64 x.flo, .int .i64 x.fhi, .int .i64 x.rlo, .int .i64 x.rhi, .int .i64 x.slo, .int .i64 x.shi, .int .i64 x.ch]) _ rfl (hon _ _ hB.out hb) hb) (by rw [← u1_eq e7]; kernel_rfl)
    · intro _ _ u W hB hv hd K hK
      have HK := Lib.hid hK; clear hK
      refine wpOp_of rfl (by rfl) ?_
      go_simp
      exact k_of (HK.out (.pointer (some ⟨P, 6, none⟩)) _ rfl hB (Below.refl _ _)) (by kernel_rfl)
    · intro _ _ u W hB hv hd K hK
      have HK := Lib.hid hK; clear hK
      have e9 : u 9 = .pointer (some ⟨P, 6, none⟩) := hd 9 (by decide +kernel) (by decide) (by decide)
      refine wpOp_of rfl (by rfl) ?_
      have z6 := (hP W hB.out).cell 6; have z7 := (hP W hB.out).cell 7; have z8 := (hP W hB.out).cell 8; have z9 := (hP W hB.out).cell 9; have z10 := (hP W hB.out).cell 10
      go_simp
      exact k_of (HK.out (.agg #[.int .i64 c.wax, .int .i64 c.dia, .int .i64 c.dra, .int .i64 c.clo, .int .i64 c.chi]) _ rfl hB (Below.refl _ _)) (by rw [← u1_eq e9]; kernel_rfl)
    · intro ha; exact absurd (by decide) ha
    · intro ha; exact absurd (by decide) ha
    · intro ha; exact absurd (by decide) ha
    · intro _ ha; exact absurd (by decide) ha
    · intro _ ha; exact absurd (by decide) ha
    · intro _ ha; exact absurd (by decide) ha
  case done =>
    intro L u W hL hB hd hV
    have hv0 := hV.ok ⟨some 11, 0, 14, 25, #[.int .i64 0, .int .i64 0], #[.int .i64 k.plo, .int .i64 k.phi]⟩ (by simp)
    obtain ⟨G0, eG0, hN0⟩ := hv0.1 11 rfl (hL 11 (by decide))
    have hB0 := hv0.2 G0 ⟨hL 11 (by decide), eG0, hN0⟩
    rw [if_pos (hL 14 (by decide))] at hB0
    have hv1 := hV.ok ⟨some 12, 0, 15, 80, #[.string ⟨#[]⟩, .int .i64 0, .int .i64 0, .int .i64 0, .int .i64 0, .int .i64 0, .int .i64 0, .int .i64 0], #[.string x.nm, .int .i64 x.flo, .int .i64 x.fhi, .int .i64 x.rlo, .int .i64 x.rhi, .int .i64 x.slo, .int .i64 x.shi, .int .i64 x.ch]⟩ (by simp)
    obtain ⟨G1, eG1, hN1⟩ := hv1.1 12 rfl (hL 12 (by decide))
    have hB1 := hv1.2 G1 ⟨hL 12 (by decide), eG1, hN1⟩
    rw [if_pos (hL 15 (by decide))] at hB1
    have hv2 := hV.ok ⟨some 13, 0, 16, 34, #[.int .i64 0, .int .i64 0, .int .i64 0, .int .i64 0, .int .i64 0], #[.int .i64 c.wax, .int .i64 c.dia, .int .i64 c.dra, .int .i64 c.clo, .int .i64 c.chi]⟩ (by simp)
    obtain ⟨G2, eG2, hN2⟩ := hv2.1 13 rfl (hL 13 (by decide))
    have hB2 := hv2.2 G2 ⟨hL 13 (by decide), eG2, hN2⟩
    rw [if_pos (hL 16 (by decide))] at hB2
    exact k_of (HQ.out u G0 G1 G2 W hB.out hN0 hN1 hN2 hB0 hB1 hB2) (by simp only [eG0, eG1, eG2])
end Go.Proofs.Ytkjfommdeljefaa

namespace Go.Proofs.Ytkjfommdeljefaa
open Go.RowKit Go.Shelf Go.Maps
attribute [local go_sem] Oper.semAt_some

/-- What was there stands, and so much memory there is. -/
structure SB (w : World) (N : Nat) (W : World) : Prop where
  b : Below w.heap.size w W
  n : N ≤ W.heap.size
theorem SB.on {w W W' : World} {N : Nat} (h : SB w N W) (hb : Below W.heap.size W W') : SB w N W' := ⟨h.b.trans (hb.mono h.b.size), Nat.le_trans h.n hb.size⟩
theorem SB.put {w W W' : World} {N G : Nat} (h : SB w N W) (hg : W.grownBy W' (some G)) (hG : w.heap.size ≤ G) : SB w N W' := ⟨h.b.grown hg h.b.size (fun k e => by cases e; exact hG), Nat.le_trans h.n hg.size⟩

/-- What each operation leaves. -/
def en4F (a0 a1 a2 a3 a4 a5 b0 b1 b2 b3 b4 b5 : Int) : Nat → Value → Prop
  | 0, v => v = .agg #[.int .i64 a0, .int .i64 a1, .int .i64 a2, .int .i64 a3, .int .i64 a4, .int .i64 a5]
  | 1, v => v = .agg #[.int .i64 b0, .int .i64 b1, .int .i64 b2, .int .i64 b3, .int .i64 b4, .int .i64 b5]
  | 2, _ => True
  | 3, _ => True
  | _, _ => True
set_option maxRecDepth 100000 in
set_option maxHeartbeats 8000000 in
theorem en4_region {R1 R2 N : Nat} {a0 a1 a2 a3 a4 a5 b0 b1 b2 b3 b4 b5 : Int} {S : World → Prop} (hon : ∀ W W', S W → Below W.heap.size W W' → S W') (hput : ∀ W W' G, S W → W.grownBy W' (some G) → (N ≤ G ∨ G = R1 ∨ G = R2) → S W') (hN : ∀ W, S W → N ≤ W.heap.size) {Q : Exit → Act → World → Prop} {s0 s1 s2 s3 s6 s7 s8 s9 s10 s11 s12 s13 s14 s15 s16 s17 s18 s19 s20 s21 s22 s23 s24 s25 s26 s27 s28 s29 s30 s31 s32 s33 s34 s35 s36 s37 s38 s39 s40 s41 s42 s43 s44 s45 s46 s47 s48 s49 s50 s51 s52 s53 s54 : Value} {W0 : World} (HL : Hid (S W0)) (hk0 : Blk W0 (R1) 36 #[.int .i64 a0, .int .i64 a1, .int .i64 a2, .int .i64 a3, .int .i64 a4, .int .i64 a5]) (hg0 : R1 < N) (hk1 : Blk W0 (R2) 36 #[.int .i64 b0, .int .i64 b1, .int .i64 b2, .int .i64 b3, .int .i64 b4, .int .i64 b5]) (hg1 : R2 < N) (hn0_1 : R1 ≠ R2)
    (HQ : Hid (∀ (u : Nat → Value) (W : World), S W → Blk W (R1) 36 #[.int .i64 a0, .int .i64 a1, .int .i64 a2, .int .i64 a3, .int .i64 a4, .int .i64 a5] → Blk W (R2) 36 #[.int .i64 b0, .int .i64 b1, .int .i64 b2, .int .i64 b3, .int .i64 b4, .int .i64 b5] → Q .normal ⟨#[s0, s1, s2, s3, .pointer (some ⟨R1, 0, none⟩), .pointer (some ⟨R2, 0, none⟩), s6, s7, s8, s9, s10, s11, s12, s13, s14, s15, s16, s17, s18, s19, s20, s21, s22, s23, s24, s25, s26, s27, s28, s29, s30, s31, s32, s33, s34, s35, s36, s37, s38, s39, s40, s41, s42, s43, s44, s45, s46, s47, s48, s49, s50, s51, s52, s53, s54, u 0, u 1], []⟩ W)) :
    Code.wp Try.prog ((Try.f75.body.bind (regionAt 4)).getD .skip) Q ⟨#[s0, s1, s2, s3, .pointer (some ⟨R1, 0, none⟩), .pointer (some ⟨R2, 0, none⟩), s6, s7, s8, s9, s10, s11, s12, s13, s14, s15, s16, s17, s18, s19, s20, s21, s22, s23, s24, s25, s26, s27, s28, s29, s30, s31, s32, s33, s34, s35, s36, s37, s38, s39, s40, s41, s42, s43, s44, s45, s46, s47, s48, s49, s50, s51, s52, s53, s54, undef, undef], []⟩ W0 := by
  conv => arg 2; whnf
  refine wp_region_vars (by kernel_rfl) 4 (by kernel_rfl) (fun u => ⟨#[s0, s1, s2, s3, .pointer (some ⟨R1, 0, none⟩), .pointer (some ⟨R2, 0, none⟩), s6, s7, s8, s9, s10, s11, s12, s13, s14, s15, s16, s17, s18, s19, s20, s21, s22, s23, s24, s25, s26, s27, s28, s29, s30, s31, s32, s33, s34, s35, s36, s37, s38, s39, s40, s41, s42, s43, s44, s45, s46, s47, s48, s49, s50, s51, s52, s53, s54, u 0, u 1], []⟩) (fun i => undef) (fun W => Hid (S W)) (en4F a0 a1 a2 a3 a4 a5 b0 b1 b2 b3 b4 b5) (N) [⟨none, R1, 2, 36, #[.int .i64 a0, .int .i64 a1, .int .i64 a2, .int .i64 a3, .int .i64 a4, .int .i64 a5], #[.int .i64 a0, .int .i64 a1, .int .i64 a2, .int .i64 a3, .int .i64 a4, .int .i64 a5]⟩, ⟨none, R2, 3, 36, #[.int .i64 b0, .int .i64 b1, .int .i64 b2, .int .i64 b3, .int .i64 b4, .int .i64 b5], #[.int .i64 b0, .int .i64 b1, .int .i64 b2, .int .i64 b3, .int .i64 b4, .int .i64 b5]⟩] [] [2, 3] rfl rfl (by kernel_rfl) (hon _ _ HL.out (Below.refl _ _).drew) ?hV (fun W h => hN W h.out) ?hg (by decide +kernel) (fun W W' h hb => hon W W' h.out hb) ?hp ?hA ?hP (by decide) (by decide) (by decide) (by decide) (by decide) ?step ?done
  case hV =>
    refine ⟨fun q hq => ⟨fun a e hl => (by cases hl), fun G hG => ?_⟩, fun q hq r hr hne G h1 h2 => ?_⟩
    · simp only [List.mem_cons, List.not_mem_nil, or_false] at hq
      rcases hq with rfl | rfl
      · obtain ⟨rfl, -⟩ := hG; exact hk0.drew
      · obtain ⟨rfl, -⟩ := hG; exact hk1.drew
    · simp only [List.mem_cons, List.not_mem_nil, or_false] at hq
      rcases hq with rfl | rfl
      · simp only [List.mem_cons, List.not_mem_nil, or_false] at hr
        rcases hr with rfl | rfl
        · exact absurd rfl hne
        · exact hn0_1 (h1.1.symm.trans h2.1)
      · simp only [List.mem_cons, List.not_mem_nil, or_false] at hr
        rcases hr with rfl | rfl
        · exact hn0_1 (h2.1.symm.trans h1.1)
        · exact absurd rfl hne
  case hg =>
    intro q hq ha
    simp only [List.mem_cons, List.not_mem_nil, or_false] at hq
    rcases hq with rfl | rfl
    · exact hg0
    · exact hg1
  case hp =>
    intro W W' G h hg hG
    refine hput W W' G h.out hg ?_
    rcases hG with h1 | ⟨q, hq, ha, h2⟩
    · exact .inl h1
    · simp only [List.mem_cons, List.not_mem_nil, or_false] at hq
      rcases hq with rfl | rfl
      · exact .inr (.inl h2)
      · exact .inr (.inr h2)
  case hA =>
    intro q hq i ha
    simp only [List.mem_cons, List.not_mem_nil, or_false] at hq
    rcases hq with rfl | rfl
    · cases ha
    · cases ha
  case hP =>
    intro q hq u W hB hd G hG hb K hK
    have HK := Lib.hid hK; clear hK
    simp only [List.mem_cons, List.not_mem_nil, or_false] at hq
    rcases hq with rfl | rfl
    · have hGe : G = R1 := hG.1
      rw [hGe] at hb HK
      clear hG hGe
      replace hd : ∀ j ∈ waits .any _ 2, j ∉ [] → j ∉ [2, 3] → en4F a0 a1 a2 a3 a4 a5 b0 b1 b2 b3 b4 b5 j (u j) := hd
      have e0 : u 0 = .agg #[.int .i64 a0, .int .i64 a1, .int .i64 a2, .int .i64 a3, .int .i64 a4, .int .i64 a5] := hd 0 (by decide +kernel) (by decide) (by decide)
      replace hb : Blk W R1 36 #[.int .i64 a0, .int .i64 a1, .int .i64 a2, .int .i64 a3, .int .i64 a4, .int .i64 a5] := hb
      have hb2 := ((((((hb).set_ 0 (.int .i64 a0)).set_ 1 (.int .i64 a1)).set_ 2 (.int .i64 a2)).set_ 3 (.int .i64 a3)).set_ 4 (.int .i64 a4)).set_ 5 (.int .i64 a5)
      simp only [List.setIfInBounds_toArray, List.set_cons_zero, List.set_cons_succ] at hb2
      have hg2 : W.grownBy _ (some (R1)) := grown_more (grown_more (grown_more (grown_more (grown_more (grown_more (World.grownBy.refl W (some R1)) 0 (.int .i64 a0)) 1 (.int .i64 a1)) 2 (.int .i64 a2)) 3 (.int .i64 a3)) 4 (.int .i64 a4)) 5 (.int .i64 a5)
      have fz0 := hb.frozen 0
      have cl0 := hb.cell 0
      have fz1 := hb.frozen 1
      have cl1 := hb.cell 1
      have fz2 := hb.frozen 2
      have cl2 := hb.cell 2
      have fz3 := hb.frozen 3
      have cl3 := hb.cell 3
      have fz4 := hb.frozen 4
      have cl4 := hb.cell 4
      have fz5 := hb.frozen 5
      have cl5 := hb.cell 5
      have gl := hb.lt
      have HB2 := Lib.hid hb2
      have HG2 := Lib.hid hg2
      clear hb2 hg2
      refine wpOp_of rfl (by rfl) ?_
      go_simp
      exact k_of (HK.out _ HB2.out HG2.out) (by rw [← u1_eq e0] <;> kernel_rfl)
    · have hGe : G = R2 := hG.1
      rw [hGe] at hb HK
      clear hG hGe
      replace hd : ∀ j ∈ waits .any _ 3, j ∉ [] → j ∉ [2, 3] → en4F a0 a1 a2 a3 a4 a5 b0 b1 b2 b3 b4 b5 j (u j) := hd
      have e1 : u 1 = .agg #[.int .i64 b0, .int .i64 b1, .int .i64 b2, .int .i64 b3, .int .i64 b4, .int .i64 b5] := hd 1 (by decide +kernel) (by decide) (by decide)
      replace hb : Blk W R2 36 #[.int .i64 b0, .int .i64 b1, .int .i64 b2, .int .i64 b3, .int .i64 b4, .int .i64 b5] := hb
      have hb2 := ((((((hb).set_ 0 (.int .i64 b0)).set_ 1 (.int .i64 b1)).set_ 2 (.int .i64 b2)).set_ 3 (.int .i64 b3)).set_ 4 (.int .i64 b4)).set_ 5 (.int .i64 b5)
      simp only [List.setIfInBounds_toArray, List.set_cons_zero, List.set_cons_succ] at hb2
      have hg2 : W.grownBy _ (some (R2)) := grown_more (grown_more (grown_more (grown_more (grown_more (grown_more (World.grownBy.refl W (some R2)) 0 (.int .i64 b0)) 1 (.int .i64 b1)) 2 (.int .i64 b2)) 3 (.int .i64 b3)) 4 (.int .i64 b4)) 5 (.int .i64 b5)
      have fz0 := hb.frozen 0
      have cl0 := hb.cell 0
      have fz1 := hb.frozen 1
      have cl1 := hb.cell 1
      have fz2 := hb.frozen 2
      have cl2 := hb.cell 2
      have fz3 := hb.frozen 3
      have cl3 := hb.cell 3
      have fz4 := hb.frozen 4
      have cl4 := hb.cell 4
      have fz5 := hb.frozen 5
      have cl5 := hb.cell 5
      have gl := hb.lt
      have HB2 := Lib.hid hb2
      have HG2 := Lib.hid hg2
      clear hb2 hg2
      refine wpOp_of rfl (by rfl) ?_
      go_simp
      exact k_of (HK.out _ HB2.out HG2.out) (by rw [← u1_eq e1] <;> kernel_rfl)
  case step =>
    iterate 4 (refine all_succ ?_ ?_)
    · exact all_zero
    · intro _ _ u W hB hv hd K hK
      have HK := Lib.hid hK; clear hK
      refine wpOp_of rfl (by rfl) ?_
      obtain ⟨L, hV⟩ := hv; have hb := (hV.ok ⟨none, R1, 2, 36, #[.int .i64 a0, .int .i64 a1, .int .i64 a2, .int .i64 a3, .int .i64 a4, .int .i64 a5], #[.int .i64 a0, .int .i64 a1, .int .i64 a2, .int .i64 a3, .int .i64 a4, .int .i64 a5]⟩ (by simp)).2 R1 ⟨rfl, hg0⟩; simp only [ite_self] at hb; have z0 := hb.cell 0; have z1 := hb.cell 1; have z2 := hb.cell 2; have z3 := hb.cell 3; have z4 := hb.cell 4; have z5 := hb.cell 5
      go_simp
      exact k_of (HK.out (.agg #[.int .i64 a0, .int .i64 a1, .int .i64 a2, .int .i64 a3, .int .i64 a4, .int .i64 a5]) _ rfl hB (Below.refl _ _)) (by kernel_rfl)
    · intro _ _ u W hB hv hd K hK
      have HK := Lib.hid hK; clear hK
      refine wpOp_of rfl (by rfl) ?_
      obtain ⟨L, hV⟩ := hv; have hb := (hV.ok ⟨none, R2, 3, 36, #[.int .i64 b0, .int .i64 b1, .int .i64 b2, .int .i64 b3, .int .i64 b4, .int .i64 b5], #[.int .i64 b0, .int .i64 b1, .int .i64 b2, .int .i64 b3, .int .i64 b4, .int .i64 b5]⟩ (by simp)).2 R2 ⟨rfl, hg1⟩; simp only [ite_self] at hb; have z0 := hb.cell 0; have z1 := hb.cell 1; have z2 := hb.cell 2; have z3 := hb.cell 3; have z4 := hb.cell 4; have z5 := hb.cell 5
      go_simp
      exact k_of (HK.out (.agg #[.int .i64 b0, .int .i64 b1, .int .i64 b2, .int .i64 b3, .int .i64 b4, .int .i64 b5]) _ rfl hB (Below.refl _ _)) (by kernel_rfl)
    · intro _ ha; exact absurd (by decide) ha
    · intro _ ha; exact absurd (by decide) ha
  case done =>
    intro L u W hL hB hd hV
    have hv0 := hV.ok ⟨none, R1, 2, 36, #[.int .i64 a0, .int .i64 a1, .int .i64 a2, .int .i64 a3, .int .i64 a4, .int .i64 a5], #[.int .i64 a0, .int .i64 a1, .int .i64 a2, .int .i64 a3, .int .i64 a4, .int .i64 a5]⟩ (by simp)
    have hB0 := hv0.2 (R1) ⟨rfl, hg0⟩
    rw [if_pos (hL 2 (by decide))] at hB0
    have hv1 := hV.ok ⟨none, R2, 3, 36, #[.int .i64 b0, .int .i64 b1, .int .i64 b2, .int .i64 b3, .int .i64 b4, .int .i64 b5], #[.int .i64 b0, .int .i64 b1, .int .i64 b2, .int .i64 b3, .int .i64 b4, .int .i64 b5]⟩ (by simp)
    have hB1 := hv1.2 (R2) ⟨rfl, hg1⟩
    rw [if_pos (hL 3 (by decide))] at hB1
    exact k_of (HQ.out u W hB.out hB0 hB1) (rfl)

/-- What each operation leaves. -/
def bu6F (a0 a1 a2 b0 b1 b2 : Int) : Nat → Value → Prop
  | 0, v => v = .agg #[.int .i64 a0, .int .i64 a1, .int .i64 a2]
  | 1, v => v = .agg #[.int .i64 b0, .int .i64 b1, .int .i64 b2]
  | 2, _ => True
  | 3, _ => True
  | 4, v => v = .int .i64 0
  | _, _ => True
set_option maxRecDepth 100000 in
set_option maxHeartbeats 8000000 in
theorem bu6_region {R1 R2 N : Nat} {a0 a1 a2 b0 b1 b2 : Int} {S : World → Prop} (hon : ∀ W W', S W → Below W.heap.size W W' → S W') (hput : ∀ W W' G, S W → W.grownBy W' (some G) → (N ≤ G ∨ G = R1 ∨ G = R2) → S W') (hN : ∀ W, S W → N ≤ W.heap.size) {Q : Exit → Act → World → Prop} {s0 s1 s2 s3 s4 s5 s9 s10 s11 s12 s13 s14 s15 s16 s17 s18 s19 s20 s21 s22 s23 s24 s25 s26 s27 s28 : Value} {W0 : World} (HL : Hid (S W0)) (hk0 : Blk W0 (R1) 40 #[.int .i64 a0, .int .i64 a1, .int .i64 a2]) (hg0 : R1 < N) (hk1 : Blk W0 (R2) 40 #[.int .i64 b0, .int .i64 b1, .int .i64 b2]) (hg1 : R2 < N) (hn0_1 : R1 ≠ R2)
    (HQ : Hid (∀ (u : Nat → Value) (W : World), S W → Blk W (R1) 40 #[.int .i64 a0, .int .i64 a1, .int .i64 a2] → Blk W (R2) 40 #[.int .i64 b0, .int .i64 b1, .int .i64 b2] → Q .normal ⟨#[s0, s1, s2, s3, s4, s5, .pointer (some ⟨R1, 0, none⟩), .pointer (some ⟨R2, 0, none⟩), .int .i64 0, s9, s10, s11, s12, s13, s14, s15, s16, s17, s18, s19, s20, s21, s22, s23, s24, s25, s26, s27, s28, u 0, u 1], []⟩ W)) :
    Code.wp Try.prog ((Try.f19.body.bind (regionAt 6)).getD .skip) Q ⟨#[s0, s1, s2, s3, s4, s5, .pointer (some ⟨R1, 0, none⟩), .pointer (some ⟨R2, 0, none⟩), .int .i64 0, s9, s10, s11, s12, s13, s14, s15, s16, s17, s18, s19, s20, s21, s22, s23, s24, s25, s26, s27, s28, undef, undef], []⟩ W0 := by
  conv => arg 2; whnf
  refine wp_region_vars (by kernel_rfl) 5 (by kernel_rfl) (fun u => ⟨#[s0, s1, s2, s3, s4, s5, .pointer (some ⟨R1, 0, none⟩), .pointer (some ⟨R2, 0, none⟩), u 4, s9, s10, s11, s12, s13, s14, s15, s16, s17, s18, s19, s20, s21, s22, s23, s24, s25, s26, s27, s28, u 0, u 1], []⟩) (fun i => if i = 4 then .int .i64 0 else undef) (fun W => Hid (S W)) (bu6F a0 a1 a2 b0 b1 b2) (N) [⟨none, R1, 2, 40, #[.int .i64 a0, .int .i64 a1, .int .i64 a2], #[.int .i64 a0, .int .i64 a1, .int .i64 a2]⟩, ⟨none, R2, 3, 40, #[.int .i64 b0, .int .i64 b1, .int .i64 b2], #[.int .i64 b0, .int .i64 b1, .int .i64 b2]⟩] [] [2, 3] rfl rfl (by kernel_rfl) (hon _ _ HL.out (Below.refl _ _).drew) ?hV (fun W h => hN W h.out) ?hg (by decide +kernel) (fun W W' h hb => hon W W' h.out hb) ?hp ?hA ?hP (by decide) (by decide) (by decide) (by decide) (by decide) ?step ?done
  case hV =>
    refine ⟨fun q hq => ⟨fun a e hl => (by cases hl), fun G hG => ?_⟩, fun q hq r hr hne G h1 h2 => ?_⟩
    · simp only [List.mem_cons, List.not_mem_nil, or_false] at hq
      rcases hq with rfl | rfl
      · obtain ⟨rfl, -⟩ := hG; exact hk0.drew
      · obtain ⟨rfl, -⟩ := hG; exact hk1.drew
    · simp only [List.mem_cons, List.not_mem_nil, or_false] at hq
      rcases hq with rfl | rfl
      · simp only [List.mem_cons, List.not_mem_nil, or_false] at hr
        rcases hr with rfl | rfl
        · exact absurd rfl hne
        · exact hn0_1 (h1.1.symm.trans h2.1)
      · simp only [List.mem_cons, List.not_mem_nil, or_false] at hr
        rcases hr with rfl | rfl
        · exact hn0_1 (h2.1.symm.trans h1.1)
        · exact absurd rfl hne
  case hg =>
    intro q hq ha
    simp only [List.mem_cons, List.not_mem_nil, or_false] at hq
    rcases hq with rfl | rfl
    · exact hg0
    · exact hg1
  case hp =>
    intro W W' G h hg hG
    refine hput W W' G h.out hg ?_
    rcases hG with h1 | ⟨q, hq, ha, h2⟩
    · exact .inl h1
    · simp only [List.mem_cons, List.not_mem_nil, or_false] at hq
      rcases hq with rfl | rfl
      · exact .inr (.inl h2)
      · exact .inr (.inr h2)
  case hA =>
    intro q hq i ha
    simp only [List.mem_cons, List.not_mem_nil, or_false] at hq
    rcases hq with rfl | rfl
    · cases ha
    · cases ha
  case hP =>
    intro q hq u W hB hd G hG hb K hK
    have HK := Lib.hid hK; clear hK
    simp only [List.mem_cons, List.not_mem_nil, or_false] at hq
    rcases hq with rfl | rfl
    · have hGe : G = R1 := hG.1
      rw [hGe] at hb HK
      clear hG hGe
      replace hd : ∀ j ∈ waits .any _ 2, j ∉ [] → j ∉ [2, 3] → bu6F a0 a1 a2 b0 b1 b2 j (u j) := hd
      have e0 : u 0 = .agg #[.int .i64 a0, .int .i64 a1, .int .i64 a2] := hd 0 (by decide +kernel) (by decide) (by decide)
      replace hb : Blk W R1 40 #[.int .i64 a0, .int .i64 a1, .int .i64 a2] := hb
      have hb2 := (((hb).set_ 0 (.int .i64 a0)).set_ 1 (.int .i64 a1)).set_ 2 (.int .i64 a2)
      simp only [List.setIfInBounds_toArray, List.set_cons_zero, List.set_cons_succ] at hb2
      have hg2 : W.grownBy _ (some (R1)) := grown_more (grown_more (grown_more (World.grownBy.refl W (some R1)) 0 (.int .i64 a0)) 1 (.int .i64 a1)) 2 (.int .i64 a2)
      have fz0 := hb.frozen 0
      have cl0 := hb.cell 0
      have fz1 := hb.frozen 1
      have cl1 := hb.cell 1
      have fz2 := hb.frozen 2
      have cl2 := hb.cell 2
      have gl := hb.lt
      have HB2 := Lib.hid hb2
      have HG2 := Lib.hid hg2
      clear hb2 hg2
      refine wpOp_of rfl (by rfl) ?_
      go_simp
      exact k_of (HK.out _ HB2.out HG2.out) (by rw [← u1_eq e0] <;> kernel_rfl)
    · have hGe : G = R2 := hG.1
      rw [hGe] at hb HK
      clear hG hGe
      replace hd : ∀ j ∈ waits .any _ 3, j ∉ [] → j ∉ [2, 3] → bu6F a0 a1 a2 b0 b1 b2 j (u j) := hd
      have e1 : u 1 = .agg #[.int .i64 b0, .int .i64 b1, .int .i64 b2] := hd 1 (by decide +kernel) (by decide) (by decide)
      replace hb : Blk W R2 40 #[.int .i64 b0, .int .i64 b1, .int .i64 b2] := hb
      have hb2 := (((hb).set_ 0 (.int .i64 b0)).set_ 1 (.int .i64 b1)).set_ 2 (.int .i64 b2)
      simp only [List.setIfInBounds_toArray, List.set_cons_zero, List.set_cons_succ] at hb2
      have hg2 : W.grownBy _ (some (R2)) := grown_more (grown_more (grown_more (World.grownBy.refl W (some R2)) 0 (.int .i64 b0)) 1 (.int .i64 b1)) 2 (.int .i64 b2)
      have fz0 := hb.frozen 0
      have cl0 := hb.cell 0
      have fz1 := hb.frozen 1
      have cl1 := hb.cell 1
      have fz2 := hb.frozen 2
      have cl2 := hb.cell 2
      have gl := hb.lt
      have HB2 := Lib.hid hb2
      have HG2 := Lib.hid hg2
      clear hb2 hg2
      refine wpOp_of rfl (by rfl) ?_
      go_simp
      exact k_of (HK.out _ HB2.out HG2.out) (by rw [← u1_eq e1] <;> kernel_rfl)
  case step =>
    iterate 5 (refine all_succ ?_ ?_)
    · exact all_zero
    · intro _ _ u W hB hv hd K hK
      have HK := Lib.hid hK; clear hK
      refine wpOp_of rfl (by rfl) ?_
      obtain ⟨L, hV⟩ := hv; have hb := (hV.ok ⟨none, R1, 2, 40, #[.int .i64 a0, .int .i64 a1, .int .i64 a2], #[.int .i64 a0, .int .i64 a1, .int .i64 a2]⟩ (by simp)).2 R1 ⟨rfl, hg0⟩; simp only [ite_self] at hb; have z0 := hb.cell 0; have z1 := hb.cell 1; have z2 := hb.cell 2
      go_simp
      exact k_of (HK.out (.agg #[.int .i64 a0, .int .i64 a1, .int .i64 a2]) _ rfl hB (Below.refl _ _)) (by kernel_rfl)
    · intro _ _ u W hB hv hd K hK
      have HK := Lib.hid hK; clear hK
      refine wpOp_of rfl (by rfl) ?_
      obtain ⟨L, hV⟩ := hv; have hb := (hV.ok ⟨none, R2, 3, 40, #[.int .i64 b0, .int .i64 b1, .int .i64 b2], #[.int .i64 b0, .int .i64 b1, .int .i64 b2]⟩ (by simp)).2 R2 ⟨rfl, hg1⟩; simp only [ite_self] at hb; have z0 := hb.cell 0; have z1 := hb.cell 1; have z2 := hb.cell 2
      go_simp
      exact k_of (HK.out (.agg #[.int .i64 b0, .int .i64 b1, .int .i64 b2]) _ rfl hB (Below.refl _ _)) (by kernel_rfl)
    · intro _ ha; exact absurd (by decide) ha
    · intro _ ha; exact absurd (by decide) ha
    · intro _ _ u W hB hv hd K hK
      have HK := Lib.hid hK; clear hK
      refine wpOp_of rfl (by rfl) ?_
      go_simp
      exact k_of (HK.out (.int .i64 0) _ rfl hB (Below.refl _ _)) (by kernel_rfl)
  case done =>
    intro L u W hL hB hd hV
    have hv0 := hV.ok ⟨none, R1, 2, 40, #[.int .i64 a0, .int .i64 a1, .int .i64 a2], #[.int .i64 a0, .int .i64 a1, .int .i64 a2]⟩ (by simp)
    have hB0 := hv0.2 (R1) ⟨rfl, hg0⟩
    rw [if_pos (hL 2 (by decide))] at hB0
    have hv1 := hV.ok ⟨none, R2, 3, 40, #[.int .i64 b0, .int .i64 b1, .int .i64 b2], #[.int .i64 b0, .int .i64 b1, .int .i64 b2]⟩ (by simp)
    have hB1 := hv1.2 (R2) ⟨rfl, hg1⟩
    rw [if_pos (hL 3 (by decide))] at hB1
    have e4 : u 4 = .int .i64 0 := hd 4 (by decide) (by decide) (by decide)
    exact k_of (HQ.out u W hB.out hB0 hB1) (by simp only [e4])
end Go.Proofs.Ytkjfommdeljefaa

namespace Go.Proofs.Ytkjfommdeljefaa
open Go.RowKit Go.Shelf Go.Maps
attribute [local go_sem] Oper.semAt_some


theorem put6 {W : World} {g : Nat} {T : TypeId} {a0 a1 a2 a3 a4 a5 b0 b1 b2 b3 b4 b5 : Value} (h : Blk W g T #[a0, a1, a2, a3, a4, a5]) : Blk ((((((W.setCell ⟨g, 0, none⟩ b0).setCell ⟨g, 1, none⟩ b1).setCell ⟨g, 2, none⟩ b2).setCell ⟨g, 3, none⟩ b3).setCell ⟨g, 4, none⟩ b4).setCell ⟨g, 5, none⟩ b5) g T #[b0, b1, b2, b3, b4, b5] := by
  have := (((((h.set_ 0 b0).set_ 1 b1).set_ 2 b2).set_ 3 b3).set_ 4 b4).set_ 5 b5
  simpa using this
theorem put6g (W : World) (g : Nat) (b0 b1 b2 b3 b4 b5 : Value) : W.grownBy ((((((W.setCell ⟨g, 0, none⟩ b0).setCell ⟨g, 1, none⟩ b1).setCell ⟨g, 2, none⟩ b2).setCell ⟨g, 3, none⟩ b3).setCell ⟨g, 4, none⟩ b4).setCell ⟨g, 5, none⟩ b5) (some g) :=
  grown_more (grown_more (grown_more (grown_more (grown_more (grown_one _ _ _ _) _ _) _ _) _ _) _ _) _ _
set_option maxRecDepth 100000 in
set_option maxHeartbeats 4000000 in
theorem ends_any {w : World} {p : Sp} {c : Cd} {q : Int} {k : Wk} {x : Wx} (h : ShIn w p) (h0 : 0 ≤ q) (hk : p.s.ks[q.toNat]? = some k) (hc0 : 0 ≤ c.wax) (hx : p.s.xs[c.wax.toNat]? = some x) (hd : 0 ≤ c.dra ∧ c.dra ≤ 90) :
    Calls Try.prog 75 #[.agg #[.slice p.ka p.s.ks.length p.kc, .slice p.xa p.s.xs.length p.xc, .int .i64 p.s.flo, .int .i64 p.s.fhi, .int .i64 p.s.plo, .int .i64 p.s.phi, .int .i64 c.wax, .int .i64 c.dia, .int .i64 c.dra, .int .i64 c.clo, .int .i64 c.chi], .int .i64 q] w fun e w' => e = .returned (.tuple #[.agg #[.int .i64 (weakT k x c).pull, .int .i64 (weakT k x c).flow, .int .i64 (weakT k x c).rise, .int .i64 (weakT k x c).spr, .int .i64 (weakT k x c).dra, .int .i64 (weakT k x c).cold], .agg #[.int .i64 (strongT k x c).pull, .int .i64 (strongT k x c).flow, .int .i64 (strongT k x c).rise, .int .i64 (strongT k x c).spr, .int .i64 (strongT k x c).dra, .int .i64 (strongT k x c).cold]]) ∧ Below w.heap.size w w' := by
  obtain ⟨b, o, hka, hbb, c0, c1, c2, c3⟩ := wks_at h.ks.at_ hk
  have hq : q < p.s.ks.length := by have := (List.getElem?_eq_some_iff.1 hk).1; omega
  have HW := Lib.hid (fun (W : World) (hb : Below w.heap.size w W) => wax_any (h.on hb) hc0 hx)
  have hb0 := ((Bx.nil w).alloc #[.slice p.ka p.s.ks.length p.kc, .slice p.xa p.s.xs.length p.xc, .int .i64 p.s.flo, .int .i64 p.s.fhi, .int .i64 p.s.plo, .int .i64 p.s.phi, .int .i64 c.wax, .int .i64 c.dia, .int .i64 c.dra, .int .i64 c.clo, .int .i64 c.chi] 93).alloc #[.int .i64 0, .int .i64 0, .int .i64 0, .int .i64 0, .int .i64 0, .int .i64 0] 36 |>.alloc #[.int .i64 0, .int .i64 0, .int .i64 0, .int .i64 0, .int .i64 0, .int .i64 0] 36
  simp only [World.size_alloc] at hb0
  rw [hka] at hb0 HW
  have HB : Hid (Bx w [(w.heap.size + 1 + 1, 36, #[.int .i64 0, .int .i64 0, .int .i64 0, .int .i64 0, .int .i64 0, .int .i64 0]), (w.heap.size + 1, 36, #[.int .i64 0, .int .i64 0, .int .i64 0, .int .i64 0, .int .i64 0, .int .i64 0]), (w.heap.size, 93, #[.slice (some ⟨b, o, none⟩) p.s.ks.length p.kc, .slice p.xa p.s.xs.length p.xc, .int .i64 p.s.flo, .int .i64 p.s.fhi, .int .i64 p.s.plo, .int .i64 p.s.phi, .int .i64 c.wax, .int .i64 c.dia, .int .i64 c.dra, .int .i64 c.clo, .int .i64 c.chi])] _) := Lib.hid hb0
  have hwr : IntKind.i64.wrap (-c.dra) = -c.dra := IntWalk.i64_in _ (by omega)
  clear h hb0
  go_enter Try.func75, Try.ntmps75
  go_wp2_with fail
  refine wp_of_eq (en1_region (S := Bx w [(w.heap.size + 1 + 1, 36, #[.int .i64 0, .int .i64 0, .int .i64 0, .int .i64 0, .int .i64 0, .int .i64 0]), (w.heap.size + 1, 36, #[.int .i64 0, .int .i64 0, .int .i64 0, .int .i64 0, .int .i64 0, .int .i64 0]), (w.heap.size, 93, #[.slice (some ⟨b, o, none⟩) p.s.ks.length p.kc, .slice p.xa p.s.xs.length p.xc, .int .i64 p.s.flo, .int .i64 p.s.fhi, .int .i64 p.s.plo, .int .i64 p.s.phi, .int .i64 c.wax, .int .i64 c.dia, .int .i64 c.dra, .int .i64 c.clo, .int .i64 c.chi])]) (N := w.heap.size + 3) (P := w.heap.size) (b := b) (o := o) (q := q) (p := p) (c := c) (k := k) (x := x) h0 hq (fun W h => h.get (by simp)) (fun W h => ⟨(h.b.cell (p := ⟨b, o + q.toNat * 4 + 2, none⟩) hbb).trans c2, (h.b.cell (p := ⟨b, o + q.toNat * 4 + 3, none⟩) hbb).trans c3⟩) (Lib.hid fun W h => HW.out W h.b)
    (fun _ _ h hb => h.on hb) (fun W W' G h hg hG => h.put hg (by omega) (fun q hq => by simp only [List.mem_cons, List.not_mem_nil, or_false] at hq; rcases hq with rfl | rfl | rfl <;> (simp only; omega))) (fun W h => (h.at_ _ List.mem_cons_self).2.lt) HB (Lib.hid fun u G0 G1 G2 W hS hG0 hG1 hG2 hB0 hB1 hB2 => ?_)) (by kernel_rfl)
  have hR1 : Blk W (w.heap.size + 1) 36 #[.int .i64 0, .int .i64 0, .int .i64 0, .int .i64 0, .int .i64 0, .int .i64 0] := hS.get (by simp)
  have hR2 : Blk W (w.heap.size + 1 + 1) 36 #[.int .i64 0, .int .i64 0, .int .i64 0, .int .i64 0, .int .i64 0, .int .i64 0] := hS.get (by simp)
  have x0 := hB0.cell 0; have x1 := hB0.cell 1
  have y0 := hB1.cell 0; have y1 := hB1.cell 1; have y2 := hB1.cell 2; have y3 := hB1.cell 3; have y4 := hB1.cell 4; have y5 := hB1.cell 5; have y6 := hB1.cell 6; have y7 := hB1.cell 7
  have z0 := hB2.cell 0; have z1 := hB2.cell 1; have z2 := hB2.cell 2; have z3 := hB2.cell 3; have z4 := hB2.cell 4
  have f0 := hR1.frozen 0; have g0 := hR1.cell 0; have f1 := hR1.frozen 1; have g1 := hR1.cell 1; have f2 := hR1.frozen 2; have g2 := hR1.cell 2; have f3 := hR1.frozen 3; have g3 := hR1.cell 3; have f4 := hR1.frozen 4; have g4 := hR1.cell 4; have f5 := hR1.frozen 5; have g5 := hR1.cell 5
  have e0 := hR2.frozen 0; have d0 := hR2.cell 0; have e1 := hR2.frozen 1; have d1 := hR2.cell 1; have e2 := hR2.frozen 2; have d2 := hR2.cell 2; have e3 := hR2.frozen 3; have d3 := hR2.cell 3; have e4 := hR2.frozen 4; have d4 := hR2.cell 4; have e5 := hR2.frozen 5; have d5 := hR2.cell 5
  have r1 := hR1.lt; have r2 := hR2.lt
  have n1 : ¬ w.heap.size + 1 = G0 := by omega
  have n2 : ¬ w.heap.size + 1 = G1 := by omega
  have n3 : ¬ w.heap.size + 1 = G2 := by omega
  have HS := Lib.hid hS
  have HR1 := Lib.hid hR1
  have HR2 := Lib.hid hR2
  clear hS hR1 hR2 hB0 hB1 hB2 c0 c1 c2 c3 hka HB
  go_wp2_with fail
  refine wp_of_eq (en4_region (S := SB w (w.heap.size + 3)) (R1 := w.heap.size + 1) (R2 := w.heap.size + 1 + 1) (N := w.heap.size + 3) (a0 := k.plo) (a1 := x.flo) (a2 := x.rlo) (a3 := x.slo) (a4 := -c.dra) (a5 := c.chi) (b0 := k.phi) (b1 := x.fhi) (b2 := x.rhi) (b3 := x.shi) (b4 := c.dra) (b5 := c.clo) (fun _ _ h hb => h.on hb) (fun W1 W2 G h hg hG => h.put hg (by omega)) (fun W h => h.n) (Lib.hid ⟨?hL, ?hn⟩) ?hk0 (by omega) ?hk1 (by omega) (by omega) (Lib.hid fun u2 W2 hS2 hA hB => ?_)) (by kernel_rfl)
  case hL => repeat (first | (with_reducible exact HS.out.b) | with_reducible refine Below.setCell ?_ (by simp; try omega) _)
  case hn => simp; omega
  case hk0 => repeat (first | (with_reducible exact put6 HR1.out) | with_reducible refine Blk.far ?_ (by simp) _)
  case hk1 =>
    with_reducible refine put6 (a0 := .int .i64 0) (a1 := .int .i64 0) (a2 := .int .i64 0) (a3 := .int .i64 0) (a4 := .int .i64 0) (a5 := .int .i64 0) ?_
    repeat (first | (with_reducible exact HR2.out) | with_reducible refine Blk.far ?_ (by simp) _)
  have hF := Lib.hid hS2.b
  go_wp2_with fail
  refine bodyPost_ret (v := .tuple #[.agg #[.int .i64 (weakT k x c).pull, .int .i64 (weakT k x c).flow, .int .i64 (weakT k x c).rise, .int .i64 (weakT k x c).spr, .int .i64 (weakT k x c).dra, .int .i64 (weakT k x c).cold], .agg #[.int .i64 (strongT k x c).pull, .int .i64 (strongT k x c).flow, .int .i64 (strongT k x c).rise, .int .i64 (strongT k x c).spr, .int .i64 (strongT k x c).dra, .int .i64 (strongT k x c).cold]]) ?_ rfl ⟨rfl, hF.out⟩
  have a0 := hA.cell 0; have a1 := hA.cell 1; have a2 := hA.cell 2; have a3 := hA.cell 3; have a4 := hA.cell 4; have a5 := hA.cell 5
  have b0 := hB.cell 0; have b1 := hB.cell 1; have b2 := hB.cell 2; have b3 := hB.cell 3; have b4 := hB.cell 4; have b5 := hB.cell 5
  simp [results, Try.results75, go_sem, a0, a1, a2, a3, a4, a5, b0, b1, b2, b3, b4, b5, weakT, strongT]
end Go.Proofs.Ytkjfommdeljefaa

namespace Go.Proofs.Ytkjfommdeljefaa
open Go.RowKit Go.Shelf Go.Maps
attribute [local go_sem] Oper.semAt_some

theorem Blk.grown_ {W W' : World} {g G : Nat} {T : TypeId} {cs : Array Value} (h : Blk W g T cs) (hg : W.grownBy W' (some G)) (hn : g ≠ G) : Blk W' g T cs := (hg.block g h.lt (fun e => hn (by simpa using e))).trans h

/-- What each operation leaves. -/
def bn2F (_P U : Nat) (a0 a1 a2 r1 r2 r3 : Int) (p : Sp) (c : Cd) (t : Tu) (x : Wx) : Nat → Value → Prop
  | 0, v => v = .func (.func 77) #[.agg #[.int .i64 a0, .int .i64 a1, .int .i64 a2]] #[]
  | 1, v => v = .int .i64 r1
  | 2, v => v = .func (.func 77) #[.agg #[.int .i64 a0, .int .i64 a1, .int .i64 a2]] #[]
  | 3, v => v = .pointer (some ⟨U, 2, none⟩)
  | 4, v => v = .int .i64 t.rise
  | 5, v => v = .int .i64 r2
  | 6, v => v = .func (.func 77) #[.agg #[.int .i64 a0, .int .i64 a1, .int .i64 a2]] #[]
  | 7, v => v = .pointer (some ⟨U, 3, none⟩)
  | 8, v => v = .int .i64 t.spr
  | 9, v => v = .int .i64 r3
  | 10, v => v = .pointer (some ⟨U, 5, none⟩)
  | 11, v => v = .int .i64 t.cold
  | 12, v => v = .agg #[.slice p.ka p.s.ks.length p.kc, .slice p.xa p.s.xs.length p.xc, .int .i64 p.s.flo, .int .i64 p.s.fhi, .int .i64 p.s.plo, .int .i64 p.s.phi, .int .i64 c.wax, .int .i64 c.dia, .int .i64 c.dra, .int .i64 c.clo, .int .i64 c.chi]
  | 13, v => v = .agg #[.string x.nm, .int .i64 x.flo, .int .i64 x.fhi, .int .i64 x.rlo, .int .i64 x.rhi, .int .i64 x.slo, .int .i64 x.shi, .int .i64 x.ch]
  | 14, v => v = .int .i64 x.ch
  | 15, v => v = .int .i64 (t.cold * x.ch)
  | 16, v => v = .int .i64 (t.cold * x.ch * 100000)
  | 17, v => v = .int .i64 (r3 - t.cold * x.ch * 100000)
  | 18, v => v = .agg #[.int .i64 r1, .int .i64 r2, .int .i64 (r3 - t.cold * x.ch * 100000)]
  | 19, _ => True
  | _, _ => True
set_option maxRecDepth 100000 in
set_option maxHeartbeats 8000000 in
theorem bn2_region {P U R0 N : Nat} {a0 a1 a2 r1 r2 r3 : Int} {p : Sp} {c : Cd} {t : Tu} {x : Wx} {S : World → Prop} (hw1 : IntKind.i64.wrap (t.cold * x.ch) = t.cold * x.ch) (hw2 : IntKind.i64.wrap (t.cold * x.ch * 100000) = t.cold * x.ch * 100000) (hw3 : IntKind.i64.wrap (r3 - t.cold * x.ch * 100000) = r3 - t.cold * x.ch * 100000) (HT1 : Hid (∀ W, Calls Try.prog 77 #[.agg #[.int .i64 a0, .int .i64 a1, .int .i64 a2], .int .i64 100] W fun e w' => e = .returned (.int .i64 r1) ∧ Below W.heap.size W w')) (HT2 : Hid (∀ W, Calls Try.prog 77 #[.agg #[.int .i64 a0, .int .i64 a1, .int .i64 a2], .int .i64 t.rise] W fun e w' => e = .returned (.int .i64 r2) ∧ Below W.heap.size W w')) (HT3 : Hid (∀ W, Calls Try.prog 77 #[.agg #[.int .i64 a0, .int .i64 a1, .int .i64 a2], .int .i64 t.spr] W fun e w' => e = .returned (.int .i64 r3) ∧ Below W.heap.size W w')) (HW : Hid (∀ W, S W → Calls Try.prog 78 #[.agg #[.slice p.ka p.s.ks.length p.kc, .slice p.xa p.s.xs.length p.xc, .int .i64 p.s.flo, .int .i64 p.s.fhi, .int .i64 p.s.plo, .int .i64 p.s.phi, .int .i64 c.wax, .int .i64 c.dia, .int .i64 c.dra, .int .i64 c.clo, .int .i64 c.chi]] W fun e w' => e = .returned (.agg #[.string x.nm, .int .i64 x.flo, .int .i64 x.fhi, .int .i64 x.rlo, .int .i64 x.rhi, .int .i64 x.slo, .int .i64 x.shi, .int .i64 x.ch]) ∧ Below W.heap.size W w')) (hP : ∀ W, S W → Blk W P 93 #[.slice p.ka p.s.ks.length p.kc, .slice p.xa p.s.xs.length p.xc, .int .i64 p.s.flo, .int .i64 p.s.fhi, .int .i64 p.s.plo, .int .i64 p.s.phi, .int .i64 c.wax, .int .i64 c.dia, .int .i64 c.dra, .int .i64 c.clo, .int .i64 c.chi]) (hU : ∀ W, S W → Blk W U 36 #[.int .i64 t.pull, .int .i64 t.flow, .int .i64 t.rise, .int .i64 t.spr, .int .i64 t.dra, .int .i64 t.cold]) (hon : ∀ W W', S W → Below W.heap.size W W' → S W') (hput : ∀ W W' G, S W → W.grownBy W' (some G) → (N ≤ G ∨ G = R0) → S W') (hN : ∀ W, S W → N ≤ W.heap.size) {Q : Exit → Act → World → Prop} {s0 s1 s6 s7 s8 s9 s10 s11 s12 s13 s14 : Value} {W0 : World} (HL : Hid (S W0)) (hk0 : Blk W0 (R0) 40 #[.int .i64 0, .int .i64 0, .int .i64 0]) (hg0 : R0 < N)
    (HQ : Hid (∀ (u : Nat → Value) (W : World), S W → Blk W (R0) 40 #[.int .i64 r1, .int .i64 r2, .int .i64 (r3 - t.cold * x.ch * 100000)] → Q .normal ⟨#[s0, s1, .pointer (some ⟨P, 0, none⟩), .pointer (some ⟨U, 0, none⟩), .pointer (some ⟨R0, 0, none⟩), .func (.func 77) #[.agg #[.int .i64 a0, .int .i64 a1, .int .i64 a2]] #[], s6, s7, s8, s9, s10, s11, s12, s13, s14, u 0, u 1, u 2, u 3, u 4, u 5, u 6, u 7, u 8, u 9, u 10, u 11, u 12, u 13, u 14, u 15, u 16, u 17, u 18], []⟩ W)) :
    Code.wp Try.prog ((Try.f51.body.bind (regionAt 2)).getD .skip) Q ⟨#[s0, s1, .pointer (some ⟨P, 0, none⟩), .pointer (some ⟨U, 0, none⟩), .pointer (some ⟨R0, 0, none⟩), .func (.func 77) #[.agg #[.int .i64 a0, .int .i64 a1, .int .i64 a2]] #[], s6, s7, s8, s9, s10, s11, s12, s13, s14, undef, undef, undef, undef, undef, undef, undef, undef, undef, undef, undef, undef, undef, undef, undef, undef, undef, undef, undef], []⟩ W0 := by
  conv => arg 2; whnf
  refine wp_region_vars (by kernel_rfl) 20 (by kernel_rfl) (fun u => ⟨#[s0, s1, .pointer (some ⟨P, 0, none⟩), .pointer (some ⟨U, 0, none⟩), .pointer (some ⟨R0, 0, none⟩), .func (.func 77) #[.agg #[.int .i64 a0, .int .i64 a1, .int .i64 a2]] #[], s6, s7, s8, s9, s10, s11, s12, s13, s14, u 0, u 1, u 2, u 3, u 4, u 5, u 6, u 7, u 8, u 9, u 10, u 11, u 12, u 13, u 14, u 15, u 16, u 17, u 18], []⟩) (fun i => undef) (fun W => Hid (S W)) (bn2F P U a0 a1 a2 r1 r2 r3 p c t x) (N) [⟨none, R0, 19, 40, #[.int .i64 0, .int .i64 0, .int .i64 0], #[.int .i64 r1, .int .i64 r2, .int .i64 (r3 - t.cold * x.ch * 100000)]⟩] [] [19] rfl rfl (by kernel_rfl) (hon _ _ HL.out (Below.refl _ _).drew) ?hV (fun W h => hN W h.out) ?hg (by decide +kernel) (fun W W' h hb => hon W W' h.out hb) ?hp ?hA ?hP (by decide) (by decide) (by decide) (by decide) (by decide) ?step ?done
  case hV =>
    refine ⟨fun q hq => ⟨fun a e hl => (by cases hl), fun G hG => ?_⟩, fun q hq r hr hne G h1 h2 => ?_⟩
    · simp only [List.mem_cons, List.not_mem_nil, or_false] at hq
      rcases hq with rfl
      · obtain ⟨rfl, -⟩ := hG; exact hk0.drew
    · simp only [List.mem_cons, List.not_mem_nil, or_false] at hq
      rcases hq with rfl
      · simp only [List.mem_cons, List.not_mem_nil, or_false] at hr
        rcases hr with rfl
        · exact absurd rfl hne
  case hg =>
    intro q hq ha
    simp only [List.mem_cons, List.not_mem_nil, or_false] at hq
    rcases hq with rfl
    · exact hg0
  case hp =>
    intro W W' G h hg hG
    refine hput W W' G h.out hg ?_
    rcases hG with h1 | ⟨q, hq, ha, h2⟩
    · exact .inl h1
    · simp only [List.mem_cons, List.not_mem_nil, or_false] at hq
      rcases hq with rfl
      · exact .inr h2
  case hA =>
    intro q hq i ha
    simp only [List.mem_cons, List.not_mem_nil, or_false] at hq
    rcases hq with rfl
    · cases ha
  case hP =>
    intro q hq u W hB hd G hG hb K hK
    have HK := Lib.hid hK; clear hK
    simp only [List.mem_cons, List.not_mem_nil, or_false] at hq
    rcases hq with rfl
    · have hGe : G = R0 := hG.1
      rw [hGe] at hb HK
      clear hG hGe
      replace hd : ∀ j ∈ waits .any _ 19, j ∉ [] → j ∉ [19] → bn2F P U a0 a1 a2 r1 r2 r3 p c t x j (u j) := hd
      have e18 : u 18 = .agg #[.int .i64 r1, .int .i64 r2, .int .i64 (r3 - t.cold * x.ch * 100000)] := hd 18 (by decide +kernel) (by decide) (by decide)
      replace hb : Blk W R0 40 #[.int .i64 0, .int .i64 0, .int .i64 0] := hb
      have hb2 := (((hb).set_ 0 (.int .i64 r1)).set_ 1 (.int .i64 r2)).set_ 2 (.int .i64 (r3 - t.cold * x.ch * 100000))
      simp only [List.setIfInBounds_toArray, List.set_cons_zero, List.set_cons_succ] at hb2
      have hg2 : W.grownBy _ (some (R0)) := grown_more (grown_more (grown_more (World.grownBy.refl W (some R0)) 0 (.int .i64 r1)) 1 (.int .i64 r2)) 2 (.int .i64 (r3 - t.cold * x.ch * 100000))
      have fz0 := hb.frozen 0
      have cl0 := hb.cell 0
      have fz1 := hb.frozen 1
      have cl1 := hb.cell 1
      have fz2 := hb.frozen 2
      have cl2 := hb.cell 2
      have gl := hb.lt
      have HB2 := Lib.hid hb2
      have HG2 := Lib.hid hg2
      clear hb2 hg2
      refine wpOp_of rfl (by rfl) ?_
      go_simp
      exact k_of (HK.out _ HB2.out HG2.out) (by rw [← u1_eq e18] <;> kernel_rfl)
  case step =>
    iterate 20 (refine all_succ ?_ ?_)
    · exact all_zero
    · intro _ _ u W hB hv hd K hK
      have HK := Lib.hid hK; clear hK
      refine wpOp_of rfl (by rfl) ?_
      go_simp
      exact k_of (HK.out (.func (.func 77) #[.agg #[.int .i64 a0, .int .i64 a1, .int .i64 a2]] #[]) _ rfl hB (Below.refl _ _)) (by kernel_rfl)
    · intro _ _ u W hB hv hd K hK
      have HK := Lib.hid hK; clear hK
      have e0 : u 0 = .func (.func 77) #[.agg #[.int .i64 a0, .int .i64 a1, .int .i64 a2]] #[] := hd 0 (by decide +kernel) (by decide) (by decide)
      refine wpOp_of rfl (by rfl) ?_
      have eg : ∀ args w, (callFunc 77 args).run Try.prog w = .ok (.enter 77 args) w := enters_of Try.func77 (by kernel_rfl) rfl
      go_simp
      refine (HT1.out W).mono ?_
      rintro e w' ⟨rfl, hb⟩
      exact k_of (HK.out (.int .i64 r1) _ rfl (hon _ _ hB.out hb) hb) (by rw [← u1_eq e0]; kernel_rfl)
    · intro _ _ u W hB hv hd K hK
      have HK := Lib.hid hK; clear hK
      refine wpOp_of rfl (by rfl) ?_
      go_simp
      exact k_of (HK.out (.func (.func 77) #[.agg #[.int .i64 a0, .int .i64 a1, .int .i64 a2]] #[]) _ rfl hB (Below.refl _ _)) (by kernel_rfl)
    · intro _ _ u W hB hv hd K hK
      have HK := Lib.hid hK; clear hK
      refine wpOp_of rfl (by rfl) ?_
      go_simp
      exact k_of (HK.out (.pointer (some ⟨U, 2, none⟩)) _ rfl hB (Below.refl _ _)) (by kernel_rfl)
    · intro _ _ u W hB hv hd K hK
      have HK := Lib.hid hK; clear hK
      have e3 : u 3 = .pointer (some ⟨U, 2, none⟩) := hd 3 (by decide +kernel) (by decide) (by decide)
      refine wpOp_of rfl (by rfl) ?_
      have z2 := (hU W hB.out).cell 2
      go_simp
      exact k_of (HK.out (.int .i64 t.rise) _ rfl hB (Below.refl _ _)) (by rw [← u1_eq e3]; kernel_rfl)
    · intro _ _ u W hB hv hd K hK
      have HK := Lib.hid hK; clear hK
      have e2 : u 2 = .func (.func 77) #[.agg #[.int .i64 a0, .int .i64 a1, .int .i64 a2]] #[] := hd 2 (by decide +kernel) (by decide) (by decide)
      have e4 : u 4 = .int .i64 t.rise := hd 4 (by decide +kernel) (by decide) (by decide)
      refine wpOp_of rfl (by rfl) ?_
      have eg : ∀ args w, (callFunc 77 args).run Try.prog w = .ok (.enter 77 args) w := enters_of Try.func77 (by kernel_rfl) rfl
      go_simp
      refine (HT2.out W).mono ?_
      rintro e w' ⟨rfl, hb⟩
      exact k_of (HK.out (.int .i64 r2) _ rfl (hon _ _ hB.out hb) hb) (by rw [← u1_eq e2, ← u1_eq e4]; kernel_rfl)
    · intro _ _ u W hB hv hd K hK
      have HK := Lib.hid hK; clear hK
      refine wpOp_of rfl (by rfl) ?_
      go_simp
      exact k_of (HK.out (.func (.func 77) #[.agg #[.int .i64 a0, .int .i64 a1, .int .i64 a2]] #[]) _ rfl hB (Below.refl _ _)) (by kernel_rfl)
    · intro _ _ u W hB hv hd K hK
      have HK := Lib.hid hK; clear hK
      refine wpOp_of rfl (by rfl) ?_
      go_simp
      exact k_of (HK.out (.pointer (some ⟨U, 3, none⟩)) _ rfl hB (Below.refl _ _)) (by kernel_rfl)
    · intro _ _ u W hB hv hd K hK
      have HK := Lib.hid hK; clear hK
      have e7 : u 7 = .pointer (some ⟨U, 3, none⟩) := hd 7 (by decide +kernel) (by decide) (by decide)
      refine wpOp_of rfl (by rfl) ?_
      have z3 := (hU W hB.out).cell 3
      go_simp
      exact k_of (HK.out (.int .i64 t.spr) _ rfl hB (Below.refl _ _)) (by rw [← u1_eq e7]; kernel_rfl)
    · intro _ _ u W hB hv hd K hK
      have HK := Lib.hid hK; clear hK
      have e6 : u 6 = .func (.func 77) #[.agg #[.int .i64 a0, .int .i64 a1, .int .i64 a2]] #[] := hd 6 (by decide +kernel) (by decide) (by decide)
      have e8 : u 8 = .int .i64 t.spr := hd 8 (by decide +kernel) (by decide) (by decide)
      refine wpOp_of rfl (by rfl) ?_
      have eg : ∀ args w, (callFunc 77 args).run Try.prog w = .ok (.enter 77 args) w := enters_of Try.func77 (by kernel_rfl) rfl
      go_simp
      refine (HT3.out W).mono ?_
      rintro e w' ⟨rfl, hb⟩
      exact k_of (HK.out (.int .i64 r3) _ rfl (hon _ _ hB.out hb) hb) (by rw [← u1_eq e6, ← u1_eq e8]; kernel_rfl)
    · intro _ _ u W hB hv hd K hK
      have HK := Lib.hid hK; clear hK
      refine wpOp_of rfl (by rfl) ?_
      go_simp
      exact k_of (HK.out (.pointer (some ⟨U, 5, none⟩)) _ rfl hB (Below.refl _ _)) (by kernel_rfl)
    · intro _ _ u W hB hv hd K hK
      have HK := Lib.hid hK; clear hK
      have e10 : u 10 = .pointer (some ⟨U, 5, none⟩) := hd 10 (by decide +kernel) (by decide) (by decide)
      refine wpOp_of rfl (by rfl) ?_
      have z5 := (hU W hB.out).cell 5
      go_simp
      exact k_of (HK.out (.int .i64 t.cold) _ rfl hB (Below.refl _ _)) (by rw [← u1_eq e10]; kernel_rfl)
    · intro _ _ u W hB hv hd K hK
      have HK := Lib.hid hK; clear hK
      refine wpOp_of rfl (by rfl) ?_
      have z0 := (hP W hB.out).cell 0; have z1 := (hP W hB.out).cell 1; have z2 := (hP W hB.out).cell 2; have z3 := (hP W hB.out).cell 3; have z4 := (hP W hB.out).cell 4; have z5 := (hP W hB.out).cell 5; have z6 := (hP W hB.out).cell 6; have z7 := (hP W hB.out).cell 7; have z8 := (hP W hB.out).cell 8; have z9 := (hP W hB.out).cell 9; have z10 := (hP W hB.out).cell 10
      go_simp
      exact k_of (HK.out (.agg #[.slice p.ka p.s.ks.length p.kc, .slice p.xa p.s.xs.length p.xc, .int .i64 p.s.flo, .int .i64 p.s.fhi, .int .i64 p.s.plo, .int .i64 p.s.phi, .int .i64 c.wax, .int .i64 c.dia, .int .i64 c.dra, .int .i64 c.clo, .int .i64 c.chi]) _ rfl hB (Below.refl _ _)) (by kernel_rfl)
    · intro _ _ u W hB hv hd K hK
      have HK := Lib.hid hK; clear hK
      have e12 : u 12 = .agg #[.slice p.ka p.s.ks.length p.kc, .slice p.xa p.s.xs.length p.xc, .int .i64 p.s.flo, .int .i64 p.s.fhi, .int .i64 p.s.plo, .int .i64 p.s.phi, .int .i64 c.wax, .int .i64 c.dia, .int .i64 c.dra, .int .i64 c.clo, .int .i64 c.chi] := hd 12 (by decide +kernel) (by decide) (by decide)
      refine wpOp_of rfl (by rfl) ?_
      go_simp
      refine (HW.out W hB.out).mono ?_
      rintro e w' ⟨rfl, hb⟩
      exact k_of (HK.out (.agg #[.string x.nm, .int .i64 x.flo, .int .i64 x.fhi, .int .i64 x.rlo, .int .i64 x.rhi, .int .i64 x.slo, .int .i64 x.shi, .int .i64 x.ch]) _ rfl (hon _ _ hB.out hb) hb) (by rw [← u1_eq e12]; kernel_rfl)
    · intro _ _ u W hB hv hd K hK
      have HK := Lib.hid hK; clear hK
      have e13 : u 13 = .agg #[.string x.nm, .int .i64 x.flo, .int .i64 x.fhi, .int .i64 x.rlo, .int .i64 x.rhi, .int .i64 x.slo, .int .i64 x.shi, .int .i64 x.ch] := hd 13 (by decide +kernel) (by decide) (by decide)
      refine wpOp_of rfl (by rfl) ?_
      go_simp
      exact k_of (HK.out (.int .i64 x.ch) _ rfl hB (Below.refl _ _)) (by rw [← u1_eq e13]; kernel_rfl)
    · intro _ _ u W hB hv hd K hK
      have HK := Lib.hid hK; clear hK
      have e11 : u 11 = .int .i64 t.cold := hd 11 (by decide +kernel) (by decide) (by decide)
      have e14 : u 14 = .int .i64 x.ch := hd 14 (by decide +kernel) (by decide) (by decide)
      refine wpOp_of rfl (by rfl) ?_
      go_simp
      exact k_of (HK.out (.int .i64 (t.cold * x.ch)) _ rfl hB (Below.refl _ _)) (by rw [← u1_eq e11, ← u1_eq e14]; kernel_rfl)
    · intro _ _ u W hB hv hd K hK
      have HK := Lib.hid hK; clear hK
      have e15 : u 15 = .int .i64 (t.cold * x.ch) := hd 15 (by decide +kernel) (by decide) (by decide)
      refine wpOp_of rfl (by rfl) ?_
      go_simp
      exact k_of (HK.out (.int .i64 (t.cold * x.ch * 100000)) _ rfl hB (Below.refl _ _)) (by rw [← u1_eq e15]; kernel_rfl)
    · intro _ _ u W hB hv hd K hK
      have HK := Lib.hid hK; clear hK
      have e9 : u 9 = .int .i64 r3 := hd 9 (by decide +kernel) (by decide) (by decide)
      have e16 : u 16 = .int .i64 (t.cold * x.ch * 100000) := hd 16 (by decide +kernel) (by decide) (by decide)
      refine wpOp_of rfl (by rfl) ?_
      go_simp
      exact k_of (HK.out (.int .i64 (r3 - t.cold * x.ch * 100000)) _ rfl hB (Below.refl _ _)) (by rw [← u1_eq e9, ← u1_eq e16]; kernel_rfl)
    · intro _ _ u W hB hv hd K hK
      have HK := Lib.hid hK; clear hK
      have e1 : u 1 = .int .i64 r1 := hd 1 (by decide +kernel) (by decide) (by decide)
      have e5 : u 5 = .int .i64 r2 := hd 5 (by decide +kernel) (by decide) (by decide)
      have e17 : u 17 = .int .i64 (r3 - t.cold * x.ch * 100000) := hd 17 (by decide +kernel) (by decide) (by decide)
      refine wpOp_of rfl (by rfl) ?_
      go_simp
      exact k_of (HK.out (.agg #[.int .i64 r1, .int .i64 r2, .int .i64 (r3 - t.cold * x.ch * 100000)]) _ rfl hB (Below.refl _ _)) (by rw [← u1_eq e1, ← u1_eq e5, ← u1_eq e17]; kernel_rfl)
    · intro _ ha; exact absurd (by decide) ha
  case done =>
    intro L u W hL hB hd hV
    have hv0 := hV.ok ⟨none, R0, 19, 40, #[.int .i64 0, .int .i64 0, .int .i64 0], #[.int .i64 r1, .int .i64 r2, .int .i64 (r3 - t.cold * x.ch * 100000)]⟩ (by simp)
    have hB0 := hv0.2 (R0) ⟨rfl, hg0⟩
    rw [if_pos (hL 19 (by decide))] at hB0
    exact k_of (HQ.out u W hB.out hB0) (rfl)


set_option maxRecDepth 100000 in
set_option maxHeartbeats 2000000 in
theorem burn_any {w : World} {p : Sp} {c : Cd} {x : Wx} {t : Tu} (h : ShIn w p) (hc0 : 0 ≤ c.wax) (hx : p.s.xs[c.wax.toNat]? = some x) (hxo : WxOk x) (ht : TuIn t) :
    Calls Try.prog 51 #[.agg #[.slice p.ka p.s.ks.length p.kc, .slice p.xa p.s.xs.length p.xc, .int .i64 p.s.flo, .int .i64 p.s.fhi, .int .i64 p.s.plo, .int .i64 p.s.phi, .int .i64 c.wax, .int .i64 c.dia, .int .i64 c.dra, .int .i64 c.clo, .int .i64 c.chi], .agg #[.int .i64 t.pull, .int .i64 t.flow, .int .i64 t.rise, .int .i64 t.spr, .int .i64 t.dra, .int .i64 t.cold]] w fun e w' => e = .returned (.agg #[.int .i64 (burn x t).rate, .int .i64 (burn x t).flame, .int .i64 (burn x t).pool]) ∧ Below w.heap.size w w' := by
  have HW := Lib.hid (fun (W : World) (hb : Below w.heap.size w W) => wax_any (h.on hb) hc0 hx)
  have hb0 := ((Bx.nil w).alloc #[.slice p.ka p.s.ks.length p.kc, .slice p.xa p.s.xs.length p.xc, .int .i64 p.s.flo, .int .i64 p.s.fhi, .int .i64 p.s.plo, .int .i64 p.s.phi, .int .i64 c.wax, .int .i64 c.dia, .int .i64 c.dra, .int .i64 c.clo, .int .i64 c.chi] 93).alloc #[.int .i64 t.pull, .int .i64 t.flow, .int .i64 t.rise, .int .i64 t.spr, .int .i64 t.dra, .int .i64 t.cold] 36 |>.alloc #[.int .i64 0, .int .i64 0, .int .i64 0] 40
  simp only [World.size_alloc] at hb0
  have HB : Hid (Bx w _ _) := Lib.hid hb0
  have b1 := ht.pull; have b2 := ht.flow; have b3 := ht.rise; have b4 := ht.spr; have b5 := ht.dra; have b6 := ht.cold; have b7 := hxo.ch
  obtain ⟨d1, d2, d3, d4⟩ := drawn_in ht
  have e1 : 100 * t.pull * t.flow * (100 + t.dra) = drawn t * 100 := by unfold drawn; rw [show 100 * t.pull * t.flow = 100 * (t.pull * t.flow) from by rw [Int.mul_assoc], Int.mul_assoc, Int.mul_comm]
  have e2 : ∀ n, n * t.pull * t.flow * (100 + t.dra) = drawn t * n := fun n => by unfold drawn; rw [show n * t.pull * t.flow = n * (t.pull * t.flow) from by rw [Int.mul_assoc], Int.mul_assoc, Int.mul_comm]
  have f : ∀ n, 0 ≤ n → n ≤ 2000 → (0 ≤ n * t.pull ∧ n * t.pull ≤ 2000000) ∧ (0 ≤ n * t.pull * t.flow ∧ n * t.pull * t.flow ≤ 600000000) ∧ (0 ≤ drawn t * n ∧ drawn t * n ≤ 114000000000) := fun n h1 h2 => by
    have g1 : n * t.pull ≤ 2000 * 1000 := Int.mul_le_mul h2 b1.2 (by omega) (by omega)
    have g2 : 0 ≤ n * t.pull := Int.mul_nonneg h1 (by omega)
    have g3 : n * t.pull * t.flow ≤ 2000000 * 300 := Int.mul_le_mul (by omega) b2.2 (by omega) (by omega)
    have g4 : 0 ≤ n * t.pull * t.flow := Int.mul_nonneg g2 (by omega)
    have g5 : drawn t * n ≤ 57000000 * 2000 := Int.mul_le_mul d2 h2 h1 (by omega)
    have g6 : 0 ≤ drawn t * n := Int.mul_nonneg (by omega) h1
    omega
  have T : ∀ n, 0 ≤ n → n ≤ 2000 → ∀ W, Calls Try.prog 77 #[.agg #[.int .i64 t.pull, .int .i64 t.flow, .int .i64 (100 + t.dra)], .int .i64 n] W fun e w' => e = .returned (.int .i64 (drawn t * n)) ∧ Below W.heap.size W w' := fun n h1 h2 W => by
    obtain ⟨⟨g1, g2⟩, ⟨g3, g4⟩, g5, g6⟩ := f n h1 h2
    have := times_any (a := t.pull) (b := t.flow) (c := 100 + t.dra) (n := n) (IntWalk.i64_in _ (by omega)) (IntWalk.i64_in _ (by omega)) (by rw [e2]; exact IntWalk.i64_in _ (by omega)) W
    rw [e2] at this
    exact this
  have HT1 := Lib.hid (T 100 (by omega) (by omega))
  have HT2 := Lib.hid (T t.rise (by omega) (by omega))
  have HT3 := Lib.hid (T t.spr (by omega) (by omega))
  have m1 : t.cold * x.ch ≤ 300 * 50 := Int.mul_le_mul b6.2 b7.2 b7.1 (by omega)
  have m2 : 0 ≤ t.cold * x.ch := Int.mul_nonneg b6.1 b7.1
  obtain ⟨-, -, p1, p2⟩ := f t.spr (by omega) (by omega)
  have hw0 : IntKind.i64.wrap (100 + t.dra) = 100 + t.dra := IntWalk.i64_in _ (by omega)
  have hw1 : IntKind.i64.wrap (t.cold * x.ch) = t.cold * x.ch := IntWalk.i64_in _ (by omega)
  have hw2 : IntKind.i64.wrap (t.cold * x.ch * 100000) = t.cold * x.ch * 100000 := IntWalk.i64_in _ (by omega)
  have hw3 : IntKind.i64.wrap (drawn t * t.spr - t.cold * x.ch * 100000) = drawn t * t.spr - t.cold * x.ch * 100000 := IntWalk.i64_in _ (by omega)
  have HE : Hid (burn x t = ⟨drawn t * 100, drawn t * t.rise, drawn t * t.spr - t.cold * x.ch * 100000⟩) := rfl
  clear T f e1 e2 h hb0 d1 d2 d3 d4 p1 p2 m1 m2
  generalize drawn t * 100 = r1 at *
  generalize drawn t * t.rise = r2 at *
  generalize drawn t * t.spr = r3 at *
  go_enter Try.func51, Try.ntmps51
  go_wp2_with fail
  refine wp_of_eq (bn2_region (S := fun W => (Blk W w.heap.size 93 #[.slice p.ka p.s.ks.length p.kc, .slice p.xa p.s.xs.length p.xc, .int .i64 p.s.flo, .int .i64 p.s.fhi, .int .i64 p.s.plo, .int .i64 p.s.phi, .int .i64 c.wax, .int .i64 c.dia, .int .i64 c.dra, .int .i64 c.clo, .int .i64 c.chi] ∧ Blk W (w.heap.size + 1) 36 #[.int .i64 t.pull, .int .i64 t.flow, .int .i64 t.rise, .int .i64 t.spr, .int .i64 t.dra, .int .i64 t.cold]) ∧ SB w (w.heap.size + 3) W) (N := w.heap.size + 3) (P := w.heap.size) (U := w.heap.size + 1) (R0 := w.heap.size + 1 + 1) (a0 := t.pull) (a1 := t.flow) (a2 := 100 + t.dra) (r1 := r1) (r2 := r2) (r3 := r3) (p := p) (c := c) (t := t) (x := x) hw1 hw2 hw3 HT1 HT2 HT3 (Lib.hid fun W h => HW.out W h.2.b) (fun W h => h.1.1) (fun W h => h.1.2)
    (fun _ _ h hb => ⟨⟨h.1.1.on hb, h.1.2.on hb⟩, h.2.on hb⟩) (fun W W' G h hg hG => ⟨⟨h.1.1.grown_ hg (by omega), h.1.2.grown_ hg (by omega)⟩, h.2.put hg (by omega)⟩) (fun W h => h.2.n) (Lib.hid ⟨⟨HB.out.get (by simp), HB.out.get (by simp)⟩, HB.out.b, by simp⟩) (HB.out.get (by simp)) (by omega) (Lib.hid fun u W hS hR => ?_)) (by kernel_rfl)
  have hF := Lib.hid hS.2.b
  have a0 := hR.cell 0; have a1 := hR.cell 1; have a2 := hR.cell 2
  clear hS hR
  go_wp2_with fail
  refine bodyPost_ret (v := .agg #[.int .i64 (burn x t).rate, .int .i64 (burn x t).flame, .int .i64 (burn x t).pool]) ?_ rfl ⟨rfl, hF.out⟩
  rw [HE.out]
  simp [results, Try.results51, go_sem, a0, a1, a2]
end Go.Proofs.Ytkjfommdeljefaa

namespace Go.Proofs.Ytkjfommdeljefaa
open Go.RowKit Go.Shelf Go.Maps
attribute [local go_sem] Oper.semAt_some

/-- What each operation leaves. -/
def bs2F (p : Sp) (c : Cd) (t t2 : Tu) (b1 b2 : Bn) : Nat → Value → Prop
  | 0, v => v = .agg #[.slice p.ka p.s.ks.length p.kc, .slice p.xa p.s.xs.length p.xc, .int .i64 p.s.flo, .int .i64 p.s.fhi, .int .i64 p.s.plo, .int .i64 p.s.phi, .int .i64 c.wax, .int .i64 c.dia, .int .i64 c.dra, .int .i64 c.clo, .int .i64 c.chi]
  | 1, v => v = .agg #[.int .i64 t.pull, .int .i64 t.flow, .int .i64 t.rise, .int .i64 t.spr, .int .i64 t.dra, .int .i64 t.cold]
  | 2, v => v = .agg #[.int .i64 b1.rate, .int .i64 b1.flame, .int .i64 b1.pool]
  | 3, v => v = .agg #[.slice p.ka p.s.ks.length p.kc, .slice p.xa p.s.xs.length p.xc, .int .i64 p.s.flo, .int .i64 p.s.fhi, .int .i64 p.s.plo, .int .i64 p.s.phi, .int .i64 c.wax, .int .i64 c.dia, .int .i64 c.dra, .int .i64 c.clo, .int .i64 c.chi]
  | 4, v => v = .agg #[.int .i64 t2.pull, .int .i64 t2.flow, .int .i64 t2.rise, .int .i64 t2.spr, .int .i64 t2.dra, .int .i64 t2.cold]
  | 5, v => v = .agg #[.int .i64 b2.rate, .int .i64 b2.flame, .int .i64 b2.pool]
  | 6, _ => True
  | 7, _ => True
  | _, _ => True
set_option maxRecDepth 100000 in
set_option maxHeartbeats 8000000 in
theorem bs2_region {P G1 G2 R1 R2 N : Nat} {p : Sp} {c : Cd} {t t2 : Tu} {b1 b2 : Bn} {S : World → Prop} (hP : ∀ W, S W → Blk W P 93 #[.slice p.ka p.s.ks.length p.kc, .slice p.xa p.s.xs.length p.xc, .int .i64 p.s.flo, .int .i64 p.s.fhi, .int .i64 p.s.plo, .int .i64 p.s.phi, .int .i64 c.wax, .int .i64 c.dia, .int .i64 c.dra, .int .i64 c.clo, .int .i64 c.chi]) (h1 : ∀ W, S W → Blk W G1 36 #[.int .i64 t.pull, .int .i64 t.flow, .int .i64 t.rise, .int .i64 t.spr, .int .i64 t.dra, .int .i64 t.cold]) (h2 : ∀ W, S W → Blk W G2 36 #[.int .i64 t2.pull, .int .i64 t2.flow, .int .i64 t2.rise, .int .i64 t2.spr, .int .i64 t2.dra, .int .i64 t2.cold]) (HB1 : Hid (∀ W, S W → Calls Try.prog 51 #[.agg #[.slice p.ka p.s.ks.length p.kc, .slice p.xa p.s.xs.length p.xc, .int .i64 p.s.flo, .int .i64 p.s.fhi, .int .i64 p.s.plo, .int .i64 p.s.phi, .int .i64 c.wax, .int .i64 c.dia, .int .i64 c.dra, .int .i64 c.clo, .int .i64 c.chi], .agg #[.int .i64 t.pull, .int .i64 t.flow, .int .i64 t.rise, .int .i64 t.spr, .int .i64 t.dra, .int .i64 t.cold]] W fun e w' => e = .returned (.agg #[.int .i64 b1.rate, .int .i64 b1.flame, .int .i64 b1.pool]) ∧ Below W.heap.size W w')) (HB2 : Hid (∀ W, S W → Calls Try.prog 51 #[.agg #[.slice p.ka p.s.ks.length p.kc, .slice p.xa p.s.xs.length p.xc, .int .i64 p.s.flo, .int .i64 p.s.fhi, .int .i64 p.s.plo, .int .i64 p.s.phi, .int .i64 c.wax, .int .i64 c.dia, .int .i64 c.dra, .int .i64 c.clo, .int .i64 c.chi], .agg #[.int .i64 t2.pull, .int .i64 t2.flow, .int .i64 t2.rise, .int .i64 t2.spr, .int .i64 t2.dra, .int .i64 t2.cold]] W fun e w' => e = .returned (.agg #[.int .i64 b2.rate, .int .i64 b2.flame, .int .i64 b2.pool]) ∧ Below W.heap.size W w')) (hon : ∀ W W', S W → Below W.heap.size W W' → S W') (hput : ∀ W W' G, S W → W.grownBy W' (some G) → (N ≤ G ∨ G = R1 ∨ G = R2) → S W') (hN : ∀ W, S W → N ≤ W.heap.size) {Q : Exit → Act → World → Prop} {s0 s1 s3 s8 s9 s10 s11 s12 s13 : Value} {W0 : World} (HL : Hid (S W0)) (hk0 : Blk W0 (R1) 40 #[.int .i64 0, .int .i64 0, .int .i64 0]) (hg0 : R1 < N) (hk1 : Blk W0 (R2) 40 #[.int .i64 0, .int .i64 0, .int .i64 0]) (hg1 : R2 < N) (hn0_1 : R1 ≠ R2)
    (HQ : Hid (∀ (u : Nat → Value) (W : World), S W → Blk W (R1) 40 #[.int .i64 b1.rate, .int .i64 b1.flame, .int .i64 b1.pool] → Blk W (R2) 40 #[.int .i64 b2.rate, .int .i64 b2.flame, .int .i64 b2.pool] → Q .normal ⟨#[s0, s1, .pointer (some ⟨P, 0, none⟩), s3, .pointer (some ⟨R1, 0, none⟩), .pointer (some ⟨R2, 0, none⟩), .pointer (some ⟨G1, 0, none⟩), .pointer (some ⟨G2, 0, none⟩), s8, s9, s10, s11, s12, s13, u 0, u 1, u 2, u 3, u 4, u 5], []⟩ W)) :
    Code.wp Try.prog ((Try.f55.body.bind (regionAt 2)).getD .skip) Q ⟨#[s0, s1, .pointer (some ⟨P, 0, none⟩), s3, .pointer (some ⟨R1, 0, none⟩), .pointer (some ⟨R2, 0, none⟩), .pointer (some ⟨G1, 0, none⟩), .pointer (some ⟨G2, 0, none⟩), s8, s9, s10, s11, s12, s13, undef, undef, undef, undef, undef, undef], []⟩ W0 := by
  conv => arg 2; whnf
  refine wp_region_vars (by kernel_rfl) 8 (by kernel_rfl) (fun u => ⟨#[s0, s1, .pointer (some ⟨P, 0, none⟩), s3, .pointer (some ⟨R1, 0, none⟩), .pointer (some ⟨R2, 0, none⟩), .pointer (some ⟨G1, 0, none⟩), .pointer (some ⟨G2, 0, none⟩), s8, s9, s10, s11, s12, s13, u 0, u 1, u 2, u 3, u 4, u 5], []⟩) (fun i => undef) (fun W => Hid (S W)) (bs2F p c t t2 b1 b2) (N) [⟨none, R1, 6, 40, #[.int .i64 0, .int .i64 0, .int .i64 0], #[.int .i64 b1.rate, .int .i64 b1.flame, .int .i64 b1.pool]⟩, ⟨none, R2, 7, 40, #[.int .i64 0, .int .i64 0, .int .i64 0], #[.int .i64 b2.rate, .int .i64 b2.flame, .int .i64 b2.pool]⟩] [] [6, 7] rfl rfl (by kernel_rfl) (hon _ _ HL.out (Below.refl _ _).drew) ?hV (fun W h => hN W h.out) ?hg (by decide +kernel) (fun W W' h hb => hon W W' h.out hb) ?hp ?hA ?hP (by decide) (by decide) (by decide) (by decide) (by decide) ?step ?done
  case hV =>
    refine ⟨fun q hq => ⟨fun a e hl => (by cases hl), fun G hG => ?_⟩, fun q hq r hr hne G h1 h2 => ?_⟩
    · simp only [List.mem_cons, List.not_mem_nil, or_false] at hq
      rcases hq with rfl | rfl
      · obtain ⟨rfl, -⟩ := hG; exact hk0.drew
      · obtain ⟨rfl, -⟩ := hG; exact hk1.drew
    · simp only [List.mem_cons, List.not_mem_nil, or_false] at hq
      rcases hq with rfl | rfl
      · simp only [List.mem_cons, List.not_mem_nil, or_false] at hr
        rcases hr with rfl | rfl
        · exact absurd rfl hne
        · exact hn0_1 (h1.1.symm.trans h2.1)
      · simp only [List.mem_cons, List.not_mem_nil, or_false] at hr
        rcases hr with rfl | rfl
        · exact hn0_1 (h2.1.symm.trans h1.1)
        · exact absurd rfl hne
  case hg =>
    intro q hq ha
    simp only [List.mem_cons, List.not_mem_nil, or_false] at hq
    rcases hq with rfl | rfl
    · exact hg0
    · exact hg1
  case hp =>
    intro W W' G h hg hG
    refine hput W W' G h.out hg ?_
    rcases hG with h1 | ⟨q, hq, ha, h2⟩
    · exact .inl h1
    · simp only [List.mem_cons, List.not_mem_nil, or_false] at hq
      rcases hq with rfl | rfl
      · exact .inr (.inl h2)
      · exact .inr (.inr h2)
  case hA =>
    intro q hq i ha
    simp only [List.mem_cons, List.not_mem_nil, or_false] at hq
    rcases hq with rfl | rfl
    · cases ha
    · cases ha
  case hP =>
    intro q hq u W hB hd G hG hb K hK
    have HK := Lib.hid hK; clear hK
    simp only [List.mem_cons, List.not_mem_nil, or_false] at hq
    rcases hq with rfl | rfl
    · have hGe : G = R1 := hG.1
      rw [hGe] at hb HK
      clear hG hGe
      replace hd : ∀ j ∈ waits .any _ 6, j ∉ [] → j ∉ [6, 7] → bs2F p c t t2 b1 b2 j (u j) := hd
      have e2 : u 2 = .agg #[.int .i64 b1.rate, .int .i64 b1.flame, .int .i64 b1.pool] := hd 2 (by decide +kernel) (by decide) (by decide)
      replace hb : Blk W R1 40 #[.int .i64 0, .int .i64 0, .int .i64 0] := hb
      have hb2 := (((hb).set_ 0 (.int .i64 b1.rate)).set_ 1 (.int .i64 b1.flame)).set_ 2 (.int .i64 b1.pool)
      simp only [List.setIfInBounds_toArray, List.set_cons_zero, List.set_cons_succ] at hb2
      have hg2 : W.grownBy _ (some (R1)) := grown_more (grown_more (grown_more (World.grownBy.refl W (some R1)) 0 (.int .i64 b1.rate)) 1 (.int .i64 b1.flame)) 2 (.int .i64 b1.pool)
      have fz0 := hb.frozen 0
      have cl0 := hb.cell 0
      have fz1 := hb.frozen 1
      have cl1 := hb.cell 1
      have fz2 := hb.frozen 2
      have cl2 := hb.cell 2
      have gl := hb.lt
      have HB2 := Lib.hid hb2
      have HG2 := Lib.hid hg2
      clear hb2 hg2
      refine wpOp_of rfl (by rfl) ?_
      go_simp
      exact k_of (HK.out _ HB2.out HG2.out) (by rw [← u1_eq e2] <;> kernel_rfl)
    · have hGe : G = R2 := hG.1
      rw [hGe] at hb HK
      clear hG hGe
      replace hd : ∀ j ∈ waits .any _ 7, j ∉ [] → j ∉ [6, 7] → bs2F p c t t2 b1 b2 j (u j) := hd
      have e5 : u 5 = .agg #[.int .i64 b2.rate, .int .i64 b2.flame, .int .i64 b2.pool] := hd 5 (by decide +kernel) (by decide) (by decide)
      replace hb : Blk W R2 40 #[.int .i64 0, .int .i64 0, .int .i64 0] := hb
      have hb2 := (((hb).set_ 0 (.int .i64 b2.rate)).set_ 1 (.int .i64 b2.flame)).set_ 2 (.int .i64 b2.pool)
      simp only [List.setIfInBounds_toArray, List.set_cons_zero, List.set_cons_succ] at hb2
      have hg2 : W.grownBy _ (some (R2)) := grown_more (grown_more (grown_more (World.grownBy.refl W (some R2)) 0 (.int .i64 b2.rate)) 1 (.int .i64 b2.flame)) 2 (.int .i64 b2.pool)
      have fz0 := hb.frozen 0
      have cl0 := hb.cell 0
      have fz1 := hb.frozen 1
      have cl1 := hb.cell 1
      have fz2 := hb.frozen 2
      have cl2 := hb.cell 2
      have gl := hb.lt
      have HB2 := Lib.hid hb2
      have HG2 := Lib.hid hg2
      clear hb2 hg2
      refine wpOp_of rfl (by rfl) ?_
      go_simp
      exact k_of (HK.out _ HB2.out HG2.out) (by rw [← u1_eq e5] <;> kernel_rfl)
  case step =>
    iterate 8 (refine all_succ ?_ ?_)
    · exact all_zero
    · intro _ _ u W hB hv hd K hK
      have HK := Lib.hid hK; clear hK
      refine wpOp_of rfl (by rfl) ?_
      have z0 := (hP W hB.out).cell 0; have z1 := (hP W hB.out).cell 1; have z2 := (hP W hB.out).cell 2; have z3 := (hP W hB.out).cell 3; have z4 := (hP W hB.out).cell 4; have z5 := (hP W hB.out).cell 5; have z6 := (hP W hB.out).cell 6; have z7 := (hP W hB.out).cell 7; have z8 := (hP W hB.out).cell 8; have z9 := (hP W hB.out).cell 9; have z10 := (hP W hB.out).cell 10
      go_simp
      exact k_of (HK.out (.agg #[.slice p.ka p.s.ks.length p.kc, .slice p.xa p.s.xs.length p.xc, .int .i64 p.s.flo, .int .i64 p.s.fhi, .int .i64 p.s.plo, .int .i64 p.s.phi, .int .i64 c.wax, .int .i64 c.dia, .int .i64 c.dra, .int .i64 c.clo, .int .i64 c.chi]) _ rfl hB (Below.refl _ _)) (by kernel_rfl)
    · intro _ _ u W hB hv hd K hK
      have HK := Lib.hid hK; clear hK
      refine wpOp_of rfl (by rfl) ?_
      have z0 := (h1 W hB.out).cell 0; have z1 := (h1 W hB.out).cell 1; have z2 := (h1 W hB.out).cell 2; have z3 := (h1 W hB.out).cell 3; have z4 := (h1 W hB.out).cell 4; have z5 := (h1 W hB.out).cell 5
      go_simp
      exact k_of (HK.out (.agg #[.int .i64 t.pull, .int .i64 t.flow, .int .i64 t.rise, .int .i64 t.spr, .int .i64 t.dra, .int .i64 t.cold]) _ rfl hB (Below.refl _ _)) (by kernel_rfl)
    · intro _ _ u W hB hv hd K hK
      have HK := Lib.hid hK; clear hK
      have e0 : u 0 = .agg #[.slice p.ka p.s.ks.length p.kc, .slice p.xa p.s.xs.length p.xc, .int .i64 p.s.flo, .int .i64 p.s.fhi, .int .i64 p.s.plo, .int .i64 p.s.phi, .int .i64 c.wax, .int .i64 c.dia, .int .i64 c.dra, .int .i64 c.clo, .int .i64 c.chi] := hd 0 (by decide +kernel) (by decide) (by decide)
      have e1 : u 1 = .agg #[.int .i64 t.pull, .int .i64 t.flow, .int .i64 t.rise, .int .i64 t.spr, .int .i64 t.dra, .int .i64 t.cold] := hd 1 (by decide +kernel) (by decide) (by decide)
      refine wpOp_of rfl (by rfl) ?_
      go_simp
      refine (HB1.out W hB.out).mono ?_
      rintro e w' ⟨rfl, hb⟩
      exact k_of (HK.out (.agg #[.int .i64 b1.rate, .int .i64 b1.flame, .int .i64 b1.pool]) _ rfl (hon _ _ hB.out hb) hb) (by rw [← u1_eq e0, ← u1_eq e1]; kernel_rfl)
    · intro _ _ u W hB hv hd K hK
      have HK := Lib.hid hK; clear hK
      refine wpOp_of rfl (by rfl) ?_
      have z0 := (hP W hB.out).cell 0; have z1 := (hP W hB.out).cell 1; have z2 := (hP W hB.out).cell 2; have z3 := (hP W hB.out).cell 3; have z4 := (hP W hB.out).cell 4; have z5 := (hP W hB.out).cell 5; have z6 := (hP W hB.out).cell 6; have z7 := (hP W hB.out).cell 7; have z8 := (hP W hB.out).cell 8; have z9 := (hP W hB.out).cell 9; have z10 := (hP W hB.out).cell 10
      go_simp
      exact k_of (HK.out (.agg #[.slice p.ka p.s.ks.length p.kc, .slice p.xa p.s.xs.length p.xc, .int .i64 p.s.flo, .int .i64 p.s.fhi, .int .i64 p.s.plo, .int .i64 p.s.phi, .int .i64 c.wax, .int .i64 c.dia, .int .i64 c.dra, .int .i64 c.clo, .int .i64 c.chi]) _ rfl hB (Below.refl _ _)) (by kernel_rfl)
    · intro _ _ u W hB hv hd K hK
      have HK := Lib.hid hK; clear hK
      refine wpOp_of rfl (by rfl) ?_
      have z0 := (h2 W hB.out).cell 0; have z1 := (h2 W hB.out).cell 1; have z2 := (h2 W hB.out).cell 2; have z3 := (h2 W hB.out).cell 3; have z4 := (h2 W hB.out).cell 4; have z5 := (h2 W hB.out).cell 5
      go_simp
      exact k_of (HK.out (.agg #[.int .i64 t2.pull, .int .i64 t2.flow, .int .i64 t2.rise, .int .i64 t2.spr, .int .i64 t2.dra, .int .i64 t2.cold]) _ rfl hB (Below.refl _ _)) (by kernel_rfl)
    · intro _ _ u W hB hv hd K hK
      have HK := Lib.hid hK; clear hK
      have e3 : u 3 = .agg #[.slice p.ka p.s.ks.length p.kc, .slice p.xa p.s.xs.length p.xc, .int .i64 p.s.flo, .int .i64 p.s.fhi, .int .i64 p.s.plo, .int .i64 p.s.phi, .int .i64 c.wax, .int .i64 c.dia, .int .i64 c.dra, .int .i64 c.clo, .int .i64 c.chi] := hd 3 (by decide +kernel) (by decide) (by decide)
      have e4 : u 4 = .agg #[.int .i64 t2.pull, .int .i64 t2.flow, .int .i64 t2.rise, .int .i64 t2.spr, .int .i64 t2.dra, .int .i64 t2.cold] := hd 4 (by decide +kernel) (by decide) (by decide)
      refine wpOp_of rfl (by rfl) ?_
      go_simp
      refine (HB2.out W hB.out).mono ?_
      rintro e w' ⟨rfl, hb⟩
      exact k_of (HK.out (.agg #[.int .i64 b2.rate, .int .i64 b2.flame, .int .i64 b2.pool]) _ rfl (hon _ _ hB.out hb) hb) (by rw [← u1_eq e3, ← u1_eq e4]; kernel_rfl)
    · intro _ ha; exact absurd (by decide) ha
    · intro _ ha; exact absurd (by decide) ha
  case done =>
    intro L u W hL hB hd hV
    have hv0 := hV.ok ⟨none, R1, 6, 40, #[.int .i64 0, .int .i64 0, .int .i64 0], #[.int .i64 b1.rate, .int .i64 b1.flame, .int .i64 b1.pool]⟩ (by simp)
    have hB0 := hv0.2 (R1) ⟨rfl, hg0⟩
    rw [if_pos (hL 6 (by decide))] at hB0
    have hv1 := hV.ok ⟨none, R2, 7, 40, #[.int .i64 0, .int .i64 0, .int .i64 0], #[.int .i64 b2.rate, .int .i64 b2.flame, .int .i64 b2.pool]⟩ (by simp)
    have hB1 := hv1.2 (R2) ⟨rfl, hg1⟩
    rw [if_pos (hL 7 (by decide))] at hB1
    exact k_of (HQ.out u W hB.out hB0 hB1) (rfl)


set_option maxRecDepth 100000 in
set_option maxHeartbeats 2000000 in
theorem burns_any {w : World} {p : Sp} {c : Cd} {q : Int} {k : Wk} {x : Wx} (h : ShIn w p) (h0 : 0 ≤ q) (hk : p.s.ks[q.toNat]? = some k) (hx : p.s.xs[c.wax.toNat]? = some x) (hko : WkOk k) (hxo : WxOk x) (hc : CdOk p.s c) :
    Calls Try.prog 55 #[.agg #[.slice p.ka p.s.ks.length p.kc, .slice p.xa p.s.xs.length p.xc, .int .i64 p.s.flo, .int .i64 p.s.fhi, .int .i64 p.s.plo, .int .i64 p.s.phi, .int .i64 c.wax, .int .i64 c.dia, .int .i64 c.dra, .int .i64 c.clo, .int .i64 c.chi], .int .i64 q] w fun e w' => e = .returned (.tuple #[.agg #[.int .i64 (burn x (weakT k x c)).rate, .int .i64 (burn x (weakT k x c)).flame, .int .i64 (burn x (weakT k x c)).pool], .agg #[.int .i64 (burn x (strongT k x c)).rate, .int .i64 (burn x (strongT k x c)).flame, .int .i64 (burn x (strongT k x c)).pool]]) ∧ Below w.heap.size w w' := by
  have hc0 := hc.wax.1
  have hb0 := ((Bx.nil w).alloc #[.slice p.ka p.s.ks.length p.kc, .slice p.xa p.s.xs.length p.xc, .int .i64 p.s.flo, .int .i64 p.s.fhi, .int .i64 p.s.plo, .int .i64 p.s.phi, .int .i64 c.wax, .int .i64 c.dia, .int .i64 c.dra, .int .i64 c.clo, .int .i64 c.chi] 93).alloc #[.int .i64 0, .int .i64 0, .int .i64 0] 40 |>.alloc #[.int .i64 0, .int .i64 0, .int .i64 0] 40
  simp only [World.size_alloc] at hb0
  have HB : Hid (Bx w _ _) := Lib.hid hb0
  have HE := Lib.hid (ends_any (h.on HB.out.b) h0 hk hc0 hx hc.dra)
  have hw := (weak_ok hko hxo hc).in_ hko hxo hc
  have hs := (strong_ok hko hxo hc).in_ hko hxo hc
  have HB1 := Lib.hid (fun (W : World) (hb : Below w.heap.size w W) => burn_any (h.on hb) hc0 hx hxo hw)
  have HB2 := Lib.hid (fun (W : World) (hb : Below w.heap.size w W) => burn_any (h.on hb) hc0 hx hxo hs)
  clear h hb0 hw hs hk hx hc hko hxo
  generalize weakT k x c = t1 at *
  generalize strongT k x c = t2 at *
  generalize burn x t1 = b1 at *
  generalize burn x t2 = b2 at *
  go_enter Try.func55, Try.ntmps55
  go_wp2_with (refine HE.out.mono ?_; rintro e w1 ⟨rfl, hb⟩; have HC := Lib.hid (HB.out.on hb); clear hb)
  have hn : w.heap.size + 3 ≤ w1.heap.size := by have hz : Blk w1 (w.heap.size + 1 + 1) 40 #[.int .i64 0, .int .i64 0, .int .i64 0] := HC.out.get (by simp); have := hz.lt; omega
  have hd0 := (HC.out.alloc #[.int .i64 t1.pull, .int .i64 t1.flow, .int .i64 t1.rise, .int .i64 t1.spr, .int .i64 t1.dra, .int .i64 t1.cold] 36).alloc #[.int .i64 t2.pull, .int .i64 t2.flow, .int .i64 t2.rise, .int .i64 t2.spr, .int .i64 t2.dra, .int .i64 t2.cold] 36
  simp only [World.size_alloc] at hd0
  refine wp_of_eq (bs2_region (S := fun W => (Blk W w.heap.size 93 #[.slice p.ka p.s.ks.length p.kc, .slice p.xa p.s.xs.length p.xc, .int .i64 p.s.flo, .int .i64 p.s.fhi, .int .i64 p.s.plo, .int .i64 p.s.phi, .int .i64 c.wax, .int .i64 c.dia, .int .i64 c.dra, .int .i64 c.clo, .int .i64 c.chi] ∧ Blk W w1.heap.size 36 #[.int .i64 t1.pull, .int .i64 t1.flow, .int .i64 t1.rise, .int .i64 t1.spr, .int .i64 t1.dra, .int .i64 t1.cold] ∧ Blk W (w1.heap.size + 1) 36 #[.int .i64 t2.pull, .int .i64 t2.flow, .int .i64 t2.rise, .int .i64 t2.spr, .int .i64 t2.dra, .int .i64 t2.cold]) ∧ SB w (w1.heap.size + 2) W) (N := w1.heap.size + 2) (P := w.heap.size) (G1 := w1.heap.size) (G2 := w1.heap.size + 1) (R1 := w.heap.size + 1) (R2 := w.heap.size + 1 + 1) (p := p) (c := c) (t := t1) (t2 := t2) (b1 := b1) (b2 := b2) (fun W h => h.1.1) (fun W h => h.1.2.1) (fun W h => h.1.2.2) (Lib.hid fun W h => HB1.out W h.2.b) (Lib.hid fun W h => HB2.out W h.2.b)
    (fun _ _ h hb => ⟨⟨h.1.1.on hb, h.1.2.1.on hb, h.1.2.2.on hb⟩, h.2.on hb⟩) (fun W W' G h hg hG => ⟨⟨h.1.1.grown_ hg (by omega), h.1.2.1.grown_ hg (by omega), h.1.2.2.grown_ hg (by omega)⟩, h.2.put hg (by omega)⟩) (fun W h => h.2.n) (Lib.hid ⟨⟨hd0.get (by simp), hd0.get (by simp), hd0.get (by simp)⟩, hd0.b, by simp⟩) (hd0.get (by simp)) (by omega) (hd0.get (by simp)) (by omega) (by omega) (Lib.hid fun u W hS hR1 hR2 => ?_)) (by kernel_rfl)
  have hF := Lib.hid hS.2.b
  have a0 := hR1.cell 0; have a1 := hR1.cell 1; have a2 := hR1.cell 2
  have b0 := hR2.cell 0; have b3 := hR2.cell 1; have b4 := hR2.cell 2
  clear hS hR1 hR2 hd0
  go_wp2_with fail
  refine bodyPost_ret (v := .tuple #[.agg #[.int .i64 b1.rate, .int .i64 b1.flame, .int .i64 b1.pool], .agg #[.int .i64 b2.rate, .int .i64 b2.flame, .int .i64 b2.pool]]) ?_ rfl ⟨rfl, hF.out⟩
  simp [results, Try.results55, go_sem, a0, a1, a2, b0, b3, b4]
end Go.Proofs.Ytkjfommdeljefaa

namespace Go.Proofs.Ytkjfommdeljefaa
open Go.RowKit Go.Shelf Go.Maps
attribute [local go_sem] Oper.semAt_some

/-- What each operation leaves. -/
def it2R (U G1 G2 : Nat) (t a b : Tu) (z : Bool) : Nat → Value → World → Prop
  | 0, v, _ => v = .agg #[.int .i64 t.pull, .int .i64 t.flow, .int .i64 t.rise, .int .i64 t.spr, .int .i64 t.dra, .int .i64 t.cold]
  | 1, v, _ => v = .pointer (some ⟨G1, 0, none⟩)
  | 2, v, _ => v = .int .i64 a.pull
  | 3, v, _ => v = .pointer (some ⟨G2, 0, none⟩)
  | 4, v, _ => v = .int .i64 b.pull
  | 5, v, _ => v = .pointer (some ⟨U, 0, none⟩)
  | 6, v, _ => v = .int .i64 t.pull
  | 7, v, _ => v = .int .i64 (max a.pull (min b.pull t.pull))
  | 8, v, _ => v = .pointer (some ⟨G1, 1, none⟩)
  | 9, v, _ => v = .int .i64 a.flow
  | 10, v, _ => v = .pointer (some ⟨G2, 1, none⟩)
  | 11, v, _ => v = .int .i64 b.flow
  | 12, v, _ => v = .pointer (some ⟨U, 1, none⟩)
  | 13, v, _ => v = .int .i64 t.flow
  | 14, v, _ => v = .int .i64 (max a.flow (min b.flow t.flow))
  | 15, v, _ => v = .pointer (some ⟨G1, 2, none⟩)
  | 16, v, _ => v = .int .i64 a.rise
  | 17, v, _ => v = .pointer (some ⟨G2, 2, none⟩)
  | 18, v, _ => v = .int .i64 b.rise
  | 19, v, _ => v = .pointer (some ⟨U, 2, none⟩)
  | 20, v, _ => v = .int .i64 t.rise
  | 21, v, _ => v = .int .i64 (max a.rise (min b.rise t.rise))
  | 22, v, _ => v = .pointer (some ⟨G1, 3, none⟩)
  | 23, v, _ => v = .int .i64 a.spr
  | 24, v, _ => v = .pointer (some ⟨G2, 3, none⟩)
  | 25, v, _ => v = .int .i64 b.spr
  | 26, v, _ => v = .pointer (some ⟨U, 3, none⟩)
  | 27, v, _ => v = .int .i64 t.spr
  | 28, v, _ => v = .int .i64 (max a.spr (min b.spr t.spr))
  | 29, v, _ => v = .pointer (some ⟨G1, 4, none⟩)
  | 30, v, _ => v = .int .i64 a.dra
  | 31, v, _ => v = .pointer (some ⟨G2, 4, none⟩)
  | 32, v, _ => v = .int .i64 b.dra
  | 33, v, _ => v = .pointer (some ⟨U, 4, none⟩)
  | 34, v, _ => v = .int .i64 t.dra
  | 35, v, _ => v = .int .i64 (max a.dra (min b.dra t.dra))
  | 36, v, _ => v = .pointer (some ⟨G2, 5, none⟩)
  | 37, v, _ => v = .int .i64 b.cold
  | 38, v, _ => v = .pointer (some ⟨G1, 5, none⟩)
  | 39, v, _ => v = .int .i64 a.cold
  | 40, v, _ => v = .pointer (some ⟨U, 5, none⟩)
  | 41, v, _ => v = .int .i64 t.cold
  | 42, v, _ => v = .int .i64 (max b.cold (min a.cold t.cold))
  | 43, v, _ => v = .agg #[.int .i64 (max a.pull (min b.pull t.pull)), .int .i64 (max a.flow (min b.flow t.flow)), .int .i64 (max a.rise (min b.rise t.rise)), .int .i64 (max a.spr (min b.spr t.spr)), .int .i64 (max a.dra (min b.dra t.dra)), .int .i64 (max b.cold (min a.cold t.cold))]
  | 44, v, _ => v = .bool z
  | 45, v, _ => v = .bool z
  | _, _, _ => True
theorem it2R_on (U G1 G2 : Nat) (t a b : Tu) (z : Bool) : ∀ i, i < 46 → ∀ v W W', it2R U G1 G2 t a b z i v W → Below W.heap.size W W' → it2R U G1 G2 t a b z i v W' := by
  iterate 46 (refine all_succ ?_ ?_)
  · exact all_zero
  · exact fun _ _ _ h _ => h
  · exact fun _ _ _ h _ => h
  · exact fun _ _ _ h _ => h
  · exact fun _ _ _ h _ => h
  · exact fun _ _ _ h _ => h
  · exact fun _ _ _ h _ => h
  · exact fun _ _ _ h _ => h
  · exact fun _ _ _ h _ => h
  · exact fun _ _ _ h _ => h
  · exact fun _ _ _ h _ => h
  · exact fun _ _ _ h _ => h
  · exact fun _ _ _ h _ => h
  · exact fun _ _ _ h _ => h
  · exact fun _ _ _ h _ => h
  · exact fun _ _ _ h _ => h
  · exact fun _ _ _ h _ => h
  · exact fun _ _ _ h _ => h
  · exact fun _ _ _ h _ => h
  · exact fun _ _ _ h _ => h
  · exact fun _ _ _ h _ => h
  · exact fun _ _ _ h _ => h
  · exact fun _ _ _ h _ => h
  · exact fun _ _ _ h _ => h
  · exact fun _ _ _ h _ => h
  · exact fun _ _ _ h _ => h
  · exact fun _ _ _ h _ => h
  · exact fun _ _ _ h _ => h
  · exact fun _ _ _ h _ => h
  · exact fun _ _ _ h _ => h
  · exact fun _ _ _ h _ => h
  · exact fun _ _ _ h _ => h
  · exact fun _ _ _ h _ => h
  · exact fun _ _ _ h _ => h
  · exact fun _ _ _ h _ => h
  · exact fun _ _ _ h _ => h
  · exact fun _ _ _ h _ => h
  · exact fun _ _ _ h _ => h
  · exact fun _ _ _ h _ => h
  · exact fun _ _ _ h _ => h
  · exact fun _ _ _ h _ => h
  · exact fun _ _ _ h _ => h
  · exact fun _ _ _ h _ => h
  · exact fun _ _ _ h _ => h
  · exact fun _ _ _ h _ => h
  · exact fun _ _ _ h _ => h
  · exact fun _ _ _ h _ => h
set_option maxRecDepth 100000 in
set_option maxHeartbeats 8000000 in
theorem it2_region {S : World → Prop} (hon : ∀ W W', S W → Below W.heap.size W W' → S W') {U G1 G2 : Nat} {t a b : Tu} {z : Bool} (hU : ∀ W, S W → Blk W U 36 #[.int .i64 t.pull, .int .i64 t.flow, .int .i64 t.rise, .int .i64 t.spr, .int .i64 t.dra, .int .i64 t.cold]) (h1 : ∀ W, S W → Blk W G1 36 #[.int .i64 a.pull, .int .i64 a.flow, .int .i64 a.rise, .int .i64 a.spr, .int .i64 a.dra, .int .i64 a.cold]) (h2 : ∀ W, S W → Blk W G2 36 #[.int .i64 b.pull, .int .i64 b.flow, .int .i64 b.rise, .int .i64 b.spr, .int .i64 b.dra, .int .i64 b.cold]) (he : ∀ W, (binOp .eql 36 (.agg #[.int .i64 t.pull, .int .i64 t.flow, .int .i64 t.rise, .int .i64 t.spr, .int .i64 t.dra, .int .i64 t.cold]) (.agg #[.int .i64 (max a.pull (min b.pull t.pull)), .int .i64 (max a.flow (min b.flow t.flow)), .int .i64 (max a.rise (min b.rise t.rise)), .int .i64 (max a.spr (min b.spr t.spr)), .int .i64 (max a.dra (min b.dra t.dra)), .int .i64 (max b.cold (min a.cold t.cold))])).run Try.prog W = .ok (.bool z) W) {Q : Exit → Act → World → Prop} {s0 s1 s2 s3 s4 s9 s10 s11 s12 s13 s14 : Value} {W0 : World} (HL : Hid (S W0))
    (HQ : Hid (∀ (u : Nat → Value) (W : World), S W → Q .normal ⟨#[s0, s1, s2, s3, s4, .pointer (some ⟨U, 0, none⟩), .bool z, .pointer (some ⟨G1, 0, none⟩), .pointer (some ⟨G2, 0, none⟩), s9, s10, s11, s12, s13, s14, u 0, u 1, u 2, u 3, u 4, u 5, u 6, u 7, u 8, u 9, u 10, u 11, u 12, u 13, u 14, u 15, u 16, u 17, u 18, u 19, u 20, u 21, u 22, u 23, u 24, u 25, u 26, u 27, u 28, u 29, u 30, u 31, u 32, u 33, u 34, u 35, u 36, u 37, u 38, u 39, u 40, u 41, u 42, u 43, u 44], []⟩ W)) :
    Code.wp Try.prog ((Try.f50.body.bind (regionAt 2)).getD .skip) Q ⟨#[s0, s1, s2, s3, s4, .pointer (some ⟨U, 0, none⟩), .bool false, .pointer (some ⟨G1, 0, none⟩), .pointer (some ⟨G2, 0, none⟩), s9, s10, s11, s12, s13, s14, undef, undef, undef, undef, undef, undef, undef, undef, undef, undef, undef, undef, undef, undef, undef, undef, undef, undef, undef, undef, undef, undef, undef, undef, undef, undef, undef, undef, undef, undef, undef, undef, undef, undef, undef, undef, undef, undef, undef, undef, undef, undef, undef, undef, undef], []⟩ W0 := by
  conv => arg 2; whnf
  refine wp_region_spec (by kernel_rfl) 46 (by kernel_rfl) (fun u => ⟨#[s0, s1, s2, s3, s4, .pointer (some ⟨U, 0, none⟩), u 45, .pointer (some ⟨G1, 0, none⟩), .pointer (some ⟨G2, 0, none⟩), s9, s10, s11, s12, s13, s14, u 0, u 1, u 2, u 3, u 4, u 5, u 6, u 7, u 8, u 9, u 10, u 11, u 12, u 13, u 14, u 15, u 16, u 17, u 18, u 19, u 20, u 21, u 22, u 23, u 24, u 25, u 26, u 27, u 28, u 29, u 30, u 31, u 32, u 33, u 34, u 35, u 36, u 37, u 38, u 39, u 40, u 41, u 42, u 43, u 44], []⟩) (fun i => if i = 45 then .bool false else undef) (fun W => Hid (S W)) (it2R U G1 G2 t a b z) (by kernel_rfl) (hon _ _ HL.out (Below.refl _ _).drew) (fun i v W W2 hi h hb => it2R_on U G1 G2 t a b z i hi v W W2 h hb) (by decide +kernel) ?_ ?_
  · iterate 46 (refine all_succ ?_ ?_)
    · exact all_zero
    · intro u W hB _ hd _ K hK
      have HK := Lib.hid hK; clear hK
      refine wpOp_of rfl (by rfl) ?_
      have z0 := (hU W hB.out).cell 0; have z1 := (hU W hB.out).cell 1; have z2 := (hU W hB.out).cell 2; have z3 := (hU W hB.out).cell 3; have z4 := (hU W hB.out).cell 4; have z5 := (hU W hB.out).cell 5
      go_simp
      exact k_of (HK.out (.agg #[.int .i64 t.pull, .int .i64 t.flow, .int .i64 t.rise, .int .i64 t.spr, .int .i64 t.dra, .int .i64 t.cold]) _ rfl hB (Below.refl _ _)) (by kernel_rfl)
    · intro u W hB _ hd _ K hK
      have HK := Lib.hid hK; clear hK
      refine wpOp_of rfl (by rfl) ?_
      go_simp
      exact k_of (HK.out (.pointer (some ⟨G1, 0, none⟩)) _ rfl hB (Below.refl _ _)) (by kernel_rfl)
    · intro u W hB _ hd _ K hK
      have HK := Lib.hid hK; clear hK
      have e1 : u 1 = .pointer (some ⟨G1, 0, none⟩) := hd 1 (by decide +kernel)
      refine wpOp_of rfl (by rfl) ?_
      have z0 := (h1 W hB.out).cell 0
      go_simp
      exact k_of (HK.out (.int .i64 a.pull) _ rfl hB (Below.refl _ _)) (by rw [← u1_eq e1]; kernel_rfl)
    · intro u W hB _ hd _ K hK
      have HK := Lib.hid hK; clear hK
      refine wpOp_of rfl (by rfl) ?_
      go_simp
      exact k_of (HK.out (.pointer (some ⟨G2, 0, none⟩)) _ rfl hB (Below.refl _ _)) (by kernel_rfl)
    · intro u W hB _ hd _ K hK
      have HK := Lib.hid hK; clear hK
      have e3 : u 3 = .pointer (some ⟨G2, 0, none⟩) := hd 3 (by decide +kernel)
      refine wpOp_of rfl (by rfl) ?_
      have z0 := (h2 W hB.out).cell 0
      go_simp
      exact k_of (HK.out (.int .i64 b.pull) _ rfl hB (Below.refl _ _)) (by rw [← u1_eq e3]; kernel_rfl)
    · intro u W hB _ hd _ K hK
      have HK := Lib.hid hK; clear hK
      refine wpOp_of rfl (by rfl) ?_
      go_simp
      exact k_of (HK.out (.pointer (some ⟨U, 0, none⟩)) _ rfl hB (Below.refl _ _)) (by kernel_rfl)
    · intro u W hB _ hd _ K hK
      have HK := Lib.hid hK; clear hK
      have e5 : u 5 = .pointer (some ⟨U, 0, none⟩) := hd 5 (by decide +kernel)
      refine wpOp_of rfl (by rfl) ?_
      have z0 := (hU W hB.out).cell 0
      go_simp
      exact k_of (HK.out (.int .i64 t.pull) _ rfl hB (Below.refl _ _)) (by rw [← u1_eq e5]; kernel_rfl)
    · intro u W hB _ hd _ K hK
      have HK := Lib.hid hK; clear hK
      have e2 : u 2 = .int .i64 a.pull := hd 2 (by decide +kernel)
      have e4 : u 4 = .int .i64 b.pull := hd 4 (by decide +kernel)
      have e6 : u 6 = .int .i64 t.pull := hd 6 (by decide +kernel)
      refine wpOp_of rfl (by rfl) ?_
      go_simp
      refine (between_any _ _ _ W).mono ?_
      rintro e w' ⟨rfl, rfl⟩
      exact k_of (HK.out (.int .i64 (max a.pull (min b.pull t.pull))) _ rfl hB (Below.refl _ _)) (by rw [← u1_eq e2, ← u1_eq e4, ← u1_eq e6]; kernel_rfl)
    · intro u W hB _ hd _ K hK
      have HK := Lib.hid hK; clear hK
      refine wpOp_of rfl (by rfl) ?_
      go_simp
      exact k_of (HK.out (.pointer (some ⟨G1, 1, none⟩)) _ rfl hB (Below.refl _ _)) (by kernel_rfl)
    · intro u W hB _ hd _ K hK
      have HK := Lib.hid hK; clear hK
      have e8 : u 8 = .pointer (some ⟨G1, 1, none⟩) := hd 8 (by decide +kernel)
      refine wpOp_of rfl (by rfl) ?_
      have z1 := (h1 W hB.out).cell 1
      go_simp
      exact k_of (HK.out (.int .i64 a.flow) _ rfl hB (Below.refl _ _)) (by rw [← u1_eq e8]; kernel_rfl)
    · intro u W hB _ hd _ K hK
      have HK := Lib.hid hK; clear hK
      refine wpOp_of rfl (by rfl) ?_
      go_simp
      exact k_of (HK.out (.pointer (some ⟨G2, 1, none⟩)) _ rfl hB (Below.refl _ _)) (by kernel_rfl)
    · intro u W hB _ hd _ K hK
      have HK := Lib.hid hK; clear hK
      have e10 : u 10 = .pointer (some ⟨G2, 1, none⟩) := hd 10 (by decide +kernel)
      refine wpOp_of rfl (by rfl) ?_
      have z1 := (h2 W hB.out).cell 1
      go_simp
      exact k_of (HK.out (.int .i64 b.flow) _ rfl hB (Below.refl _ _)) (by rw [← u1_eq e10]; kernel_rfl)
    · intro u W hB _ hd _ K hK
      have HK := Lib.hid hK; clear hK
      refine wpOp_of rfl (by rfl) ?_
      go_simp
      exact k_of (HK.out (.pointer (some ⟨U, 1, none⟩)) _ rfl hB (Below.refl _ _)) (by kernel_rfl)
    · intro u W hB _ hd _ K hK
      have HK := Lib.hid hK; clear hK
      have e12 : u 12 = .pointer (some ⟨U, 1, none⟩) := hd 12 (by decide +kernel)
      refine wpOp_of rfl (by rfl) ?_
      have z1 := (hU W hB.out).cell 1
      go_simp
      exact k_of (HK.out (.int .i64 t.flow) _ rfl hB (Below.refl _ _)) (by rw [← u1_eq e12]; kernel_rfl)
    · intro u W hB _ hd _ K hK
      have HK := Lib.hid hK; clear hK
      have e9 : u 9 = .int .i64 a.flow := hd 9 (by decide +kernel)
      have e11 : u 11 = .int .i64 b.flow := hd 11 (by decide +kernel)
      have e13 : u 13 = .int .i64 t.flow := hd 13 (by decide +kernel)
      refine wpOp_of rfl (by rfl) ?_
      go_simp
      refine (between_any _ _ _ W).mono ?_
      rintro e w' ⟨rfl, rfl⟩
      exact k_of (HK.out (.int .i64 (max a.flow (min b.flow t.flow))) _ rfl hB (Below.refl _ _)) (by rw [← u1_eq e9, ← u1_eq e11, ← u1_eq e13]; kernel_rfl)
    · intro u W hB _ hd _ K hK
      have HK := Lib.hid hK; clear hK
      refine wpOp_of rfl (by rfl) ?_
      go_simp
      exact k_of (HK.out (.pointer (some ⟨G1, 2, none⟩)) _ rfl hB (Below.refl _ _)) (by kernel_rfl)
    · intro u W hB _ hd _ K hK
      have HK := Lib.hid hK; clear hK
      have e15 : u 15 = .pointer (some ⟨G1, 2, none⟩) := hd 15 (by decide +kernel)
      refine wpOp_of rfl (by rfl) ?_
      have z2 := (h1 W hB.out).cell 2
      go_simp
      exact k_of (HK.out (.int .i64 a.rise) _ rfl hB (Below.refl _ _)) (by rw [← u1_eq e15]; kernel_rfl)
    · intro u W hB _ hd _ K hK
      have HK := Lib.hid hK; clear hK
      refine wpOp_of rfl (by rfl) ?_
      go_simp
      exact k_of (HK.out (.pointer (some ⟨G2, 2, none⟩)) _ rfl hB (Below.refl _ _)) (by kernel_rfl)
    · intro u W hB _ hd _ K hK
      have HK := Lib.hid hK; clear hK
      have e17 : u 17 = .pointer (some ⟨G2, 2, none⟩) := hd 17 (by decide +kernel)
      refine wpOp_of rfl (by rfl) ?_
      have z2 := (h2 W hB.out).cell 2
      go_simp
      exact k_of (HK.out (.int .i64 b.rise) _ rfl hB (Below.refl _ _)) (by rw [← u1_eq e17]; kernel_rfl)
    · intro u W hB _ hd _ K hK
      have HK := Lib.hid hK; clear hK
      refine wpOp_of rfl (by rfl) ?_
      go_simp
      exact k_of (HK.out (.pointer (some ⟨U, 2, none⟩)) _ rfl hB (Below.refl _ _)) (by kernel_rfl)
    · intro u W hB _ hd _ K hK
      have HK := Lib.hid hK; clear hK
      have e19 : u 19 = .pointer (some ⟨U, 2, none⟩) := hd 19 (by decide +kernel)
      refine wpOp_of rfl (by rfl) ?_
      have z2 := (hU W hB.out).cell 2
      go_simp
      exact k_of (HK.out (.int .i64 t.rise) _ rfl hB (Below.refl _ _)) (by rw [← u1_eq e19]; kernel_rfl)
    · intro u W hB _ hd _ K hK
      have HK := Lib.hid hK; clear hK
      have e16 : u 16 = .int .i64 a.rise := hd 16 (by decide +kernel)
      have e18 : u 18 = .int .i64 b.rise := hd 18 (by decide +kernel)
      have e20 : u 20 = .int .i64 t.rise := hd 20 (by decide +kernel)
      refine wpOp_of rfl (by rfl) ?_
      go_simp
      refine (between_any _ _ _ W).mono ?_
      rintro e w' ⟨rfl, rfl⟩
      exact k_of (HK.out (.int .i64 (max a.rise (min b.rise t.rise))) _ rfl hB (Below.refl _ _)) (by rw [← u1_eq e16, ← u1_eq e18, ← u1_eq e20]; kernel_rfl)
    · intro u W hB _ hd _ K hK
      have HK := Lib.hid hK; clear hK
      refine wpOp_of rfl (by rfl) ?_
      go_simp
      exact k_of (HK.out (.pointer (some ⟨G1, 3, none⟩)) _ rfl hB (Below.refl _ _)) (by kernel_rfl)
    · intro u W hB _ hd _ K hK
      have HK := Lib.hid hK; clear hK
      have e22 : u 22 = .pointer (some ⟨G1, 3, none⟩) := hd 22 (by decide +kernel)
      refine wpOp_of rfl (by rfl) ?_
      have z3 := (h1 W hB.out).cell 3
      go_simp
      exact k_of (HK.out (.int .i64 a.spr) _ rfl hB (Below.refl _ _)) (by rw [← u1_eq e22]; kernel_rfl)
    · intro u W hB _ hd _ K hK
      have HK := Lib.hid hK; clear hK
      refine wpOp_of rfl (by rfl) ?_
      go_simp
      exact k_of (HK.out (.pointer (some ⟨G2, 3, none⟩)) _ rfl hB (Below.refl _ _)) (by kernel_rfl)
    · intro u W hB _ hd _ K hK
      have HK := Lib.hid hK; clear hK
      have e24 : u 24 = .pointer (some ⟨G2, 3, none⟩) := hd 24 (by decide +kernel)
      refine wpOp_of rfl (by rfl) ?_
      have z3 := (h2 W hB.out).cell 3
      go_simp
      exact k_of (HK.out (.int .i64 b.spr) _ rfl hB (Below.refl _ _)) (by rw [← u1_eq e24]; kernel_rfl)
    · intro u W hB _ hd _ K hK
      have HK := Lib.hid hK; clear hK
      refine wpOp_of rfl (by rfl) ?_
      go_simp
      exact k_of (HK.out (.pointer (some ⟨U, 3, none⟩)) _ rfl hB (Below.refl _ _)) (by kernel_rfl)
    · intro u W hB _ hd _ K hK
      have HK := Lib.hid hK; clear hK
      have e26 : u 26 = .pointer (some ⟨U, 3, none⟩) := hd 26 (by decide +kernel)
      refine wpOp_of rfl (by rfl) ?_
      have z3 := (hU W hB.out).cell 3
      go_simp
      exact k_of (HK.out (.int .i64 t.spr) _ rfl hB (Below.refl _ _)) (by rw [← u1_eq e26]; kernel_rfl)
    · intro u W hB _ hd _ K hK
      have HK := Lib.hid hK; clear hK
      have e23 : u 23 = .int .i64 a.spr := hd 23 (by decide +kernel)
      have e25 : u 25 = .int .i64 b.spr := hd 25 (by decide +kernel)
      have e27 : u 27 = .int .i64 t.spr := hd 27 (by decide +kernel)
      refine wpOp_of rfl (by rfl) ?_
      go_simp
      refine (between_any _ _ _ W).mono ?_
      rintro e w' ⟨rfl, rfl⟩
      exact k_of (HK.out (.int .i64 (max a.spr (min b.spr t.spr))) _ rfl hB (Below.refl _ _)) (by rw [← u1_eq e23, ← u1_eq e25, ← u1_eq e27]; kernel_rfl)
    · intro u W hB _ hd _ K hK
      have HK := Lib.hid hK; clear hK
      refine wpOp_of rfl (by rfl) ?_
      go_simp
      exact k_of (HK.out (.pointer (some ⟨G1, 4, none⟩)) _ rfl hB (Below.refl _ _)) (by kernel_rfl)
    · intro u W hB _ hd _ K hK
      have HK := Lib.hid hK; clear hK
      have e29 : u 29 = .pointer (some ⟨G1, 4, none⟩) := hd 29 (by decide +kernel)
      refine wpOp_of rfl (by rfl) ?_
      have z4 := (h1 W hB.out).cell 4
      go_simp
      exact k_of (HK.out (.int .i64 a.dra) _ rfl hB (Below.refl _ _)) (by rw [← u1_eq e29]; kernel_rfl)
    · intro u W hB _ hd _ K hK
      have HK := Lib.hid hK; clear hK
      refine wpOp_of rfl (by rfl) ?_
      go_simp
      exact k_of (HK.out (.pointer (some ⟨G2, 4, none⟩)) _ rfl hB (Below.refl _ _)) (by kernel_rfl)
    · intro u W hB _ hd _ K hK
      have HK := Lib.hid hK; clear hK
      have e31 : u 31 = .pointer (some ⟨G2, 4, none⟩) := hd 31 (by decide +kernel)
      refine wpOp_of rfl (by rfl) ?_
      have z4 := (h2 W hB.out).cell 4
      go_simp
      exact k_of (HK.out (.int .i64 b.dra) _ rfl hB (Below.refl _ _)) (by rw [← u1_eq e31]; kernel_rfl)
    · intro u W hB _ hd _ K hK
      have HK := Lib.hid hK; clear hK
      refine wpOp_of rfl (by rfl) ?_
      go_simp
      exact k_of (HK.out (.pointer (some ⟨U, 4, none⟩)) _ rfl hB (Below.refl _ _)) (by kernel_rfl)
    · intro u W hB _ hd _ K hK
      have HK := Lib.hid hK; clear hK
      have e33 : u 33 = .pointer (some ⟨U, 4, none⟩) := hd 33 (by decide +kernel)
      refine wpOp_of rfl (by rfl) ?_
      have z4 := (hU W hB.out).cell 4
      go_simp
      exact k_of (HK.out (.int .i64 t.dra) _ rfl hB (Below.refl _ _)) (by rw [← u1_eq e33]; kernel_rfl)
    · intro u W hB _ hd _ K hK
      have HK := Lib.hid hK; clear hK
      have e30 : u 30 = .int .i64 a.dra := hd 30 (by decide +kernel)
      have e32 : u 32 = .int .i64 b.dra := hd 32 (by decide +kernel)
      have e34 : u 34 = .int .i64 t.dra := hd 34 (by decide +kernel)
      refine wpOp_of rfl (by rfl) ?_
      go_simp
      refine (between_any _ _ _ W).mono ?_
      rintro e w' ⟨rfl, rfl⟩
      exact k_of (HK.out (.int .i64 (max a.dra (min b.dra t.dra))) _ rfl hB (Below.refl _ _)) (by rw [← u1_eq e30, ← u1_eq e32, ← u1_eq e34]; kernel_rfl)
    · intro u W hB _ hd _ K hK
      have HK := Lib.hid hK; clear hK
      refine wpOp_of rfl (by rfl) ?_
      go_simp
      exact k_of (HK.out (.pointer (some ⟨G2, 5, none⟩)) _ rfl hB (Below.refl _ _)) (by kernel_rfl)
    · intro u W hB _ hd _ K hK
      have HK := Lib.hid hK; clear hK
      have e36 : u 36 = .pointer (some ⟨G2, 5, none⟩) := hd 36 (by decide +kernel)
      refine wpOp_of rfl (by rfl) ?_
      have z5 := (h2 W hB.out).cell 5
      go_simp
      exact k_of (HK.out (.int .i64 b.cold) _ rfl hB (Below.refl _ _)) (by rw [← u1_eq e36]; kernel_rfl)
    · intro u W hB _ hd _ K hK
      have HK := Lib.hid hK; clear hK
      refine wpOp_of rfl (by rfl) ?_
      go_simp
      exact k_of (HK.out (.pointer (some ⟨G1, 5, none⟩)) _ rfl hB (Below.refl _ _)) (by kernel_rfl)
    · intro u W hB _ hd _ K hK
      have HK := Lib.hid hK; clear hK
      have e38 : u 38 = .pointer (some ⟨G1, 5, none⟩) := hd 38 (by decide +kernel)
      refine wpOp_of rfl (by rfl) ?_
      have z5 := (h1 W hB.out).cell 5
      go_simp
      exact k_of (HK.out (.int .i64 a.cold) _ rfl hB (Below.refl _ _)) (by rw [← u1_eq e38]; kernel_rfl)
    · intro u W hB _ hd _ K hK
      have HK := Lib.hid hK; clear hK
      refine wpOp_of rfl (by rfl) ?_
      go_simp
      exact k_of (HK.out (.pointer (some ⟨U, 5, none⟩)) _ rfl hB (Below.refl _ _)) (by kernel_rfl)
    · intro u W hB _ hd _ K hK
      have HK := Lib.hid hK; clear hK
      have e40 : u 40 = .pointer (some ⟨U, 5, none⟩) := hd 40 (by decide +kernel)
      refine wpOp_of rfl (by rfl) ?_
      have z5 := (hU W hB.out).cell 5
      go_simp
      exact k_of (HK.out (.int .i64 t.cold) _ rfl hB (Below.refl _ _)) (by rw [← u1_eq e40]; kernel_rfl)
    · intro u W hB _ hd _ K hK
      have HK := Lib.hid hK; clear hK
      have e37 : u 37 = .int .i64 b.cold := hd 37 (by decide +kernel)
      have e39 : u 39 = .int .i64 a.cold := hd 39 (by decide +kernel)
      have e41 : u 41 = .int .i64 t.cold := hd 41 (by decide +kernel)
      refine wpOp_of rfl (by rfl) ?_
      go_simp
      refine (between_any _ _ _ W).mono ?_
      rintro e w' ⟨rfl, rfl⟩
      exact k_of (HK.out (.int .i64 (max b.cold (min a.cold t.cold))) _ rfl hB (Below.refl _ _)) (by rw [← u1_eq e37, ← u1_eq e39, ← u1_eq e41]; kernel_rfl)
    · intro u W hB _ hd _ K hK
      have HK := Lib.hid hK; clear hK
      have e7 : u 7 = .int .i64 (max a.pull (min b.pull t.pull)) := hd 7 (by decide +kernel)
      have e14 : u 14 = .int .i64 (max a.flow (min b.flow t.flow)) := hd 14 (by decide +kernel)
      have e21 : u 21 = .int .i64 (max a.rise (min b.rise t.rise)) := hd 21 (by decide +kernel)
      have e28 : u 28 = .int .i64 (max a.spr (min b.spr t.spr)) := hd 28 (by decide +kernel)
      have e35 : u 35 = .int .i64 (max a.dra (min b.dra t.dra)) := hd 35 (by decide +kernel)
      have e42 : u 42 = .int .i64 (max b.cold (min a.cold t.cold)) := hd 42 (by decide +kernel)
      refine wpOp_of rfl (by rfl) ?_
      go_simp
      exact k_of (HK.out (.agg #[.int .i64 (max a.pull (min b.pull t.pull)), .int .i64 (max a.flow (min b.flow t.flow)), .int .i64 (max a.rise (min b.rise t.rise)), .int .i64 (max a.spr (min b.spr t.spr)), .int .i64 (max a.dra (min b.dra t.dra)), .int .i64 (max b.cold (min a.cold t.cold))]) _ rfl hB (Below.refl _ _)) (by rw [← u1_eq e7, ← u1_eq e14, ← u1_eq e21, ← u1_eq e28, ← u1_eq e35, ← u1_eq e42]; kernel_rfl)
    · intro u W hB _ hd _ K hK
      have HK := Lib.hid hK; clear hK
      have e0 : u 0 = .agg #[.int .i64 t.pull, .int .i64 t.flow, .int .i64 t.rise, .int .i64 t.spr, .int .i64 t.dra, .int .i64 t.cold] := hd 0 (by decide +kernel)
      have e43 : u 43 = .agg #[.int .i64 (max a.pull (min b.pull t.pull)), .int .i64 (max a.flow (min b.flow t.flow)), .int .i64 (max a.rise (min b.rise t.rise)), .int .i64 (max a.spr (min b.spr t.spr)), .int .i64 (max a.dra (min b.dra t.dra)), .int .i64 (max b.cold (min a.cold t.cold))] := hd 43 (by decide +kernel)
      refine wpOp_of rfl (by rfl) ?_
      have heq := he W
      go_simp
      exact k_of (HK.out (.bool z) _ rfl hB (Below.refl _ _)) (by rw [← u1_eq e0, ← u1_eq e43]; kernel_rfl)
    · intro u W hB _ hd _ K hK
      have HK := Lib.hid hK; clear hK
      have e44 : u 44 = .bool z := hd 44 (by decide +kernel)
      refine wpOp_of rfl (by rfl) ?_
      go_simp
      exact k_of (HK.out (.bool z) _ rfl hB (Below.refl _ _)) (by rw [← u1_eq e44]; kernel_rfl)
  · intro u W hB hd
    have e45 : u 45 = .bool z := hd 45 (by decide)
    exact k_of (HQ.out u W hB.out) (by simp only [e45])


theorem tuEq_iff {t u : Tu} : tuEq t u = true ↔ t.pull = u.pull ∧ t.flow = u.flow ∧ t.rise = u.rise ∧ t.spr = u.spr ∧ t.dra = u.dra ∧ t.cold = u.cold := by
  simp [tuEq]
theorem tuEq_tuB {k : Wk} {x : Wx} {c : Cd} {s : Sh} (t : Tu) (hk : WkOk k) (hx : WxOk x) (hc : CdOk s c) : tuEq t ⟨max k.plo (min k.phi t.pull), max x.flo (min x.fhi t.flow), max x.rlo (min x.rhi t.rise), max x.slo (min x.shi t.spr), max (-c.dra) (min c.dra t.dra), max c.clo (min c.chi t.cold)⟩ = tuB k x c t := by
  have h1 := hk.p; have h2 := hx.f; have h3 := hx.r; have h4 := hx.s; have h5 := hc.dra; have h6 := hc.cold
  rw [Bool.eq_iff_iff, tuEq_iff, tuB_iff]
  constructor
  · rintro ⟨a1, a2, a3, a4, a5, a6⟩
    simp only at a1 a2 a3 a4 a5 a6
    exact ⟨by omega, by omega, by omega, by omega, by omega, by omega⟩
  · intro h
    have b1 := h.pull; have b2 := h.flow; have b3 := h.rise; have b4 := h.spr; have b5 := h.dra; have b6 := h.cold
    simp only
    omega
set_option maxRecDepth 100000 in
set_option maxHeartbeats 2000000 in
theorem isTruth_any {w : World} {p : Sp} {c : Cd} {q : Int} {k : Wk} {x : Wx} (t : Tu) (h : ShIn w p) (h0 : 0 ≤ q) (hk : p.s.ks[q.toNat]? = some k) (hx : p.s.xs[c.wax.toNat]? = some x) (hko : WkOk k) (hxo : WxOk x) (hc : CdOk p.s c) :
    Calls Try.prog 50 #[.agg #[.slice p.ka p.s.ks.length p.kc, .slice p.xa p.s.xs.length p.xc, .int .i64 p.s.flo, .int .i64 p.s.fhi, .int .i64 p.s.plo, .int .i64 p.s.phi, .int .i64 c.wax, .int .i64 c.dia, .int .i64 c.dra, .int .i64 c.clo, .int .i64 c.chi], .int .i64 q, .agg #[.int .i64 t.pull, .int .i64 t.flow, .int .i64 t.rise, .int .i64 t.spr, .int .i64 t.dra, .int .i64 t.cold]] w fun e w' => e = .returned (.bool (tuB k x c t)) ∧ Below w.heap.size w w' := by
  have hc0 := hc.wax.1
  have hb0 := ((Bx.nil w).alloc #[.slice p.ka p.s.ks.length p.kc, .slice p.xa p.s.xs.length p.xc, .int .i64 p.s.flo, .int .i64 p.s.fhi, .int .i64 p.s.plo, .int .i64 p.s.phi, .int .i64 c.wax, .int .i64 c.dia, .int .i64 c.dra, .int .i64 c.clo, .int .i64 c.chi] 93).alloc #[.int .i64 t.pull, .int .i64 t.flow, .int .i64 t.rise, .int .i64 t.spr, .int .i64 t.dra, .int .i64 t.cold] 36
  simp only [World.size_alloc] at hb0
  have HB : Hid (Bx w _ _) := Lib.hid hb0
  have HE := Lib.hid (ends_any (h.on HB.out.b) h0 hk hc0 hx hc.dra)
  have HZ : Hid (∀ W, (binOp .eql 36 (.agg #[.int .i64 t.pull, .int .i64 t.flow, .int .i64 t.rise, .int .i64 t.spr, .int .i64 t.dra, .int .i64 t.cold]) (.agg #[.int .i64 (max (weakT k x c).pull (min (strongT k x c).pull t.pull)), .int .i64 (max (weakT k x c).flow (min (strongT k x c).flow t.flow)), .int .i64 (max (weakT k x c).rise (min (strongT k x c).rise t.rise)), .int .i64 (max (weakT k x c).spr (min (strongT k x c).spr t.spr)), .int .i64 (max (weakT k x c).dra (min (strongT k x c).dra t.dra)), .int .i64 (max (strongT k x c).cold (min (weakT k x c).cold t.cold))])).run Try.prog W = .ok (.bool (tuB k x c t)) W) := by
    intro W
    rw [← tuEq_tuB t hko hxo hc]
    exact tu_eql t ⟨max k.plo (min k.phi t.pull), max x.flo (min x.fhi t.flow), max x.rlo (min x.rhi t.rise), max x.slo (min x.shi t.spr), max (-c.dra) (min c.dra t.dra), max c.clo (min c.chi t.cold)⟩ W
  clear h hb0 hk hx hc hko hxo
  generalize weakT k x c = t1 at *
  generalize strongT k x c = t2 at *
  generalize tuB k x c t = z at *
  go_enter Try.func50, Try.ntmps50
  go_wp2_with (refine HE.out.mono ?_; rintro e w1 ⟨rfl, hb⟩; have HC := Lib.hid (HB.out.on hb); clear hb)
  have hd0 := (HC.out.alloc #[.int .i64 t1.pull, .int .i64 t1.flow, .int .i64 t1.rise, .int .i64 t1.spr, .int .i64 t1.dra, .int .i64 t1.cold] 36).alloc #[.int .i64 t2.pull, .int .i64 t2.flow, .int .i64 t2.rise, .int .i64 t2.spr, .int .i64 t2.dra, .int .i64 t2.cold] 36
  simp only [World.size_alloc] at hd0
  refine wp_of_eq (it2_region (S := fun W => (Blk W (w.heap.size + 1) 36 #[.int .i64 t.pull, .int .i64 t.flow, .int .i64 t.rise, .int .i64 t.spr, .int .i64 t.dra, .int .i64 t.cold] ∧ Blk W w1.heap.size 36 #[.int .i64 t1.pull, .int .i64 t1.flow, .int .i64 t1.rise, .int .i64 t1.spr, .int .i64 t1.dra, .int .i64 t1.cold] ∧ Blk W (w1.heap.size + 1) 36 #[.int .i64 t2.pull, .int .i64 t2.flow, .int .i64 t2.rise, .int .i64 t2.spr, .int .i64 t2.dra, .int .i64 t2.cold]) ∧ Below w.heap.size w W) (fun _ _ h hb => ⟨⟨h.1.1.on hb, h.1.2.1.on hb, h.1.2.2.on hb⟩, h.2.trans (hb.mono h.2.size)⟩) (U := w.heap.size + 1) (G1 := w1.heap.size) (G2 := w1.heap.size + 1) (t := t) (a := t1) (b := t2) (z := z) (fun W h => h.1.1) (fun W h => h.1.2.1) (fun W h => h.1.2.2) HZ.out (Lib.hid ⟨⟨hd0.get (by simp), hd0.get (by simp), hd0.get (by simp)⟩, hd0.b⟩) (Lib.hid fun u W hS => ?_)) (by kernel_rfl)
  have hF := Lib.hid hS.2
  clear hS hd0
  go_wp2_with fail
  go_ret
  exact ⟨rfl, hF.out⟩
end Go.Proofs.Ytkjfommdeljefaa
