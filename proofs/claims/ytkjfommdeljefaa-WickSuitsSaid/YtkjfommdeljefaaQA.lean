/- wick.Minutes: contract. -/
import Derived.Test.YtkjfommdeljefaaQy
namespace Go.Proofs.Ytkjfommdeljefaa
open Go.RowKit Go.Shelf Go.Maps
attribute [local go_sem] Oper.semAt_some

/-- What each operation leaves. -/
def mi9F (G1 G2 : Nat) (al lo hi : Int) (b1 b2 : Bn) : Nat → Value → Prop
  | 0, v => v = .int .i64 al
  | 1, v => v = .pointer (some ⟨G2, 0, none⟩)
  | 2, v => v = .int .i64 b2.rate
  | 3, v => v = .int .i64 lo
  | 4, v => v = .int .i64 al
  | 5, v => v = .pointer (some ⟨G1, 0, none⟩)
  | 6, v => v = .int .i64 b1.rate
  | 7, v => v = .int .i64 (al + b1.rate)
  | 8, v => v = .int .i64 (al + b1.rate - 1)
  | 9, v => v = .pointer (some ⟨G1, 0, none⟩)
  | 10, v => v = .int .i64 b1.rate
  | 11, v => v = .int .i64 hi
  | 12, v => v = .agg #[.int .i64 lo, .int .i64 hi]
  | 13, _ => True
  | 14, v => v = .int .i64 0
  | _, _ => True
set_option maxRecDepth 100000 in
set_option maxHeartbeats 8000000 in
theorem mi9_region {G1 G2 R0 N : Nat} {al lo hi : Int} {b1 b2 : Bn} {S : World → Prop} (hw1 : IntKind.i64.wrap (al.tdiv b2.rate) = lo) (hw2 : IntKind.i64.wrap (al + b1.rate) = al + b1.rate) (hw3 : IntKind.i64.wrap (al + b1.rate - 1) = al + b1.rate - 1) (hw4 : IntKind.i64.wrap ((al + b1.rate - 1).tdiv b1.rate) = hi) (hz1 : ¬ b1.rate = 0) (hz2 : ¬ b2.rate = 0) (h1 : ∀ W, S W → Blk W G1 40 #[.int .i64 b1.rate, .int .i64 b1.flame, .int .i64 b1.pool]) (h2 : ∀ W, S W → Blk W G2 40 #[.int .i64 b2.rate, .int .i64 b2.flame, .int .i64 b2.pool]) (hon : ∀ W W', S W → Below W.heap.size W W' → S W') (hput : ∀ W W' G, S W → W.grownBy W' (some G) → (N ≤ G ∨ G = R0) → S W') (hN : ∀ W, S W → N ≤ W.heap.size) {Q : Exit → Act → World → Prop} {s0 s1 s2 s3 s4 s5 s6 s7 s10 s11 s15 s16 s17 s18 s19 s20 s21 s22 s23 s24 s25 s26 s27 s28 s29 s30 s31 s32 s33 s34 s35 s36 s37 s38 : Value} {W0 : World} (HL : Hid (S W0)) (hk0 : Blk W0 (R0) 25 #[.int .i64 0, .int .i64 0]) (hg0 : R0 < N)
    (HQ : Hid (∀ (u : Nat → Value) (W : World), S W → Blk W (R0) 25 #[.int .i64 lo, .int .i64 hi] → Q .normal ⟨#[s0, s1, s2, s3, s4, s5, s6, s7, .pointer (some ⟨R0, 0, none⟩), .int .i64 0, s10, s11, .pointer (some ⟨G1, 0, none⟩), .pointer (some ⟨G2, 0, none⟩), .int .i64 al, s15, s16, s17, s18, s19, s20, s21, s22, s23, s24, s25, s26, s27, s28, s29, s30, s31, s32, s33, s34, s35, s36, s37, s38, u 0, u 1, u 2, u 3, u 4, u 5, u 6, u 7, u 8, u 9, u 10, u 11, u 12], []⟩ W)) :
    Code.wp Try.prog ((Try.f21.body.bind (regionAt 9)).getD .skip) Q ⟨#[s0, s1, s2, s3, s4, s5, s6, s7, .pointer (some ⟨R0, 0, none⟩), .int .i64 0, s10, s11, .pointer (some ⟨G1, 0, none⟩), .pointer (some ⟨G2, 0, none⟩), .int .i64 al, s15, s16, s17, s18, s19, s20, s21, s22, s23, s24, s25, s26, s27, s28, s29, s30, s31, s32, s33, s34, s35, s36, s37, s38, undef, undef, undef, undef, undef, undef, undef, undef, undef, undef, undef, undef, undef], []⟩ W0 := by
  conv => arg 2; whnf
  refine wp_region_vars (by kernel_rfl) 15 (by kernel_rfl) (fun u => ⟨#[s0, s1, s2, s3, s4, s5, s6, s7, .pointer (some ⟨R0, 0, none⟩), u 14, s10, s11, .pointer (some ⟨G1, 0, none⟩), .pointer (some ⟨G2, 0, none⟩), .int .i64 al, s15, s16, s17, s18, s19, s20, s21, s22, s23, s24, s25, s26, s27, s28, s29, s30, s31, s32, s33, s34, s35, s36, s37, s38, u 0, u 1, u 2, u 3, u 4, u 5, u 6, u 7, u 8, u 9, u 10, u 11, u 12], []⟩) (fun i => if i = 14 then .int .i64 0 else undef) (fun W => Hid (S W)) (mi9F G1 G2 al lo hi b1 b2) (N) [⟨none, R0, 13, 25, #[.int .i64 0, .int .i64 0], #[.int .i64 lo, .int .i64 hi]⟩] [] [13] rfl rfl (by kernel_rfl) (hon _ _ HL.out (Below.refl _ _).drew) ?hV (fun W h => hN W h.out) ?hg (by decide +kernel) (fun W W' h hb => hon W W' h.out hb) ?hp ?hA ?hP (by decide) (by decide) (by decide) (by decide) (by decide) ?step ?done
  case hV =>
    refine ⟨fun q hq => ⟨fun a e hl => (by cases hl), fun G hG => ?_⟩, fun q hq r hr hne G h1 h2 => ?_⟩
    · simp only [List.mem_cons, List.not_mem_nil, or_false] at hq
      rcases hq with rfl
      · obtain ⟨rfl, -⟩ := hG; exact hk0.drew
    · simp only [List.mem_cons, List.not_mem_nil, or_false] at hq
      rcases hq with rfl
      · simp only [List.mem_cons, List.not_mem_nil, or_false] at hr
        rcases hr with rfl
        · exact absurd rfl hne
  case hg =>
    intro q hq ha
    simp only [List.mem_cons, List.not_mem_nil, or_false] at hq
    rcases hq with rfl
    · exact hg0
  case hp =>
    intro W W' G h hg hG
    refine hput W W' G h.out hg ?_
    rcases hG with h1 | ⟨q, hq, ha, h2⟩
    · exact .inl h1
    · simp only [List.mem_cons, List.not_mem_nil, or_false] at hq
      rcases hq with rfl
      · exact .inr h2
  case hA =>
    intro q hq i ha
    simp only [List.mem_cons, List.not_mem_nil, or_false] at hq
    rcases hq with rfl
    · cases ha
  case hP =>
    intro q hq u W hB hd G hG hb K hK
    have HK := Lib.hid hK; clear hK
    simp only [List.mem_cons, List.not_mem_nil, or_false] at hq
    rcases hq with rfl
    · have hGe : G = R0 := hG.1
      rw [hGe] at hb HK
      clear hG hGe
      replace hd : ∀ j ∈ waits .any _ 13, j ∉ [] → j ∉ [13] → mi9F G1 G2 al lo hi b1 b2 j (u j) := hd
      have e12 : u 12 = .agg #[.int .i64 lo, .int .i64 hi] := hd 12 (by decide +kernel) (by decide) (by decide)
      replace hb : Blk W R0 25 #[.int .i64 0, .int .i64 0] := hb
      have hb2 := ((hb).set_ 0 (.int .i64 lo)).set_ 1 (.int .i64 hi)
      simp only [List.setIfInBounds_toArray, List.set_cons_zero, List.set_cons_succ] at hb2
      have hg2 : W.grownBy _ (some (R0)) := grown_more (grown_more (World.grownBy.refl W (some R0)) 0 (.int .i64 lo)) 1 (.int .i64 hi)
      have fz0 := hb.frozen 0
      have cl0 := hb.cell 0
      have fz1 := hb.frozen 1
      have cl1 := hb.cell 1
      have gl := hb.lt
      have HB2 := Lib.hid hb2
      have HG2 := Lib.hid hg2
      clear hb2 hg2
      refine wpOp_of rfl (by rfl) ?_
      go_simp
      exact k_of (HK.out _ HB2.out HG2.out) (by rw [← u1_eq e12] <;> kernel_rfl)
  case step =>
    iterate 15 (refine all_succ ?_ ?_)
    · exact all_zero
    · intro _ _ u W hB hv hd K hK
      have HK := Lib.hid hK; clear hK
      refine wpOp_of rfl (by rfl) ?_
      go_simp
      exact k_of (HK.out (.int .i64 al) _ rfl hB (Below.refl _ _)) (by kernel_rfl)
    · intro _ _ u W hB hv hd K hK
      have HK := Lib.hid hK; clear hK
      refine wpOp_of rfl (by rfl) ?_
      go_simp
      exact k_of (HK.out (.pointer (some ⟨G2, 0, none⟩)) _ rfl hB (Below.refl _ _)) (by kernel_rfl)
    · intro _ _ u W hB hv hd K hK
      have HK := Lib.hid hK; clear hK
      have e1 : u 1 = .pointer (some ⟨G2, 0, none⟩) := hd 1 (by decide +kernel) (by decide) (by decide)
      refine wpOp_of rfl (by rfl) ?_
      have z0 := (h2 W hB.out).cell 0
      go_simp
      exact k_of (HK.out (.int .i64 b2.rate) _ rfl hB (Below.refl _ _)) (by rw [← u1_eq e1]; kernel_rfl)
    · intro _ _ u W hB hv hd K hK
      have HK := Lib.hid hK; clear hK
      have e0 : u 0 = .int .i64 al := hd 0 (by decide +kernel) (by decide) (by decide)
      have e2 : u 2 = .int .i64 b2.rate := hd 2 (by decide +kernel) (by decide) (by decide)
      refine wpOp_of rfl (by rfl) ?_
      go_simp
      exact k_of (HK.out (.int .i64 lo) _ rfl hB (Below.refl _ _)) (by rw [← u1_eq e0, ← u1_eq e2]; kernel_rfl)
    · intro _ _ u W hB hv hd K hK
      have HK := Lib.hid hK; clear hK
      refine wpOp_of rfl (by rfl) ?_
      go_simp
      exact k_of (HK.out (.int .i64 al) _ rfl hB (Below.refl _ _)) (by kernel_rfl)
    · intro _ _ u W hB hv hd K hK
      have HK := Lib.hid hK; clear hK
      refine wpOp_of rfl (by rfl) ?_
      go_simp
      exact k_of (HK.out (.pointer (some ⟨G1, 0, none⟩)) _ rfl hB (Below.refl _ _)) (by kernel_rfl)
    · intro _ _ u W hB hv hd K hK
      have HK := Lib.hid hK; clear hK
      have e5 : u 5 = .pointer (some ⟨G1, 0, none⟩) := hd 5 (by decide +kernel) (by decide) (by decide)
      refine wpOp_of rfl (by rfl) ?_
      have z0 := (h1 W hB.out).cell 0
      go_simp
      exact k_of (HK.out (.int .i64 b1.rate) _ rfl hB (Below.refl _ _)) (by rw [← u1_eq e5]; kernel_rfl)
    · intro _ _ u W hB hv hd K hK
      have HK := Lib.hid hK; clear hK
      have e4 : u 4 = .int .i64 al := hd 4 (by decide +kernel) (by decide) (by decide)
      have e6 : u 6 = .int .i64 b1.rate := hd 6 (by decide +kernel) (by decide) (by decide)
      refine wpOp_of rfl (by rfl) ?_
      go_simp
      exact k_of (HK.out (.int .i64 (al + b1.rate)) _ rfl hB (Below.refl _ _)) (by rw [← u1_eq e4, ← u1_eq e6]; kernel_rfl)
    · intro _ _ u W hB hv hd K hK
      have HK := Lib.hid hK; clear hK
      have e7 : u 7 = .int .i64 (al + b1.rate) := hd 7 (by decide +kernel) (by decide) (by decide)
      refine wpOp_of rfl (by rfl) ?_
      go_simp
      exact k_of (HK.out (.int .i64 (al + b1.rate - 1)) _ rfl hB (Below.refl _ _)) (by rw [← u1_eq e7]; kernel_rfl)
    · intro _ _ u W hB hv hd K hK
      have HK := Lib.hid hK; clear hK
      refine wpOp_of rfl (by rfl) ?_
      go_simp
      exact k_of (HK.out (.pointer (some ⟨G1, 0, none⟩)) _ rfl hB (Below.refl _ _)) (by kernel_rfl)
    · intro _ _ u W hB hv hd K hK
      have HK := Lib.hid hK; clear hK
      have e9 : u 9 = .pointer (some ⟨G1, 0, none⟩) := hd 9 (by decide +kernel) (by decide) (by decide)
      refine wpOp_of rfl (by rfl) ?_
      have z0 := (h1 W hB.out).cell 0
      go_simp
      exact k_of (HK.out (.int .i64 b1.rate) _ rfl hB (Below.refl _ _)) (by rw [← u1_eq e9]; kernel_rfl)
    · intro _ _ u W hB hv hd K hK
      have HK := Lib.hid hK; clear hK
      have e8 : u 8 = .int .i64 (al + b1.rate - 1) := hd 8 (by decide +kernel) (by decide) (by decide)
      have e10 : u 10 = .int .i64 b1.rate := hd 10 (by decide +kernel) (by decide) (by decide)
      refine wpOp_of rfl (by rfl) ?_
      go_simp
      exact k_of (HK.out (.int .i64 hi) _ rfl hB (Below.refl _ _)) (by rw [← u1_eq e8, ← u1_eq e10]; kernel_rfl)
    · intro _ _ u W hB hv hd K hK
      have HK := Lib.hid hK; clear hK
      have e3 : u 3 = .int .i64 lo := hd 3 (by decide +kernel) (by decide) (by decide)
      have e11 : u 11 = .int .i64 hi := hd 11 (by decide +kernel) (by decide) (by decide)
      refine wpOp_of rfl (by rfl) ?_
      go_simp
      exact k_of (HK.out (.agg #[.int .i64 lo, .int .i64 hi]) _ rfl hB (Below.refl _ _)) (by rw [← u1_eq e3, ← u1_eq e11]; kernel_rfl)
    · intro _ ha; exact absurd (by decide) ha
    · intro _ _ u W hB hv hd K hK
      have HK := Lib.hid hK; clear hK
      refine wpOp_of rfl (by rfl) ?_
      go_simp
      exact k_of (HK.out (.int .i64 0) _ rfl hB (Below.refl _ _)) (by kernel_rfl)
  case done =>
    intro L u W hL hB hd hV
    have hv0 := hV.ok ⟨none, R0, 13, 25, #[.int .i64 0, .int .i64 0], #[.int .i64 lo, .int .i64 hi]⟩ (by simp)
    have hB0 := hv0.2 (R0) ⟨rfl, hg0⟩
    rw [if_pos (hL 13 (by decide))] at hB0
    have e14 : u 14 = .int .i64 0 := hd 14 (by decide) (by decide) (by decide)
    exact k_of (HQ.out u W hB.out hB0) (by simp only [e14])


/-- How long so many grams burn. -/
def minV (g : Int) (a b : Bn) : Int × Int := (600000000 * g / b.rate, (600000000 * g + a.rate - 1) / a.rate)
set_option maxRecDepth 100000 in
set_option maxHeartbeats 2000000 in
theorem min_err {w : World} {p : Sp} {c : Cd} {q : Int} (g : Int) (h : ShIn w p) (he : askE p.s q c ≠ 0) :
    Calls Try.prog 21 #[.agg #[.slice p.ka p.s.ks.length p.kc, .slice p.xa p.s.xs.length p.xc, .int .i64 p.s.flo, .int .i64 p.s.fhi, .int .i64 p.s.plo, .int .i64 p.s.phi], .int .i64 q, .agg #[.int .i64 c.wax, .int .i64 c.dia, .int .i64 c.dra, .int .i64 c.clo, .int .i64 c.chi], .int .i64 g] w fun e w' => e = .returned (.tuple #[.agg #[.int .i64 0, .int .i64 0], .int .i64 (askE p.s q c)]) ∧ Below w.heap.size w w' := by
  have hb0 := (((Bx.nil w).alloc #[.slice p.ka p.s.ks.length p.kc, .slice p.xa p.s.xs.length p.xc, .int .i64 p.s.flo, .int .i64 p.s.fhi, .int .i64 p.s.plo, .int .i64 p.s.phi] 27).alloc #[.int .i64 c.wax, .int .i64 c.dia, .int .i64 c.dra, .int .i64 c.clo, .int .i64 c.chi] 34).alloc #[.int .i64 0, .int .i64 0] 25
  simp only [World.size_alloc] at hb0
  have HB : Hid (Bx w _ _) := Lib.hid hb0
  have HA := Lib.hid (askE_any (k := q) (c := c) (h.on HB.out.b))
  have hz : (askE p.s q c != 0) = true := by simpa using he
  clear h hb0
  generalize askE p.s q c = z at *
  go_enter Try.func21, Try.ntmps21
  go_wp2_with (refine HA.out.mono ?_; rintro e w1 ⟨rfl, hb⟩; have HC := Lib.hid (HB.out.on hb); clear hb; have rb : Blk _ (w.heap.size + 1 + 1) 25 #[.int .i64 0, .int .i64 0] := HC.out.get (by simp); have r0 := rb.cell 0; have r1 := rb.cell 1; have rl := rb.lt; have rf0 := rb.frozen 0; have rf1 := rb.frozen 1; clear rb)
  refine bodyPost_ret (v := .tuple #[.agg #[.int .i64 0, .int .i64 0], .int .i64 z]) ?_ rfl ⟨rfl, ?_⟩
  · simp [results, Try.results21, go_sem, *]
  · repeat (first | (with_reducible exact HC.out.b) | with_reducible refine Below.setCell ?_ (by simp; try omega) _)
set_option maxRecDepth 100000 in
set_option maxHeartbeats 2000000 in
theorem min_no {w : World} {p : Sp} {c : Cd} {q : Int} {g : Int} (h : ShIn w p) (hs : askE p.s q c = 0) (hg : inB g 1 100000 = false) :
    Calls Try.prog 21 #[.agg #[.slice p.ka p.s.ks.length p.kc, .slice p.xa p.s.xs.length p.xc, .int .i64 p.s.flo, .int .i64 p.s.fhi, .int .i64 p.s.plo, .int .i64 p.s.phi], .int .i64 q, .agg #[.int .i64 c.wax, .int .i64 c.dia, .int .i64 c.dra, .int .i64 c.clo, .int .i64 c.chi], .int .i64 g] w fun e w' => e = .returned (.tuple #[.agg #[.int .i64 0, .int .i64 0], .int .i64 7]) ∧ Below w.heap.size w w' := by
  have hb0 := (((Bx.nil w).alloc #[.slice p.ka p.s.ks.length p.kc, .slice p.xa p.s.xs.length p.xc, .int .i64 p.s.flo, .int .i64 p.s.fhi, .int .i64 p.s.plo, .int .i64 p.s.phi] 27).alloc #[.int .i64 c.wax, .int .i64 c.dia, .int .i64 c.dra, .int .i64 c.clo, .int .i64 c.chi] 34).alloc #[.int .i64 0, .int .i64 0] 25
  simp only [World.size_alloc] at hb0
  have HB : Hid (Bx w _ _) := Lib.hid hb0
  have HA := Lib.hid (askE_any (k := q) (c := c) (h.on HB.out.b))
  rw [hs] at HA
  have HI := Lib.hid (fun (W : World) (A : Option Addr) (hI : IntsIn W A [g]) => within_one (c := 1) 1 100000 g hI)
  rw [hg] at HI
  clear h hb0 hs hg
  go_enter Try.func21, Try.ntmps21
  go_wp2_with (first
    | (go_at_call 49; refine HA.out.mono ?_; rintro e w1 ⟨rfl, hb⟩; have HC := Lib.hid (HB.out.on hb); clear hb)
    | (go_at_call 56; (with_reducible refine (HI.out _ _ (ione_in _ _)).mono ?_); rintro e w2 ⟨rfl, hw⟩; have HD := Lib.hid (HC.out.alloc_ #[.int .i64 g] 3); rw [← hw] at HD; clear hw; have rb : Blk _ (w.heap.size + 1 + 1) 25 #[.int .i64 0, .int .i64 0] := HD.out.get (by simp); have r0 := rb.cell 0; have r1 := rb.cell 1; have rl := rb.lt; have rf0 := rb.frozen 0; have rf1 := rb.frozen 1; clear rb)
    | fail)
  refine bodyPost_ret (v := .tuple #[.agg #[.int .i64 0, .int .i64 0], .int .i64 7]) ?_ rfl ⟨rfl, ?_⟩
  · simp [results, Try.results21, go_sem, *]
  · repeat (first | (with_reducible exact HD.out.b) | with_reducible refine Below.setCell ?_ (by simp; try omega) _)
set_option maxRecDepth 100000 in
set_option maxHeartbeats 4000000 in
theorem min_yes {w : World} {p : Sp} {c : Cd} {q : Int} {k : Wk} {x : Wx} {g : Int} (h : ShIn w p) (ha : Ask p.s q c k x) (hs : askE p.s q c = 0) (hg : inB g 1 100000 = true) :
    Calls Try.prog 21 #[.agg #[.slice p.ka p.s.ks.length p.kc, .slice p.xa p.s.xs.length p.xc, .int .i64 p.s.flo, .int .i64 p.s.fhi, .int .i64 p.s.plo, .int .i64 p.s.phi], .int .i64 q, .agg #[.int .i64 c.wax, .int .i64 c.dia, .int .i64 c.dra, .int .i64 c.clo, .int .i64 c.chi], .int .i64 g] w fun e w' => e = .returned (.tuple #[.agg #[.int .i64 (minV g (burn x (weakT k x c)) (burn x (strongT k x c))).1, .int .i64 (minV g (burn x (weakT k x c)) (burn x (strongT k x c))).2], .int .i64 0]) ∧ Below w.heap.size w w' := by
  have hb0 := (((Bx.nil w).alloc #[.slice p.ka p.s.ks.length p.kc, .slice p.xa p.s.xs.length p.xc, .int .i64 p.s.flo, .int .i64 p.s.fhi, .int .i64 p.s.plo, .int .i64 p.s.phi] 27).alloc #[.int .i64 c.wax, .int .i64 c.dia, .int .i64 c.dra, .int .i64 c.clo, .int .i64 c.chi] 34).alloc #[.int .i64 0, .int .i64 0] 25
  simp only [World.size_alloc] at hb0
  have HB : Hid (Bx w _ _) := Lib.hid hb0
  have HA := Lib.hid (askE_any (k := q) (c := c) (h.on HB.out.b))
  rw [hs] at HA
  have HI := Lib.hid (fun (W : World) (A : Option Addr) (hI : IntsIn W A [g]) => within_one (c := 1) 1 100000 g hI)
  rw [hg] at HI
  have HU := Lib.hid (fun (W : World) (hb : Below w.heap.size w W) => burns_any (h.on hb) ha.h0 ha.hk ha.hx ha.ko ha.xo ha.cd)
  have i1 := (burn_in ((weak_ok ha.ko ha.xo ha.cd).in_ ha.ko ha.xo ha.cd) ha.xo).rate
  have i2 := (burn_in ((strong_ok ha.ko ha.xo ha.cd).in_ ha.ko ha.xo ha.cd) ha.xo).rate
  rw [inB_iff] at hg
  clear h hb0 ha hs
  generalize burn x (weakT k x c) = b1 at *
  generalize burn x (strongT k x c) = b2 at *
  have m0 : IntKind.i64.wrap (600000000 * g) = 600000000 * g := IntWalk.i64_in _ (by omega)
  have m3 : 0 ≤ 600000000 * g / b2.rate ∧ 600000000 * g / b2.rate ≤ 60000000000000 := ⟨Int.ediv_nonneg (by omega) (by omega), Int.le_trans (Int.ediv_le_self _ (by omega)) (by omega)⟩
  have m4 : 0 ≤ (600000000 * g + b1.rate - 1) / b1.rate ∧ (600000000 * g + b1.rate - 1) / b1.rate ≤ 70000000000000 := ⟨Int.ediv_nonneg (by omega) (by omega), Int.le_trans (Int.ediv_le_self _ (by omega)) (by omega)⟩
  have w1' : IntKind.i64.wrap ((600000000 * g).tdiv b2.rate) = (minV g b1 b2).1 := by rw [Int.tdiv_eq_ediv_of_nonneg (by omega)]; exact IntWalk.i64_in _ (by omega)
  have w2' : IntKind.i64.wrap (600000000 * g + b1.rate) = 600000000 * g + b1.rate := IntWalk.i64_in _ (by omega)
  have w3' : IntKind.i64.wrap (600000000 * g + b1.rate - 1) = 600000000 * g + b1.rate - 1 := IntWalk.i64_in _ (by omega)
  have w4' : IntKind.i64.wrap ((600000000 * g + b1.rate - 1).tdiv b1.rate) = (minV g b1 b2).2 := by rw [Int.tdiv_eq_ediv_of_nonneg (by omega)]; exact IntWalk.i64_in _ (by omega)
  have HW := Lib.hid (And.intro w1' (And.intro w2' (And.intro w3' w4')))
  have HN : Hid (¬ b1.rate = 0 ∧ ¬ b2.rate = 0) := ⟨by omega, by omega⟩
  clear m3 m4 w1' w2' w3' w4' i1 i2 hg
  generalize (minV g b1 b2).1 = lo at *
  generalize (minV g b1 b2).2 = hi at *
  obtain ⟨al, hal⟩ : ∃ al, 600000000 * g = al := ⟨_, rfl⟩
  rw [hal] at HW
  rw [hal] at m0
  have m1 : IntKind.i64.wrap (600000000 * g) = al := by rw [hal]; exact m0
  clear m0 hal
  go_enter Try.func21, Try.ntmps21
  go_wp2_with (first
    | (go_at_call 49; refine HA.out.mono ?_; rintro e w1 ⟨rfl, hb⟩; have HC := Lib.hid (HB.out.on hb); clear hb)
    | (go_at_call 56; (with_reducible refine (HI.out _ _ (ione_in _ _)).mono ?_); rintro e w2 ⟨rfl, hw⟩; have HD := Lib.hid (HC.out.alloc_ #[.int .i64 g] 3); rw [← hw] at HD; clear hw; have sb : Blk _ (w.heap.size) 27 #[.slice p.ka p.s.ks.length p.kc, .slice p.xa p.s.xs.length p.xc, .int .i64 p.s.flo, .int .i64 p.s.fhi, .int .i64 p.s.plo, .int .i64 p.s.phi] := HD.out.get (by simp); have s0 := sb.cell 0; have s1 := sb.cell 1; have s2 := sb.cell 2; have s3 := sb.cell 3; have s4 := sb.cell 4; have s5 := sb.cell 5; have sl := sb.lt; clear sb; have cb : Blk _ (w.heap.size + 1) 34 #[.int .i64 c.wax, .int .i64 c.dia, .int .i64 c.dra, .int .i64 c.clo, .int .i64 c.chi] := HD.out.get (by simp); have c0 := cb.cell 0; have c1 := cb.cell 1; have c2 := cb.cell 2; have c3 := cb.cell 3; have c4 := cb.cell 4; have cl := cb.lt; clear cb)
    | (go_at_call 55; refine (HU.out _ (HD.out.b.alloc HD.out.b.size _)).mono ?_; rintro e w3 ⟨rfl, hb⟩; have HE := Lib.hid ((HD.out.alloc_ #[.slice p.ka p.s.ks.length p.kc, .slice p.xa p.s.xs.length p.xc, .int .i64 p.s.flo, .int .i64 p.s.fhi, .int .i64 p.s.plo, .int .i64 p.s.phi, .int .i64 c.wax, .int .i64 c.dia, .int .i64 c.dra, .int .i64 c.clo, .int .i64 c.chi] 93).on hb); clear hb s0 s1 s2 s3 s4 s5 sl c0 c1 c2 c3 c4 cl)
    | fail)
  have hd0 := (HE.out.alloc #[.int .i64 b1.rate, .int .i64 b1.flame, .int .i64 b1.pool] 40).alloc #[.int .i64 b2.rate, .int .i64 b2.flame, .int .i64 b2.pool] 40
  simp only [World.size_alloc] at hd0
  have hn : w.heap.size + 3 ≤ w3.heap.size := by have hz : Blk w3 (w.heap.size + 1 + 1) 25 #[.int .i64 0, .int .i64 0] := HE.out.get (by simp); have := hz.lt; omega
  refine wp_of_eq (mi9_region (S := fun W => (Blk W w3.heap.size 40 #[.int .i64 b1.rate, .int .i64 b1.flame, .int .i64 b1.pool] ∧ Blk W (w3.heap.size + 1) 40 #[.int .i64 b2.rate, .int .i64 b2.flame, .int .i64 b2.pool]) ∧ SB w (w3.heap.size + 2) W) (N := w3.heap.size + 2) (G1 := w3.heap.size) (G2 := w3.heap.size + 1) (R0 := w.heap.size + 1 + 1) (al := al) (lo := lo) (hi := hi) (b1 := b1) (b2 := b2) HW.out.1 HW.out.2.1 HW.out.2.2.1 HW.out.2.2.2 HN.out.1 HN.out.2 (fun W h => h.1.1) (fun W h => h.1.2)
    (fun _ _ h hb => ⟨⟨h.1.1.on hb, h.1.2.on hb⟩, h.2.on hb⟩) (fun W W' G h hg hG => ⟨⟨h.1.1.grown_ hg (by omega), h.1.2.grown_ hg (by omega)⟩, h.2.put hg (by omega)⟩) (fun W h => h.2.n) (Lib.hid ⟨⟨hd0.get (by simp), hd0.get (by simp)⟩, hd0.b, by simp⟩) (hd0.get (by simp)) (by omega) (Lib.hid fun u W hS hR => ?_)) (by kernel_rfl)
  have hF := Lib.hid hS.2.b
  have a0 := hR.cell 0; have a1 := hR.cell 1
  clear hS hR hd0
  go_wp2_with fail
  refine bodyPost_ret (v := .tuple #[.agg #[.int .i64 lo, .int .i64 hi], .int .i64 0]) ?_ rfl ⟨rfl, hF.out⟩
  simp [results, Try.results21, go_sem, a0, a1]
end Go.Proofs.Ytkjfommdeljefaa
