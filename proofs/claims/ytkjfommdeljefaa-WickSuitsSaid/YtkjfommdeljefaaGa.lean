/- Layer wick, a part: names and errors of wicks and waxes. No statement is proved here. -/
import Derived.Test.YtkjfommdeljefaaQv
import Derived.Test.YtkjfommdeljefaaQn
import Derived.Test.YtkjfommdeljefaaQb
namespace Go.Proofs.Ytkjfommdeljefaa
open Go.RowKit Go.Shelf Go.Maps
attribute [local go_sem] Oper.semAt_some

/-- Boxes of a call's own, and what was there ahead of it. -/
structure Bx (w : World) (l : List (Nat × TypeId × Array Value)) (W : World) : Prop where
  b : Below w.heap.size w W
  at_ : ∀ q ∈ l, w.heap.size ≤ q.1 ∧ Blk W q.1 q.2.1 q.2.2
theorem Bx.nil (w : World) : Bx w [] w := ⟨Below.refl _ _, fun _ h => by cases h⟩
theorem Bx.on {w W W' : World} {l : List (Nat × TypeId × Array Value)} (h : Bx w l W) (hb : Below W.heap.size W W') : Bx w l W' := ⟨h.b.trans (hb.mono h.b.size), fun q hq => ⟨(h.at_ q hq).1, (h.at_ q hq).2.on hb⟩⟩
theorem Bx.drew {w W : World} {l : List (Nat × TypeId × Array Value)} (h : Bx w l W) : Bx w l W.drew := h.on (Below.refl _ _).drew
theorem Bx.drewN {w W : World} {l : List (Nat × TypeId × Array Value)} (h : Bx w l W) (n : Nat) : Bx w l (W.drewN n) := h.on (below_drewN' (Below.refl _ _) n)
theorem Bx.alloc {w W : World} {l : List (Nat × TypeId × Array Value)} (h : Bx w l W) (cs : Array Value) (T : TypeId) : Bx w ((W.heap.size, T, cs) :: l) (W.alloc (.cells cs T)) := by
  have hb : Below W.heap.size W (W.alloc (.cells cs T)) := (Below.refl _ W).alloc (Nat.le_refl _) _
  refine ⟨h.b.trans (hb.mono h.b.size), fun q hq => ?_⟩
  rcases List.mem_cons.1 hq with rfl | hq
  · exact ⟨h.b.size, Blk.new _ _ _⟩
  · exact ⟨(h.at_ q hq).1, (h.at_ q hq).2.on hb⟩
theorem Bx.get {w W : World} {l : List (Nat × TypeId × Array Value)} (h : Bx w l W) {g : Nat} {T : TypeId} {cs : Array Value} (hm : (g, T, cs) ∈ l) : Blk W g T cs := (h.at_ _ hm).2
theorem Bx.put {w W W' : World} {l : List (Nat × TypeId × Array Value)} (h : Bx w l W) {G : Nat} (hg : W.grownBy W' (some G)) (hG : w.heap.size ≤ G) (hn : ∀ q ∈ l, q.1 ≠ G) : Bx w l W' :=
  ⟨h.b.grown hg h.b.size (fun k e => by cases e; exact hG), fun q hq => ⟨(h.at_ q hq).1, (hg.block _ (h.at_ q hq).2.lt (fun e => hn q hq (by simpa using e))).trans (h.at_ q hq).2⟩⟩
theorem Bx.add {w W : World} {l : List (Nat × TypeId × Array Value)} (h : Bx w l W) {g : Nat} {T : TypeId} {cs : Array Value} (hk : Blk W g T cs) (hg : w.heap.size ≤ g) : Bx w ((g, T, cs) :: l) W :=
  ⟨h.b, fun q hq => by
    rcases List.mem_cons.1 hq with rfl | hq
    · exact ⟨hg, hk⟩
    · exact h.at_ q hq⟩

theorem nameWk_any (x : Wk) (w : World) :
    Calls Try.prog 69 #[.agg #[.string x.nm, .int .i64 x.th, .int .i64 x.plo, .int .i64 x.phi]] w fun e w' => e = .returned (.string x.nm) ∧ Below w.heap.size w w' := by
  have HB := Lib.hid ((Below.refl _ w).alloc (Nat.le_refl _) (.cells #[.string x.nm, .int .i64 x.th, .int .i64 x.plo, .int .i64 x.phi] 74))
  go_enter Try.func69, Try.ntmps69
  go_wp2_with fail
  go_ret
  exact ⟨rfl, HB.out⟩

/-- What each operation leaves. -/
def neWkF (b o c i n : Nat) (x : Wk) : Nat → Value → Prop
  | 0, v => v = .func (.func 69) #[] #[]
  | 1, v => v = .slice (some ⟨b, o, none⟩) n c
  | 2, v => v = .int .i64 (i : Int)
  | 3, v => v = .pointer (some ⟨b, o + i * 4, none⟩)
  | 4, v => v = .agg #[.string x.nm, .int .i64 x.th, .int .i64 x.plo, .int .i64 x.phi]
  | 5, v => v = .string x.nm
  | 6, _ => True
  | 7, _ => True
  | _, _ => True
set_option maxRecDepth 100000 in
set_option maxHeartbeats 8000000 in
theorem neWk_region {b o c i n P N : Nat} {x : Wk} {S : World → Prop} (hi : (i : Int) < n) (hf : ∀ W, S W → Blk W P 117 #[.func (.func 69) #[] #[]]) (hx : ∀ W, S W → W.cell? ⟨b, o + i * 4, none⟩ = some (.string x.nm) ∧ W.cell? ⟨b, o + i * 4 + 1, none⟩ = some (.int .i64 x.th) ∧ W.cell? ⟨b, o + i * 4 + 2, none⟩ = some (.int .i64 x.plo) ∧ W.cell? ⟨b, o + i * 4 + 3, none⟩ = some (.int .i64 x.phi)) (hon : ∀ W W', S W → Below W.heap.size W W' → S W') (hput : ∀ W W' G, S W → W.grownBy W' (some G) → (N ≤ G) → S W') (hN : ∀ W, S W → N ≤ W.heap.size) {Q : Exit → Act → World → Prop} {s2 s3 s4 s6 s14 s15 s16 s17 s18 s19 s20 s21 s22 s23 : Value} {W0 : World} (HL : Hid (S W0))
    (HQ : Hid (∀ (u : Nat → Value) (G0 : Nat) (W : World), S W → N ≤ G0 → Blk W (G0) 9 #[.string x.nm] → Q .normal ⟨#[.slice (some ⟨b, o, none⟩) n c, .int .i64 (i : Int), s2, s3, s4, .pointer (some ⟨P, 0, none⟩), s6, .pointer (some ⟨G0, 0, none⟩), u 0, u 1, u 2, u 3, u 4, u 5, s14, s15, s16, s17, s18, s19, s20, s21, s22, s23], []⟩ W)) :
    Code.wp Try.prog ((Try.f68.body.bind (regionAt 1)).getD .skip) Q ⟨#[.slice (some ⟨b, o, none⟩) n c, .int .i64 (i : Int), s2, s3, s4, .pointer (some ⟨P, 0, none⟩), s6, undef, undef, undef, undef, undef, undef, undef, s14, s15, s16, s17, s18, s19, s20, s21, s22, s23], []⟩ W0 := by
  conv => arg 2; whnf
  refine wp_region_vars (by kernel_rfl) 8 (by kernel_rfl) (fun u => ⟨#[.slice (some ⟨b, o, none⟩) n c, .int .i64 (i : Int), s2, s3, s4, .pointer (some ⟨P, 0, none⟩), s6, u 6, u 0, u 1, u 2, u 3, u 4, u 5, s14, s15, s16, s17, s18, s19, s20, s21, s22, s23], []⟩) (fun i => undef) (fun W => Hid (S W)) (neWkF b o c i n x) (N) [⟨some 6, 0, 7, 9, #[.string ⟨#[]⟩], #[.string x.nm]⟩] [6] [7] rfl rfl (by kernel_rfl) (hon _ _ HL.out (Below.refl _ _).drew) ?hV (fun W h => hN W h.out) ?hg (by decide +kernel) (fun W W' h hb => hon W W' h.out hb) ?hp ?hA ?hP (by decide) (by decide) (by decide) (by decide) (by decide) ?step ?done
  case hV =>
    refine ⟨fun q hq => ⟨fun a e hl => (by cases hl), fun G hG => ?_⟩, fun q hq r hr hne G h1 h2 => ?_⟩
    · simp only [List.mem_cons, List.not_mem_nil, or_false] at hq
      rcases hq with rfl
      · exact absurd hG.1 (by decide)
    · simp only [List.mem_cons, List.not_mem_nil, or_false] at hq
      rcases hq with rfl
      · exact absurd h1.1 (by decide)
  case hg =>
    intro q hq ha
    simp only [List.mem_cons, List.not_mem_nil, or_false] at hq
    rcases hq with rfl
    · cases ha
  case hp =>
    intro W W' G h hg hG
    refine hput W W' G h.out hg ?_
    rcases hG with h1 | ⟨q, hq, ha, h2⟩
    · exact h1
    · simp only [List.mem_cons, List.not_mem_nil, or_false] at hq
      rcases hq with rfl
      · cases ha
  case hA =>
    intro q hq i ha
    simp only [List.mem_cons, List.not_mem_nil, or_false] at hq
    rcases hq with rfl
    · cases ha
      refine ⟨by show _ ∈ waits _ _ 7; decide +kernel, fun u W hB K hK => ?_⟩
      have HK := Lib.hid hK; clear hK
      refine wpOp_of rfl (by rfl) ?_
      go_simp
      exact k_of HK.out (by kernel_rfl)
  case hP =>
    intro q hq u W hB hd G hG hb K hK
    have HK := Lib.hid hK; clear hK
    simp only [List.mem_cons, List.not_mem_nil, or_false] at hq
    rcases hq with rfl
    · obtain ⟨-, eG, hle⟩ := hG
      replace eG : u 6 = .pointer (some ⟨G, 0, none⟩) := eG
      replace hd : ∀ j ∈ waits .any _ 7, j ∉ [6] → j ∉ [7] → neWkF b o c i n x j (u j) := hd
      have e5 : u 5 = .string x.nm := hd 5 (by decide +kernel) (by decide) (by decide)
      replace hb : Blk W G 9 #[.string ⟨#[]⟩] := hb
      have hb2 := (hb).set_ 0 (.string x.nm)
      simp only [List.setIfInBounds_toArray, List.set_cons_zero] at hb2
      have hg2 : W.grownBy _ (some (G)) := grown_more (World.grownBy.refl W (some G)) 0 (.string x.nm)
      have fz0 := hb.frozen 0
      have cl0 := hb.cell 0
      have gl := hb.lt
      have HB2 := Lib.hid hb2
      have HG2 := Lib.hid hg2
      clear hb2 hg2
      refine wpOp_of rfl (by rfl) ?_
      go_simp
      exact k_of (HK.out _ HB2.out HG2.out) (by rw [← u1_eq eG, ← u1_eq e5] <;> kernel_rfl)
  case step =>
    iterate 8 (refine all_succ ?_ ?_)
    · exact all_zero
    · intro _ _ u W hB hv hd K hK
      have HK := Lib.hid hK; clear hK
      refine wpOp_of rfl (by rfl) ?_
      have t0 := (hf W hB.out).cell 0
      go_simp
      exact k_of (HK.out (.func (.func 69) #[] #[]) _ rfl hB (Below.refl _ _)) (by kernel_rfl)
    · intro _ _ u W hB hv hd K hK
      have HK := Lib.hid hK; clear hK
      refine wpOp_of rfl (by rfl) ?_
      go_simp
      exact k_of (HK.out (.slice (some ⟨b, o, none⟩) n c) _ rfl hB (Below.refl _ _)) (by kernel_rfl)
    · intro _ _ u W hB hv hd K hK
      have HK := Lib.hid hK; clear hK
      refine wpOp_of rfl (by rfl) ?_
      go_simp
      exact k_of (HK.out (.int .i64 (i : Int)) _ rfl hB (Below.refl _ _)) (by kernel_rfl)
    · intro _ _ u W hB hv hd K hK
      have HK := Lib.hid hK; clear hK
      have e1 : u 1 = .slice (some ⟨b, o, none⟩) n c := hd 1 (by decide +kernel) (by decide) (by decide)
      have e2 : u 2 = .int .i64 (i : Int) := hd 2 (by decide +kernel) (by decide) (by decide)
      refine wpOp_of rfl (by rfl) ?_
      go_simp
      exact k_of (HK.out (.pointer (some ⟨b, o + i * 4, none⟩)) _ rfl hB (Below.refl _ _)) (by rw [← u1_eq e1, ← u1_eq e2]; kernel_rfl)
    · intro _ _ u W hB hv hd K hK
      have HK := Lib.hid hK; clear hK
      have e3 : u 3 = .pointer (some ⟨b, o + i * 4, none⟩) := hd 3 (by decide +kernel) (by decide) (by decide)
      refine wpOp_of rfl (by rfl) ?_
      obtain ⟨c0, c1, c2, c3⟩ := hx W hB.out
      go_simp
      exact k_of (HK.out (.agg #[.string x.nm, .int .i64 x.th, .int .i64 x.plo, .int .i64 x.phi]) _ rfl hB (Below.refl _ _)) (by rw [← u1_eq e3]; kernel_rfl)
    · intro _ _ u W hB hv hd K hK
      have HK := Lib.hid hK; clear hK
      have e0 : u 0 = .func (.func 69) #[] #[] := hd 0 (by decide +kernel) (by decide) (by decide)
      have e4 : u 4 = .agg #[.string x.nm, .int .i64 x.th, .int .i64 x.plo, .int .i64 x.phi] := hd 4 (by decide +kernel) (by decide) (by decide)
      refine wpOp_of rfl (by rfl) ?_
      have eg : ∀ args w, (callFunc 69 args).run Try.prog w = .ok (.enter 69 args) w := enters_of Try.func69 (by kernel_rfl) rfl
      go_simp
      refine (nameWk_any x W).mono ?_
      rintro e w' ⟨rfl, hb⟩
      exact k_of (HK.out (.string x.nm) _ rfl (hon _ _ hB.out hb) hb) (by rw [← u1_eq e0, ← u1_eq e4]; kernel_rfl)
    · intro ha; exact absurd (by decide) ha
    · intro _ ha; exact absurd (by decide) ha
  case done =>
    intro L u W hL hB hd hV
    have hv0 := hV.ok ⟨some 6, 0, 7, 9, #[.string ⟨#[]⟩], #[.string x.nm]⟩ (by simp)
    obtain ⟨G0, eG0, hN0⟩ := hv0.1 6 rfl (hL 6 (by decide))
    have hB0 := hv0.2 G0 ⟨hL 6 (by decide), eG0, hN0⟩
    rw [if_pos (hL 7 (by decide))] at hB0
    exact k_of (HQ.out u G0 W hB.out hN0 hB0) (by simp only [eG0])

/-- What each operation leaves. -/
def ncWkR (x : Wk) (own : ByteArray) : Nat → Value → World → Prop
  | 0, v, _ => v = .func (.func 69) #[] #[]
  | 1, v, _ => v = .agg #[.string x.nm, .int .i64 x.th, .int .i64 x.plo, .int .i64 x.phi]
  | 2, v, _ => v = .string x.nm
  | 3, v, _ => v = .string own
  | 4, v, _ => v = .bool (x.nm.toList == own.toList)
  | 5, v, _ => v = .bool (x.nm.toList == own.toList)
  | _, _, _ => True
theorem ncWkR_on (x : Wk) (own : ByteArray) : ∀ i, i < 6 → ∀ v W W', ncWkR x own i v W → Below W.heap.size W W' → ncWkR x own i v W' := by
  iterate 6 (refine all_succ ?_ ?_)
  · exact all_zero
  · exact fun _ _ _ h _ => h
  · exact fun _ _ _ h _ => h
  · exact fun _ _ _ h _ => h
  · exact fun _ _ _ h _ => h
  · exact fun _ _ _ h _ => h
  · exact fun _ _ _ h _ => h
set_option maxRecDepth 100000 in
set_option maxHeartbeats 8000000 in
theorem ncWk_region {S : World → Prop} (hon : ∀ W W', S W → Below W.heap.size W W' → S W') {P1 P2 B : Nat} {x : Wk} {own : ByteArray} (hf : ∀ W, S W → Blk W P1 117 #[.func (.func 69) #[] #[]]) (ho : ∀ W, S W → Blk W P2 9 #[.string own]) (hx : ∀ W, S W → Blk W B 74 #[.string x.nm, .int .i64 x.th, .int .i64 x.plo, .int .i64 x.phi]) {Q : Exit → Act → World → Prop} {s0 : Value} {W0 : World} (HL : Hid (S W0))
    (HQ : Hid (∀ (u : Nat → Value) (W : World), S W → Q .normal ⟨#[s0, .pointer (some ⟨P1, 0, none⟩), .pointer (some ⟨P2, 0, none⟩), .pointer (some ⟨B, 0, none⟩), .bool (x.nm.toList == own.toList), u 0, u 1, u 2, u 3, u 4], []⟩ W)) :
    Code.wp Try.prog ((Try.f97.body.bind (regionAt 1)).getD .skip) Q ⟨#[s0, .pointer (some ⟨P1, 0, none⟩), .pointer (some ⟨P2, 0, none⟩), .pointer (some ⟨B, 0, none⟩), .bool false, undef, undef, undef, undef, undef], []⟩ W0 := by
  conv => arg 2; whnf
  refine wp_region_spec (by kernel_rfl) 6 (by kernel_rfl) (fun u => ⟨#[s0, .pointer (some ⟨P1, 0, none⟩), .pointer (some ⟨P2, 0, none⟩), .pointer (some ⟨B, 0, none⟩), u 5, u 0, u 1, u 2, u 3, u 4], []⟩) (fun i => if i = 5 then .bool false else undef) (fun W => Hid (S W)) (ncWkR x own) (by kernel_rfl) (hon _ _ HL.out (Below.refl _ _).drew) (fun i v W W2 hi h hb => ncWkR_on x own i hi v W W2 h hb) (by decide +kernel) ?_ ?_
  · iterate 6 (refine all_succ ?_ ?_)
    · exact all_zero
    · intro u W hB _ hd _ K hK
      have HK := Lib.hid hK; clear hK
      refine wpOp_of rfl (by rfl) ?_
      have t0 := (hf W hB.out).cell 0
      go_simp
      exact k_of (HK.out (.func (.func 69) #[] #[]) _ rfl hB (Below.refl _ _)) (by kernel_rfl)
    · intro u W hB _ hd _ K hK
      have HK := Lib.hid hK; clear hK
      refine wpOp_of rfl (by rfl) ?_
      have x0 := (hx W hB.out).cell 0; have x1 := (hx W hB.out).cell 1; have x2 := (hx W hB.out).cell 2; have x3 := (hx W hB.out).cell 3
      go_simp
      exact k_of (HK.out (.agg #[.string x.nm, .int .i64 x.th, .int .i64 x.plo, .int .i64 x.phi]) _ rfl hB (Below.refl _ _)) (by kernel_rfl)
    · intro u W hB _ hd _ K hK
      have HK := Lib.hid hK; clear hK
      have e0 : u 0 = .func (.func 69) #[] #[] := hd 0 (by decide +kernel)
      have e1 : u 1 = .agg #[.string x.nm, .int .i64 x.th, .int .i64 x.plo, .int .i64 x.phi] := hd 1 (by decide +kernel)
      refine wpOp_of rfl (by rfl) ?_
      have eg : ∀ args w, (callFunc 69 args).run Try.prog w = .ok (.enter 69 args) w := enters_of Try.func69 (by kernel_rfl) rfl
      go_simp
      refine (nameWk_any x W).mono ?_
      rintro e w' ⟨rfl, hb⟩
      exact k_of (HK.out (.string x.nm) _ rfl (hon _ _ hB.out hb) hb) (by rw [← u1_eq e0, ← u1_eq e1]; kernel_rfl)
    · intro u W hB _ hd _ K hK
      have HK := Lib.hid hK; clear hK
      refine wpOp_of rfl (by rfl) ?_
      have y0 := (ho W hB.out).cell 0
      go_simp
      exact k_of (HK.out (.string own) _ rfl hB (Below.refl _ _)) (by kernel_rfl)
    · intro u W hB _ hd _ K hK
      have HK := Lib.hid hK; clear hK
      have e2 : u 2 = .string x.nm := hd 2 (by decide +kernel)
      have e3 : u 3 = .string own := hd 3 (by decide +kernel)
      refine wpOp_of rfl (by rfl) ?_
      go_simp
      exact k_of (HK.out (.bool (x.nm.toList == own.toList)) _ rfl hB (Below.refl _ _)) (by rw [← u1_eq e2, ← u1_eq e3]; kernel_rfl)
    · intro u W hB _ hd _ K hK
      have HK := Lib.hid hK; clear hK
      have e4 : u 4 = .bool (x.nm.toList == own.toList) := hd 4 (by decide +kernel)
      refine wpOp_of rfl (by rfl) ?_
      go_simp
      exact k_of (HK.out (.bool (x.nm.toList == own.toList)) _ rfl hB (Below.refl _ _)) (by rw [← u1_eq e4]; kernel_rfl)
  · intro u W hB hd
    have e5 : u 5 = .bool (x.nm.toList == own.toList) := hd 5 (by decide)
    exact k_of (HQ.out u W hB.out) (by simp only [e5])

theorem nameWx_any (x : Wx) (w : World) :
    Calls Try.prog 71 #[.agg #[.string x.nm, .int .i64 x.flo, .int .i64 x.fhi, .int .i64 x.rlo, .int .i64 x.rhi, .int .i64 x.slo, .int .i64 x.shi, .int .i64 x.ch]] w fun e w' => e = .returned (.string x.nm) ∧ Below w.heap.size w w' := by
  have HB := Lib.hid ((Below.refl _ w).alloc (Nat.le_refl _) (.cells #[.string x.nm, .int .i64 x.flo, .int .i64 x.fhi, .int .i64 x.rlo, .int .i64 x.rhi, .int .i64 x.slo, .int .i64 x.shi, .int .i64 x.ch] 80))
  go_enter Try.func71, Try.ntmps71
  go_wp2_with fail
  go_ret
  exact ⟨rfl, HB.out⟩

/-- What each operation leaves. -/
def neWxF (b o c i n : Nat) (x : Wx) : Nat → Value → Prop
  | 0, v => v = .func (.func 71) #[] #[]
  | 1, v => v = .slice (some ⟨b, o, none⟩) n c
  | 2, v => v = .int .i64 (i : Int)
  | 3, v => v = .pointer (some ⟨b, o + i * 8, none⟩)
  | 4, v => v = .agg #[.string x.nm, .int .i64 x.flo, .int .i64 x.fhi, .int .i64 x.rlo, .int .i64 x.rhi, .int .i64 x.slo, .int .i64 x.shi, .int .i64 x.ch]
  | 5, v => v = .string x.nm
  | 6, _ => True
  | 7, _ => True
  | _, _ => True
set_option maxRecDepth 100000 in
set_option maxHeartbeats 8000000 in
theorem neWx_region {b o c i n P N : Nat} {x : Wx} {S : World → Prop} (hi : (i : Int) < n) (hf : ∀ W, S W → Blk W P 119 #[.func (.func 71) #[] #[]]) (hx : ∀ W, S W → W.cell? ⟨b, o + i * 8, none⟩ = some (.string x.nm) ∧ W.cell? ⟨b, o + i * 8 + 1, none⟩ = some (.int .i64 x.flo) ∧ W.cell? ⟨b, o + i * 8 + 2, none⟩ = some (.int .i64 x.fhi) ∧ W.cell? ⟨b, o + i * 8 + 3, none⟩ = some (.int .i64 x.rlo) ∧ W.cell? ⟨b, o + i * 8 + 4, none⟩ = some (.int .i64 x.rhi) ∧ W.cell? ⟨b, o + i * 8 + 5, none⟩ = some (.int .i64 x.slo) ∧ W.cell? ⟨b, o + i * 8 + 6, none⟩ = some (.int .i64 x.shi) ∧ W.cell? ⟨b, o + i * 8 + 7, none⟩ = some (.int .i64 x.ch)) (hon : ∀ W W', S W → Below W.heap.size W W' → S W') (hput : ∀ W W' G, S W → W.grownBy W' (some G) → (N ≤ G) → S W') (hN : ∀ W, S W → N ≤ W.heap.size) {Q : Exit → Act → World → Prop} {s2 s3 s4 s6 s14 s15 s16 s17 s18 s19 s20 s21 s22 s23 : Value} {W0 : World} (HL : Hid (S W0))
    (HQ : Hid (∀ (u : Nat → Value) (G0 : Nat) (W : World), S W → N ≤ G0 → Blk W (G0) 9 #[.string x.nm] → Q .normal ⟨#[.slice (some ⟨b, o, none⟩) n c, .int .i64 (i : Int), s2, s3, s4, .pointer (some ⟨P, 0, none⟩), s6, .pointer (some ⟨G0, 0, none⟩), u 0, u 1, u 2, u 3, u 4, u 5, s14, s15, s16, s17, s18, s19, s20, s21, s22, s23], []⟩ W)) :
    Code.wp Try.prog ((Try.f70.body.bind (regionAt 1)).getD .skip) Q ⟨#[.slice (some ⟨b, o, none⟩) n c, .int .i64 (i : Int), s2, s3, s4, .pointer (some ⟨P, 0, none⟩), s6, undef, undef, undef, undef, undef, undef, undef, s14, s15, s16, s17, s18, s19, s20, s21, s22, s23], []⟩ W0 := by
  conv => arg 2; whnf
  refine wp_region_vars (by kernel_rfl) 8 (by kernel_rfl) (fun u => ⟨#[.slice (some ⟨b, o, none⟩) n c, .int .i64 (i : Int), s2, s3, s4, .pointer (some ⟨P, 0, none⟩), s6, u 6, u 0, u 1, u 2, u 3, u 4, u 5, s14, s15, s16, s17, s18, s19, s20, s21, s22, s23], []⟩) (fun i => undef) (fun W => Hid (S W)) (neWxF b o c i n x) (N) [⟨some 6, 0, 7, 9, #[.string ⟨#[]⟩], #[.string x.nm]⟩] [6] [7] rfl rfl (by kernel_rfl) (hon _ _ HL.out (Below.refl _ _).drew) ?hV (fun W h => hN W h.out) ?hg (by decide +kernel) (fun W W' h hb => hon W W' h.out hb) ?hp ?hA ?hP (by decide) (by decide) (by decide) (by decide) (by decide) ?step ?done
  case hV =>
    refine ⟨fun q hq => ⟨fun a e hl => (by cases hl), fun G hG => ?_⟩, fun q hq r hr hne G h1 h2 => ?_⟩
    · simp only [List.mem_cons, List.not_mem_nil, or_false] at hq
      rcases hq with rfl
      · exact absurd hG.1 (by decide)
    · simp only [List.mem_cons, List.not_mem_nil, or_false] at hq
      rcases hq with rfl
      · exact absurd h1.1 (by decide)
  case hg =>
    intro q hq ha
    simp only [List.mem_cons, List.not_mem_nil, or_false] at hq
    rcases hq with rfl
    · cases ha
  case hp =>
    intro W W' G h hg hG
    refine hput W W' G h.out hg ?_
    rcases hG with h1 | ⟨q, hq, ha, h2⟩
    · exact h1
    · simp only [List.mem_cons, List.not_mem_nil, or_false] at hq
      rcases hq with rfl
      · cases ha
  case hA =>
    intro q hq i ha
    simp only [List.mem_cons, List.not_mem_nil, or_false] at hq
    rcases hq with rfl
    · cases ha
      refine ⟨by show _ ∈ waits _ _ 7; decide +kernel, fun u W hB K hK => ?_⟩
      have HK := Lib.hid hK; clear hK
      refine wpOp_of rfl (by rfl) ?_
      go_simp
      exact k_of HK.out (by kernel_rfl)
  case hP =>
    intro q hq u W hB hd G hG hb K hK
    have HK := Lib.hid hK; clear hK
    simp only [List.mem_cons, List.not_mem_nil, or_false] at hq
    rcases hq with rfl
    · obtain ⟨-, eG, hle⟩ := hG
      replace eG : u 6 = .pointer (some ⟨G, 0, none⟩) := eG
      replace hd : ∀ j ∈ waits .any _ 7, j ∉ [6] → j ∉ [7] → neWxF b o c i n x j (u j) := hd
      have e5 : u 5 = .string x.nm := hd 5 (by decide +kernel) (by decide) (by decide)
      replace hb : Blk W G 9 #[.string ⟨#[]⟩] := hb
      have hb2 := (hb).set_ 0 (.string x.nm)
      simp only [List.setIfInBounds_toArray, List.set_cons_zero] at hb2
      have hg2 : W.grownBy _ (some (G)) := grown_more (World.grownBy.refl W (some G)) 0 (.string x.nm)
      have fz0 := hb.frozen 0
      have cl0 := hb.cell 0
      have gl := hb.lt
      have HB2 := Lib.hid hb2
      have HG2 := Lib.hid hg2
      clear hb2 hg2
      refine wpOp_of rfl (by rfl) ?_
      go_simp
      exact k_of (HK.out _ HB2.out HG2.out) (by rw [← u1_eq eG, ← u1_eq e5] <;> kernel_rfl)
  case step =>
    iterate 8 (refine all_succ ?_ ?_)
    · exact all_zero
    · intro _ _ u W hB hv hd K hK
      have HK := Lib.hid hK; clear hK
      refine wpOp_of rfl (by rfl) ?_
      have t0 := (hf W hB.out).cell 0
      go_simp
      exact k_of (HK.out (.func (.func 71) #[] #[]) _ rfl hB (Below.refl _ _)) (by kernel_rfl)
    · intro _ _ u W hB hv hd K hK
      have HK := Lib.hid hK; clear hK
      refine wpOp_of rfl (by rfl) ?_
      go_simp
      exact k_of (HK.out (.slice (some ⟨b, o, none⟩) n c) _ rfl hB (Below.refl _ _)) (by kernel_rfl)
    · intro _ _ u W hB hv hd K hK
      have HK := Lib.hid hK; clear hK
      refine wpOp_of rfl (by rfl) ?_
      go_simp
      exact k_of (HK.out (.int .i64 (i : Int)) _ rfl hB (Below.refl _ _)) (by kernel_rfl)
    · intro _ _ u W hB hv hd K hK
      have HK := Lib.hid hK; clear hK
      have e1 : u 1 = .slice (some ⟨b, o, none⟩) n c := hd 1 (by decide +kernel) (by decide) (by decide)
      have e2 : u 2 = .int .i64 (i : Int) := hd 2 (by decide +kernel) (by decide) (by decide)
      refine wpOp_of rfl (by rfl) ?_
      go_simp
      exact k_of (HK.out (.pointer (some ⟨b, o + i * 8, none⟩)) _ rfl hB (Below.refl _ _)) (by rw [← u1_eq e1, ← u1_eq e2]; kernel_rfl)
    · intro _ _ u W hB hv hd K hK
      have HK := Lib.hid hK; clear hK
      have e3 : u 3 = .pointer (some ⟨b, o + i * 8, none⟩) := hd 3 (by decide +kernel) (by decide) (by decide)
      refine wpOp_of rfl (by rfl) ?_
      obtain ⟨c0, c1, c2, c3, c4, c5, c6, c7⟩ := hx W hB.out
      go_simp
      exact k_of (HK.out (.agg #[.string x.nm, .int .i64 x.flo, .int .i64 x.fhi, .int .i64 x.rlo, .int .i64 x.rhi, .int .i64 x.slo, .int .i64 x.shi, .int .i64 x.ch]) _ rfl hB (Below.refl _ _)) (by rw [← u1_eq e3]; kernel_rfl)
    · intro _ _ u W hB hv hd K hK
      have HK := Lib.hid hK; clear hK
      have e0 : u 0 = .func (.func 71) #[] #[] := hd 0 (by decide +kernel) (by decide) (by decide)
      have e4 : u 4 = .agg #[.string x.nm, .int .i64 x.flo, .int .i64 x.fhi, .int .i64 x.rlo, .int .i64 x.rhi, .int .i64 x.slo, .int .i64 x.shi, .int .i64 x.ch] := hd 4 (by decide +kernel) (by decide) (by decide)
      refine wpOp_of rfl (by rfl) ?_
      have eg : ∀ args w, (callFunc 71 args).run Try.prog w = .ok (.enter 71 args) w := enters_of Try.func71 (by kernel_rfl) rfl
      go_simp
      refine (nameWx_any x W).mono ?_
      rintro e w' ⟨rfl, hb⟩
      exact k_of (HK.out (.string x.nm) _ rfl (hon _ _ hB.out hb) hb) (by rw [← u1_eq e0, ← u1_eq e4]; kernel_rfl)
    · intro ha; exact absurd (by decide) ha
    · intro _ ha; exact absurd (by decide) ha
  case done =>
    intro L u W hL hB hd hV
    have hv0 := hV.ok ⟨some 6, 0, 7, 9, #[.string ⟨#[]⟩], #[.string x.nm]⟩ (by simp)
    obtain ⟨G0, eG0, hN0⟩ := hv0.1 6 rfl (hL 6 (by decide))
    have hB0 := hv0.2 G0 ⟨hL 6 (by decide), eG0, hN0⟩
    rw [if_pos (hL 7 (by decide))] at hB0
    exact k_of (HQ.out u G0 W hB.out hN0 hB0) (by simp only [eG0])

/-- What each operation leaves. -/
def ncWxR (x : Wx) (own : ByteArray) : Nat → Value → World → Prop
  | 0, v, _ => v = .func (.func 71) #[] #[]
  | 1, v, _ => v = .agg #[.string x.nm, .int .i64 x.flo, .int .i64 x.fhi, .int .i64 x.rlo, .int .i64 x.rhi, .int .i64 x.slo, .int .i64 x.shi, .int .i64 x.ch]
  | 2, v, _ => v = .string x.nm
  | 3, v, _ => v = .string own
  | 4, v, _ => v = .bool (x.nm.toList == own.toList)
  | 5, v, _ => v = .bool (x.nm.toList == own.toList)
  | _, _, _ => True
theorem ncWxR_on (x : Wx) (own : ByteArray) : ∀ i, i < 6 → ∀ v W W', ncWxR x own i v W → Below W.heap.size W W' → ncWxR x own i v W' := by
  iterate 6 (refine all_succ ?_ ?_)
  · exact all_zero
  · exact fun _ _ _ h _ => h
  · exact fun _ _ _ h _ => h
  · exact fun _ _ _ h _ => h
  · exact fun _ _ _ h _ => h
  · exact fun _ _ _ h _ => h
  · exact fun _ _ _ h _ => h
set_option maxRecDepth 100000 in
set_option maxHeartbeats 8000000 in
theorem ncWx_region {S : World → Prop} (hon : ∀ W W', S W → Below W.heap.size W W' → S W') {P1 P2 B : Nat} {x : Wx} {own : ByteArray} (hf : ∀ W, S W → Blk W P1 119 #[.func (.func 71) #[] #[]]) (ho : ∀ W, S W → Blk W P2 9 #[.string own]) (hx : ∀ W, S W → Blk W B 80 #[.string x.nm, .int .i64 x.flo, .int .i64 x.fhi, .int .i64 x.rlo, .int .i64 x.rhi, .int .i64 x.slo, .int .i64 x.shi, .int .i64 x.ch]) {Q : Exit → Act → World → Prop} {s0 : Value} {W0 : World} (HL : Hid (S W0))
    (HQ : Hid (∀ (u : Nat → Value) (W : World), S W → Q .normal ⟨#[s0, .pointer (some ⟨P1, 0, none⟩), .pointer (some ⟨P2, 0, none⟩), .pointer (some ⟨B, 0, none⟩), .bool (x.nm.toList == own.toList), u 0, u 1, u 2, u 3, u 4], []⟩ W)) :
    Code.wp Try.prog ((Try.f99.body.bind (regionAt 1)).getD .skip) Q ⟨#[s0, .pointer (some ⟨P1, 0, none⟩), .pointer (some ⟨P2, 0, none⟩), .pointer (some ⟨B, 0, none⟩), .bool false, undef, undef, undef, undef, undef], []⟩ W0 := by
  conv => arg 2; whnf
  refine wp_region_spec (by kernel_rfl) 6 (by kernel_rfl) (fun u => ⟨#[s0, .pointer (some ⟨P1, 0, none⟩), .pointer (some ⟨P2, 0, none⟩), .pointer (some ⟨B, 0, none⟩), u 5, u 0, u 1, u 2, u 3, u 4], []⟩) (fun i => if i = 5 then .bool false else undef) (fun W => Hid (S W)) (ncWxR x own) (by kernel_rfl) (hon _ _ HL.out (Below.refl _ _).drew) (fun i v W W2 hi h hb => ncWxR_on x own i hi v W W2 h hb) (by decide +kernel) ?_ ?_
  · iterate 6 (refine all_succ ?_ ?_)
    · exact all_zero
    · intro u W hB _ hd _ K hK
      have HK := Lib.hid hK; clear hK
      refine wpOp_of rfl (by rfl) ?_
      have t0 := (hf W hB.out).cell 0
      go_simp
      exact k_of (HK.out (.func (.func 71) #[] #[]) _ rfl hB (Below.refl _ _)) (by kernel_rfl)
    · intro u W hB _ hd _ K hK
      have HK := Lib.hid hK; clear hK
      refine wpOp_of rfl (by rfl) ?_
      have x0 := (hx W hB.out).cell 0; have x1 := (hx W hB.out).cell 1; have x2 := (hx W hB.out).cell 2; have x3 := (hx W hB.out).cell 3; have x4 := (hx W hB.out).cell 4; have x5 := (hx W hB.out).cell 5; have x6 := (hx W hB.out).cell 6; have x7 := (hx W hB.out).cell 7
      go_simp
      exact k_of (HK.out (.agg #[.string x.nm, .int .i64 x.flo, .int .i64 x.fhi, .int .i64 x.rlo, .int .i64 x.rhi, .int .i64 x.slo, .int .i64 x.shi, .int .i64 x.ch]) _ rfl hB (Below.refl _ _)) (by kernel_rfl)
    · intro u W hB _ hd _ K hK
      have HK := Lib.hid hK; clear hK
      have e0 : u 0 = .func (.func 71) #[] #[] := hd 0 (by decide +kernel)
      have e1 : u 1 = .agg #[.string x.nm, .int .i64 x.flo, .int .i64 x.fhi, .int .i64 x.rlo, .int .i64 x.rhi, .int .i64 x.slo, .int .i64 x.shi, .int .i64 x.ch] := hd 1 (by decide +kernel)
      refine wpOp_of rfl (by rfl) ?_
      have eg : ∀ args w, (callFunc 71 args).run Try.prog w = .ok (.enter 71 args) w := enters_of Try.func71 (by kernel_rfl) rfl
      go_simp
      refine (nameWx_any x W).mono ?_
      rintro e w' ⟨rfl, hb⟩
      exact k_of (HK.out (.string x.nm) _ rfl (hon _ _ hB.out hb) hb) (by rw [← u1_eq e0, ← u1_eq e1]; kernel_rfl)
    · intro u W hB _ hd _ K hK
      have HK := Lib.hid hK; clear hK
      refine wpOp_of rfl (by rfl) ?_
      have y0 := (ho W hB.out).cell 0
      go_simp
      exact k_of (HK.out (.string own) _ rfl hB (Below.refl _ _)) (by kernel_rfl)
    · intro u W hB _ hd _ K hK
      have HK := Lib.hid hK; clear hK
      have e2 : u 2 = .string x.nm := hd 2 (by decide +kernel)
      have e3 : u 3 = .string own := hd 3 (by decide +kernel)
      refine wpOp_of rfl (by rfl) ?_
      go_simp
      exact k_of (HK.out (.bool (x.nm.toList == own.toList)) _ rfl hB (Below.refl _ _)) (by rw [← u1_eq e2, ← u1_eq e3]; kernel_rfl)
    · intro u W hB _ hd _ K hK
      have HK := Lib.hid hK; clear hK
      have e4 : u 4 = .bool (x.nm.toList == own.toList) := hd 4 (by decide +kernel)
      refine wpOp_of rfl (by rfl) ?_
      go_simp
      exact k_of (HK.out (.bool (x.nm.toList == own.toList)) _ rfl hB (Below.refl _ _)) (by rw [← u1_eq e4]; kernel_rfl)
  · intro u W hB hd
    have e5 : u 5 = .bool (x.nm.toList == own.toList) := hd 5 (by decide)
    exact k_of (HQ.out u W hB.out) (by simp only [e5])
end Go.Proofs.Ytkjfommdeljefaa

namespace Go.Proofs.Ytkjfommdeljefaa
open Go.RowKit Go.Shelf Go.Maps
attribute [local go_sem] Oper.semAt_some


set_option maxRecDepth 100000 in
theorem cmpWk_any {w : World} {P1 P2 : Nat} {own : ByteArray} (x : Wk) (h1 : Blk w P1 117 #[.func (.func 69) #[] #[]]) (h2 : Blk w P2 9 #[.string own]) :
    Calls Try.prog 97 #[.agg #[.string x.nm, .int .i64 x.th, .int .i64 x.plo, .int .i64 x.phi], .pointer (some ⟨P1, 0, none⟩), .pointer (some ⟨P2, 0, none⟩)] w fun e w' => e = .returned (.bool (x.nm.toList == own.toList)) ∧ Below w.heap.size w w' := by
  have H1 := Lib.hid h1
  have H2 := Lib.hid h2
  clear h1 h2
  go_enter Try.func97, Try.ntmps97
  go_wp2_with fail
  refine wp_of_eq (ncWk_region (S := Bx w [(w.heap.size, 74, #[.string x.nm, .int .i64 x.th, .int .i64 x.plo, .int .i64 x.phi])]) (fun _ _ h hb => h.on hb) (P1 := P1) (P2 := P2) (B := w.heap.size) (x := x) (own := own) (fun W h => H1.out.on h.b) (fun W h => H2.out.on h.b) (fun W h => h.get (by simp)) (Lib.hid ((Bx.nil w).alloc _ _)) (Lib.hid fun u W hS => ?_)) (by kernel_rfl)
  go_wp2_with fail
  go_ret
  exact ⟨rfl, hS.b⟩
set_option maxRecDepth 100000 in
set_option maxHeartbeats 1000000 in
theorem idxWk_any {w : World} {A : Option Addr} {c : Nat} {l : List Wk} {P1 P2 : Nat} {own : ByteArray} (h : WksIn w A c l) (h1 : Blk w P1 117 #[.func (.func 69) #[] #[]]) (h2 : Blk w P2 9 #[.string own]) :
    Calls Try.prog 109 #[.slice A l.length c, .func (.func 97) #[] #[.pointer (some ⟨P1, 0, none⟩), .pointer (some ⟨P2, 0, none⟩)]] w fun e w' => e = .returned (.int .i64 (idxL (fun y : Wk => y.nm.toList == own.toList) l 0)) ∧ Below w.heap.size w w' := by
  have HI := Lib.hid h
  have hl := h.len
  have HC := Lib.hid (fun (x : Wk) (W : World) (hb : Below w.heap.size w W) => cmpWk_any x (h1.on hb) (h2.on hb))
  have eg : ∀ args w, (callFunc 97 args).run Try.prog w = .ok (.enter 97 args) w := enters_of Try.func97 (by kernel_rfl) rfl
  clear h h1 h2
  go_enter Try.func109, Try.ntmps109
  go_wp2_with fail
  go_loopw [8] (fun i W => ∃ k : Nat, k ≤ l.length ∧ i = .int .i64 k ∧ Hid (idxL (fun y : Wk => y.nm.toList == own.toList) (l.drop k) k = idxL (fun y : Wk => y.nm.toList == own.toList) l 0) ∧ Hid (Below w.heap.size w W)) (fun i _ => l.length - (intOf i).toNat)
  case atStart => exact ⟨0, by omega, rfl, rfl, Below.refl _ _⟩
  case round =>
    obtain ⟨k, hk, rfl, HR, HB⟩ := hrel
    by_cases hlt : k < l.length
    · obtain ⟨x, hx⟩ : ∃ x, l[k]? = some x := ⟨l[k], List.getElem?_eq_getElem hlt⟩
      obtain ⟨bb, o, rfl, _, c0, c1, c2, c3⟩ := wks_at (HI.out.on HB.out).at_ hx
      have hd : l.drop k = x :: l.drop (k + 1) := drop_at hx
      have HD := Lib.hid (show idxL (fun y : Wk => y.nm.toList == own.toList) l 0 = if (x.nm.toList == own.toList) = true then (k : Int) else idxL (fun y : Wk => y.nm.toList == own.toList) (l.drop (k + 1)) ((k : Int) + 1) by rw [← HR.out, hd, idxL])
      have HC1 := Lib.hid (HC.out x wr HB.out)
      clear hx hd HR
      generalize (x.nm.toList == own.toList) = z at *
      cases z with
      | true =>
        have H := Lib.hid (show idxL (fun y : Wk => y.nm.toList == own.toList) l 0 = k by rw [HD.out, if_pos rfl])
        clear HD
        go_wp2_with (first | (refine HC1.out.mono ?_; rintro e w1 ⟨rfl, hb⟩; have HB1 := Lib.hid (HB.out.trans (hb.mono HB.out.size)); clear hb) | fail)
        go_ret
        exact ⟨ret_i64 H.out.symm, HB1.out⟩
      | false =>
        have H := Lib.hid (show idxL (fun y : Wk => y.nm.toList == own.toList) (l.drop (k + 1)) ((k + 1 : Nat) : Int) = idxL (fun y : Wk => y.nm.toList == own.toList) l 0 by rw [HD.out, if_neg (by simp)]; rfl)
        clear HD
        go_wp2_with (first | (refine HC1.out.mono ?_; rintro e w1 ⟨rfl, hb⟩; have HB1 := Lib.hid (HB.out.trans (hb.mono HB.out.size)); clear hb) | fail)
        go_roundw
        case rel => exact ⟨k + 1, Nat.succ_le_of_lt hlt, by go_num, H, HB1⟩
        case measure => exact meas_one hlt
    · have H := Lib.hid (show idxL (fun y : Wk => y.nm.toList == own.toList) l 0 = -1 by rw [← HR.out, List.drop_eq_nil_of_le (by omega)]; rfl)
      clear HR
      go_wp2_with fail
      go_ret
      exact ⟨ret_i64 H.out.symm, HB.out⟩
theorem contWk_any {w : World} {A : Option Addr} {n c : Nat} {l : List Wk} {P1 P2 : Nat} {own : ByteArray} (hn : l.length = n) (h : WksIn w A c l) (h1 : Blk w P1 117 #[.func (.func 69) #[] #[]]) (h2 : Blk w P2 9 #[.string own]) :
    Calls Try.prog 96 #[.slice A n c, .func (.func 97) #[] #[.pointer (some ⟨P1, 0, none⟩), .pointer (some ⟨P2, 0, none⟩)]] w fun e w' => e = .returned (.bool (l.any (fun y : Wk => y.nm.toList == own.toList))) ∧ Below w.heap.size w w' := by
  subst hn
  have HC := Lib.hid (idxWk_any h h1 h2)
  have HE := Lib.hid (idxL_any (fun y : Wk => y.nm.toList == own.toList) l 0 (Int.le_refl _))
  clear h h1 h2
  go_enter Try.func96, Try.ntmps96
  go_wp2_with fail
  refine HC.out.mono ?_
  rintro e w1 ⟨rfl, hb⟩
  go_wp2_with fail
  go_ret
  exact ⟨ret_bool (by have := HE.out; simpa using this), hb⟩
theorem WksIn.take {w : World} {A : Option Addr} {c : Nat} {l : List Wk} (h : WksIn w A c l) (i : Nat) : WksIn w A c (l.take i) := ⟨RowAt.take h.at_ i, by have := h.len; rw [List.length_take]; omega, by have := h.cap; rw [List.length_take]; omega, fun x hx => h.nm x (List.mem_of_mem_take hx)⟩
set_option maxRecDepth 100000 in
set_option maxHeartbeats 2000000 in
theorem nameEWk_any {w : World} {A : Option Addr} {c i : Nat} {l : List Wk} {x : Wk} (h : WksIn w A c l) (hi : i < l.length) (hx : l[i]? = some x) :
    Calls Try.prog 68 #[.slice A l.length c, .int .i64 (i : Int), .func (.func 69) #[] #[]] w fun e w' => e = .returned (.int .i64 (nameErr ((l.take i).map Wk.nm) x.nm)) ∧ Below w.heap.size w w' := by
  have hl := h.len
  have hcp := h.cap
  have hnm := h.nm x (List.mem_of_getElem? hx)
  obtain ⟨b, o, rfl, hbb, c0, c1, c2, c3⟩ := wks_at h.at_ hx
  have HH := Lib.hid h
  have HX : Hid (w.cell? ⟨b, o + i * 4, none⟩ = some (.string x.nm) ∧ w.cell? ⟨b, o + i * 4 + 1, none⟩ = some (.int .i64 x.th) ∧ w.cell? ⟨b, o + i * 4 + 2, none⟩ = some (.int .i64 x.plo) ∧ w.cell? ⟨b, o + i * 4 + 3, none⟩ = some (.int .i64 x.phi)) := Lib.hid ⟨c0, c1, c2, c3⟩
  have HE : Hid (nameErr ((l.take i).map Wk.nm) x.nm = if nameB x.nm = true then (if (l.take i).any (fun y => y.nm.toList == x.nm.toList) = true then 5 else 0) else 6) := by
    show _ = _
    unfold nameErr
    rw [List.any_map]; rfl
  clear h hx c0 c1 c2 c3
  go_enter Try.func68, Try.ntmps68
  go_wp2_with fail
  refine wp_of_eq (neWk_region (S := Bx w [(w.heap.size, 117, #[.func (.func 69) #[] #[]])]) (N := w.heap.size + 1) (b := b) (o := o) (c := c) (i := i) (n := l.length) (P := w.heap.size) (x := x) (by omega) (fun W h => h.get (by simp)) (fun W h => ⟨(h.b.cell (p := ⟨b, o + i * 4, none⟩) hbb).trans HX.out.1, (h.b.cell (p := ⟨b, o + i * 4 + 1, none⟩) hbb).trans HX.out.2.1, (h.b.cell (p := ⟨b, o + i * 4 + 2, none⟩) hbb).trans HX.out.2.2.1, (h.b.cell (p := ⟨b, o + i * 4 + 3, none⟩) hbb).trans HX.out.2.2.2⟩)
    (fun _ _ h hb => h.on hb) (fun W W' G h hg hG => h.put hg (by omega) (fun q hq => by simp only [List.mem_cons, List.not_mem_nil, or_false] at hq; subst hq; show w.heap.size ≠ G; omega)) (fun W h => (h.at_ _ List.mem_cons_self).2.lt) (Lib.hid ((Bx.nil w).alloc _ _)) (Lib.hid fun u G W hS hG hk => ?_)) (by kernel_rfl)
  have k0 := hk.cell 0
  have HK := Lib.hid hk
  have HS := Lib.hid hS
  have HN := Lib.hid (name_any x.nm W hnm)
  clear hS hk hG
  generalize nameB x.nm = z at *
  cases z with
  | false =>
    go_wp2_with (first | (refine HN.out.mono ?_; rintro e w1 ⟨rfl, hb⟩; have HS1 := Lib.hid (HS.out.on hb); clear hb) | fail)
    go_ret
    exact ⟨ret_i64 (by rw [HE.out]; simp), HS1.out.b⟩
  | true =>
    have HC := Lib.hid (fun (W' : World) (hb : Below W.heap.size W W') => contWk_any (c := c) (l := l.take i) (n := i) (own := x.nm) (by rw [List.length_take]; omega) ((HH.out.on (HS.out.b.trans (hb.mono HS.out.b.size))).take i) ((HS.out.on hb).get (g := w.heap.size) (by simp)) (HK.out.on hb))
    have hic : i ≤ c := by omega
    generalize (l.take i).any (fun y => y.nm.toList == x.nm.toList) = q at *
    cases q with
    | false =>
      go_wp2_with (first | (go_at_call 95; refine HN.out.mono ?_; rintro e w1 ⟨rfl, hb⟩; have HS1 := Lib.hid (HS.out.on hb); have HC1 := Lib.hid (HC.out _ hb); clear hb) | (go_at_call 96; refine HC1.out.mono ?_; rintro e w2 ⟨rfl, hb⟩; have HS2 := Lib.hid (HS1.out.on hb); clear hb) | fail)
      go_ret
      exact ⟨ret_i64 (by rw [HE.out]; simp), HS2.out.b⟩
    | true =>
      go_wp2_with (first | (go_at_call 95; refine HN.out.mono ?_; rintro e w1 ⟨rfl, hb⟩; have HS1 := Lib.hid (HS.out.on hb); have HC1 := Lib.hid (HC.out _ hb); clear hb) | (go_at_call 96; refine HC1.out.mono ?_; rintro e w2 ⟨rfl, hb⟩; have HS2 := Lib.hid (HS1.out.on hb); clear hb) | fail)
      go_ret
      exact ⟨ret_i64 (by rw [HE.out]; simp), HS2.out.b⟩


set_option maxRecDepth 100000 in
theorem cmpWx_any {w : World} {P1 P2 : Nat} {own : ByteArray} (x : Wx) (h1 : Blk w P1 119 #[.func (.func 71) #[] #[]]) (h2 : Blk w P2 9 #[.string own]) :
    Calls Try.prog 99 #[.agg #[.string x.nm, .int .i64 x.flo, .int .i64 x.fhi, .int .i64 x.rlo, .int .i64 x.rhi, .int .i64 x.slo, .int .i64 x.shi, .int .i64 x.ch], .pointer (some ⟨P1, 0, none⟩), .pointer (some ⟨P2, 0, none⟩)] w fun e w' => e = .returned (.bool (x.nm.toList == own.toList)) ∧ Below w.heap.size w w' := by
  have H1 := Lib.hid h1
  have H2 := Lib.hid h2
  clear h1 h2
  go_enter Try.func99, Try.ntmps99
  go_wp2_with fail
  refine wp_of_eq (ncWx_region (S := Bx w [(w.heap.size, 80, #[.string x.nm, .int .i64 x.flo, .int .i64 x.fhi, .int .i64 x.rlo, .int .i64 x.rhi, .int .i64 x.slo, .int .i64 x.shi, .int .i64 x.ch])]) (fun _ _ h hb => h.on hb) (P1 := P1) (P2 := P2) (B := w.heap.size) (x := x) (own := own) (fun W h => H1.out.on h.b) (fun W h => H2.out.on h.b) (fun W h => h.get (by simp)) (Lib.hid ((Bx.nil w).alloc _ _)) (Lib.hid fun u W hS => ?_)) (by kernel_rfl)
  go_wp2_with fail
  go_ret
  exact ⟨rfl, hS.b⟩
set_option maxRecDepth 100000 in
set_option maxHeartbeats 1000000 in
theorem idxWx_any {w : World} {A : Option Addr} {c : Nat} {l : List Wx} {P1 P2 : Nat} {own : ByteArray} (h : WxsIn w A c l) (h1 : Blk w P1 119 #[.func (.func 71) #[] #[]]) (h2 : Blk w P2 9 #[.string own]) :
    Calls Try.prog 110 #[.slice A l.length c, .func (.func 99) #[] #[.pointer (some ⟨P1, 0, none⟩), .pointer (some ⟨P2, 0, none⟩)]] w fun e w' => e = .returned (.int .i64 (idxL (fun y : Wx => y.nm.toList == own.toList) l 0)) ∧ Below w.heap.size w w' := by
  have HI := Lib.hid h
  have hl := h.len
  have HC := Lib.hid (fun (x : Wx) (W : World) (hb : Below w.heap.size w W) => cmpWx_any x (h1.on hb) (h2.on hb))
  have eg : ∀ args w, (callFunc 99 args).run Try.prog w = .ok (.enter 99 args) w := enters_of Try.func99 (by kernel_rfl) rfl
  clear h h1 h2
  go_enter Try.func110, Try.ntmps110
  go_wp2_with fail
  go_loopw [8] (fun i W => ∃ k : Nat, k ≤ l.length ∧ i = .int .i64 k ∧ Hid (idxL (fun y : Wx => y.nm.toList == own.toList) (l.drop k) k = idxL (fun y : Wx => y.nm.toList == own.toList) l 0) ∧ Hid (Below w.heap.size w W)) (fun i _ => l.length - (intOf i).toNat)
  case atStart => exact ⟨0, by omega, rfl, rfl, Below.refl _ _⟩
  case round =>
    obtain ⟨k, hk, rfl, HR, HB⟩ := hrel
    by_cases hlt : k < l.length
    · obtain ⟨x, hx⟩ : ∃ x, l[k]? = some x := ⟨l[k], List.getElem?_eq_getElem hlt⟩
      obtain ⟨bb, o, rfl, _, c0, c1, c2, c3, c4, c5, c6, c7⟩ := wxs_at (HI.out.on HB.out).at_ hx
      have hd : l.drop k = x :: l.drop (k + 1) := drop_at hx
      have HD := Lib.hid (show idxL (fun y : Wx => y.nm.toList == own.toList) l 0 = if (x.nm.toList == own.toList) = true then (k : Int) else idxL (fun y : Wx => y.nm.toList == own.toList) (l.drop (k + 1)) ((k : Int) + 1) by rw [← HR.out, hd, idxL])
      have HC1 := Lib.hid (HC.out x wr HB.out)
      clear hx hd HR
      generalize (x.nm.toList == own.toList) = z at *
      cases z with
      | true =>
        have H := Lib.hid (show idxL (fun y : Wx => y.nm.toList == own.toList) l 0 = k by rw [HD.out, if_pos rfl])
        clear HD
        go_wp2_with (first | (refine HC1.out.mono ?_; rintro e w1 ⟨rfl, hb⟩; have HB1 := Lib.hid (HB.out.trans (hb.mono HB.out.size)); clear hb) | fail)
        go_ret
        exact ⟨ret_i64 H.out.symm, HB1.out⟩
      | false =>
        have H := Lib.hid (show idxL (fun y : Wx => y.nm.toList == own.toList) (l.drop (k + 1)) ((k + 1 : Nat) : Int) = idxL (fun y : Wx => y.nm.toList == own.toList) l 0 by rw [HD.out, if_neg (by simp)]; rfl)
        clear HD
        go_wp2_with (first | (refine HC1.out.mono ?_; rintro e w1 ⟨rfl, hb⟩; have HB1 := Lib.hid (HB.out.trans (hb.mono HB.out.size)); clear hb) | fail)
        go_roundw
        case rel => exact ⟨k + 1, Nat.succ_le_of_lt hlt, by go_num, H, HB1⟩
        case measure => exact meas_one hlt
    · have H := Lib.hid (show idxL (fun y : Wx => y.nm.toList == own.toList) l 0 = -1 by rw [← HR.out, List.drop_eq_nil_of_le (by omega)]; rfl)
      clear HR
      go_wp2_with fail
      go_ret
      exact ⟨ret_i64 H.out.symm, HB.out⟩
theorem contWx_any {w : World} {A : Option Addr} {n c : Nat} {l : List Wx} {P1 P2 : Nat} {own : ByteArray} (hn : l.length = n) (h : WxsIn w A c l) (h1 : Blk w P1 119 #[.func (.func 71) #[] #[]]) (h2 : Blk w P2 9 #[.string own]) :
    Calls Try.prog 98 #[.slice A n c, .func (.func 99) #[] #[.pointer (some ⟨P1, 0, none⟩), .pointer (some ⟨P2, 0, none⟩)]] w fun e w' => e = .returned (.bool (l.any (fun y : Wx => y.nm.toList == own.toList))) ∧ Below w.heap.size w w' := by
  subst hn
  have HC := Lib.hid (idxWx_any h h1 h2)
  have HE := Lib.hid (idxL_any (fun y : Wx => y.nm.toList == own.toList) l 0 (Int.le_refl _))
  clear h h1 h2
  go_enter Try.func98, Try.ntmps98
  go_wp2_with fail
  refine HC.out.mono ?_
  rintro e w1 ⟨rfl, hb⟩
  go_wp2_with fail
  go_ret
  exact ⟨ret_bool (by have := HE.out; simpa using this), hb⟩
theorem WxsIn.take {w : World} {A : Option Addr} {c : Nat} {l : List Wx} (h : WxsIn w A c l) (i : Nat) : WxsIn w A c (l.take i) := ⟨RowAt.take h.at_ i, by have := h.len; rw [List.length_take]; omega, by have := h.cap; rw [List.length_take]; omega, fun x hx => h.nm x (List.mem_of_mem_take hx)⟩
set_option maxRecDepth 100000 in
set_option maxHeartbeats 2000000 in
theorem nameEWx_any {w : World} {A : Option Addr} {c i : Nat} {l : List Wx} {x : Wx} (h : WxsIn w A c l) (hi : i < l.length) (hx : l[i]? = some x) :
    Calls Try.prog 70 #[.slice A l.length c, .int .i64 (i : Int), .func (.func 71) #[] #[]] w fun e w' => e = .returned (.int .i64 (nameErr ((l.take i).map Wx.nm) x.nm)) ∧ Below w.heap.size w w' := by
  have hl := h.len
  have hcp := h.cap
  have hnm := h.nm x (List.mem_of_getElem? hx)
  obtain ⟨b, o, rfl, hbb, c0, c1, c2, c3, c4, c5, c6, c7⟩ := wxs_at h.at_ hx
  have HH := Lib.hid h
  have HX : Hid (w.cell? ⟨b, o + i * 8, none⟩ = some (.string x.nm) ∧ w.cell? ⟨b, o + i * 8 + 1, none⟩ = some (.int .i64 x.flo) ∧ w.cell? ⟨b, o + i * 8 + 2, none⟩ = some (.int .i64 x.fhi) ∧ w.cell? ⟨b, o + i * 8 + 3, none⟩ = some (.int .i64 x.rlo) ∧ w.cell? ⟨b, o + i * 8 + 4, none⟩ = some (.int .i64 x.rhi) ∧ w.cell? ⟨b, o + i * 8 + 5, none⟩ = some (.int .i64 x.slo) ∧ w.cell? ⟨b, o + i * 8 + 6, none⟩ = some (.int .i64 x.shi) ∧ w.cell? ⟨b, o + i * 8 + 7, none⟩ = some (.int .i64 x.ch)) := Lib.hid ⟨c0, c1, c2, c3, c4, c5, c6, c7⟩
  have HE : Hid (nameErr ((l.take i).map Wx.nm) x.nm = if nameB x.nm = true then (if (l.take i).any (fun y => y.nm.toList == x.nm.toList) = true then 5 else 0) else 6) := by
    show _ = _
    unfold nameErr
    rw [List.any_map]; rfl
  clear h hx c0 c1 c2 c3 c4 c5 c6 c7
  go_enter Try.func70, Try.ntmps70
  go_wp2_with fail
  refine wp_of_eq (neWx_region (S := Bx w [(w.heap.size, 119, #[.func (.func 71) #[] #[]])]) (N := w.heap.size + 1) (b := b) (o := o) (c := c) (i := i) (n := l.length) (P := w.heap.size) (x := x) (by omega) (fun W h => h.get (by simp)) (fun W h => ⟨(h.b.cell (p := ⟨b, o + i * 8, none⟩) hbb).trans HX.out.1, (h.b.cell (p := ⟨b, o + i * 8 + 1, none⟩) hbb).trans HX.out.2.1, (h.b.cell (p := ⟨b, o + i * 8 + 2, none⟩) hbb).trans HX.out.2.2.1, (h.b.cell (p := ⟨b, o + i * 8 + 3, none⟩) hbb).trans HX.out.2.2.2.1, (h.b.cell (p := ⟨b, o + i * 8 + 4, none⟩) hbb).trans HX.out.2.2.2.2.1, (h.b.cell (p := ⟨b, o + i * 8 + 5, none⟩) hbb).trans HX.out.2.2.2.2.2.1, (h.b.cell (p := ⟨b, o + i * 8 + 6, none⟩) hbb).trans HX.out.2.2.2.2.2.2.1, (h.b.cell (p := ⟨b, o + i * 8 + 7, none⟩) hbb).trans HX.out.2.2.2.2.2.2.2⟩)
    (fun _ _ h hb => h.on hb) (fun W W' G h hg hG => h.put hg (by omega) (fun q hq => by simp only [List.mem_cons, List.not_mem_nil, or_false] at hq; subst hq; show w.heap.size ≠ G; omega)) (fun W h => (h.at_ _ List.mem_cons_self).2.lt) (Lib.hid ((Bx.nil w).alloc _ _)) (Lib.hid fun u G W hS hG hk => ?_)) (by kernel_rfl)
  have k0 := hk.cell 0
  have HK := Lib.hid hk
  have HS := Lib.hid hS
  have HN := Lib.hid (name_any x.nm W hnm)
  clear hS hk hG
  generalize nameB x.nm = z at *
  cases z with
  | false =>
    go_wp2_with (first | (refine HN.out.mono ?_; rintro e w1 ⟨rfl, hb⟩; have HS1 := Lib.hid (HS.out.on hb); clear hb) | fail)
    go_ret
    exact ⟨ret_i64 (by rw [HE.out]; simp), HS1.out.b⟩
  | true =>
    have HC := Lib.hid (fun (W' : World) (hb : Below W.heap.size W W') => contWx_any (c := c) (l := l.take i) (n := i) (own := x.nm) (by rw [List.length_take]; omega) ((HH.out.on (HS.out.b.trans (hb.mono HS.out.b.size))).take i) ((HS.out.on hb).get (g := w.heap.size) (by simp)) (HK.out.on hb))
    have hic : i ≤ c := by omega
    generalize (l.take i).any (fun y => y.nm.toList == x.nm.toList) = q at *
    cases q with
    | false =>
      go_wp2_with (first | (go_at_call 95; refine HN.out.mono ?_; rintro e w1 ⟨rfl, hb⟩; have HS1 := Lib.hid (HS.out.on hb); have HC1 := Lib.hid (HC.out _ hb); clear hb) | (go_at_call 98; refine HC1.out.mono ?_; rintro e w2 ⟨rfl, hb⟩; have HS2 := Lib.hid (HS1.out.on hb); clear hb) | fail)
      go_ret
      exact ⟨ret_i64 (by rw [HE.out]; simp), HS2.out.b⟩
    | true =>
      go_wp2_with (first | (go_at_call 95; refine HN.out.mono ?_; rintro e w1 ⟨rfl, hb⟩; have HS1 := Lib.hid (HS.out.on hb); have HC1 := Lib.hid (HC.out _ hb); clear hb) | (go_at_call 98; refine HC1.out.mono ?_; rintro e w2 ⟨rfl, hb⟩; have HS2 := Lib.hid (HS1.out.on hb); clear hb) | fail)
      go_ret
      exact ⟨ret_i64 (by rw [HE.out]; simp), HS2.out.b⟩
end Go.Proofs.Ytkjfommdeljefaa

namespace Go.Proofs.Ytkjfommdeljefaa
open Go.RowKit Go.Shelf Go.Maps
attribute [local go_sem] Oper.semAt_some

/-- What each operation leaves. -/
def erWkR (A : Option Addr) (n c ix P : Nat) (x : Wk) (z0 : Int) : Nat → Value → World → Prop
  | 0, v, _ => v = .slice A n c
  | 1, v, _ => v = .int .i64 (ix : Int)
  | 2, v, _ => v = .int .i64 z0
  | 3, v, _ => v = .pointer (some ⟨P, 1, none⟩)
  | 4, v, _ => v = .int .i64 x.th
  | 5, v, W => ∃ b_5, v = .slice (some ⟨b_5, 0, none⟩) 1 1 ∧ IntsIn W (some ⟨b_5, 0, none⟩) [x.th]
  | 6, v, _ => v = .int .i64 (rangeE 1 100 [x.th])
  | 7, v, _ => v = .pointer (some ⟨P, 2, none⟩)
  | 8, v, _ => v = .pointer (some ⟨P, 2, none⟩)
  | 9, v, _ => v = .int .i64 x.plo
  | 10, v, _ => v = .pointer (some ⟨P, 2, none⟩)
  | 11, v, _ => v = .pointer (some ⟨P, 3, none⟩)
  | 12, v, _ => v = .int .i64 x.phi
  | 13, v, W => ∃ b_13, v = .slice (some ⟨b_13, 0, none⟩) 2 2 ∧ IntsIn W (some ⟨b_13, 0, none⟩) [x.plo, x.phi]
  | 14, v, _ => v = .int .i64 (rangeE 1 1000 [x.plo, x.phi])
  | 15, v, _ => v = .pointer (some ⟨P, 2, none⟩)
  | 16, v, _ => v = .agg #[.int .i64 x.plo, .int .i64 x.phi]
  | 17, v, W => ∃ b_17, v = .slice (some ⟨b_17, 0, none⟩) 1 1 ∧ SpansIn W (some ⟨b_17, 0, none⟩) [(x.plo, x.phi)]
  | 18, v, _ => v = .int .i64 (orderE [(x.plo, x.phi)])
  | 19, v, W => ∃ b_19, v = .slice (some ⟨b_19, 0, none⟩) 4 4 ∧ IntsIn W (some ⟨b_19, 0, none⟩) [z0, (rangeE 1 100 [x.th]), (rangeE 1 1000 [x.plo, x.phi]), (orderE [(x.plo, x.phi)])]
  | 20, v, _ => v = .int .i64 (orE [z0, (rangeE 1 100 [x.th]), (rangeE 1 1000 [x.plo, x.phi]), (orderE [(x.plo, x.phi)])])
  | 21, v, _ => v = .int .i64 (orE [z0, (rangeE 1 100 [x.th]), (rangeE 1 1000 [x.plo, x.phi]), (orderE [(x.plo, x.phi)])])
  | _, _, _ => True
theorem erWkR_on (A : Option Addr) (n c ix P : Nat) (x : Wk) (z0 : Int) : ∀ i, i < 22 → ∀ v W W', erWkR A n c ix P x z0 i v W → Below W.heap.size W W' → erWkR A n c ix P x z0 i v W' := by
  iterate 22 (refine all_succ ?_ ?_)
  · exact all_zero
  · exact fun _ _ _ h _ => h
  · exact fun _ _ _ h _ => h
  · exact fun _ _ _ h _ => h
  · exact fun _ _ _ h _ => h
  · exact fun _ _ _ h _ => h
  · rintro v W W' ⟨b_5, e, h0⟩ hb; exact ⟨b_5, e, h0.on hb⟩
  · exact fun _ _ _ h _ => h
  · exact fun _ _ _ h _ => h
  · exact fun _ _ _ h _ => h
  · exact fun _ _ _ h _ => h
  · exact fun _ _ _ h _ => h
  · exact fun _ _ _ h _ => h
  · exact fun _ _ _ h _ => h
  · rintro v W W' ⟨b_13, e, h0⟩ hb; exact ⟨b_13, e, h0.on hb⟩
  · exact fun _ _ _ h _ => h
  · exact fun _ _ _ h _ => h
  · exact fun _ _ _ h _ => h
  · rintro v W W' ⟨b_17, e, h0⟩ hb; exact ⟨b_17, e, h0.on hb⟩
  · exact fun _ _ _ h _ => h
  · rintro v W W' ⟨b_19, e, h0⟩ hb; exact ⟨b_19, e, h0.on hb⟩
  · exact fun _ _ _ h _ => h
  · exact fun _ _ _ h _ => h
set_option maxRecDepth 100000 in
set_option maxHeartbeats 8000000 in
theorem erWk_region {S : World → Prop} (hon : ∀ W W', S W → Below W.heap.size W W' → S W') {A : Option Addr} {n c ix P : Nat} {x : Wk} {z0 : Int} (HN : Hid (∀ W, S W → Calls Try.prog 68 #[.slice A n c, .int .i64 (ix : Int), .func (.func 69) #[] #[]] W fun e w' => e = .returned (.int .i64 z0) ∧ Below W.heap.size W w')) (hP : ∀ W, S W → Blk W P 74 #[.string x.nm, .int .i64 x.th, .int .i64 x.plo, .int .i64 x.phi]) {Q : Exit → Act → World → Prop} {s2 s3 s6 s7 s8 s9 : Value} {W0 : World} (HL : Hid (S W0))
    (HQ : Hid (∀ (u : Nat → Value) (W : World), S W → Q .normal ⟨#[.slice A n c, .int .i64 (ix : Int), s2, s3, .int .i64 (orE [z0, (rangeE 1 100 [x.th]), (rangeE 1 1000 [x.plo, x.phi]), (orderE [(x.plo, x.phi)])]), .pointer (some ⟨P, 0, none⟩), s6, s7, s8, s9, u 0, u 1, u 2, u 3, u 4, u 5, u 6, u 7, u 8, u 9, u 10, u 11, u 12, u 13, u 14, u 15, u 16, u 17, u 18, u 19, u 20], []⟩ W)) :
    Code.wp Try.prog ((Try.f43.body.bind (regionAt 2)).getD .skip) Q ⟨#[.slice A n c, .int .i64 (ix : Int), s2, s3, .int .i64 0, .pointer (some ⟨P, 0, none⟩), s6, s7, s8, s9, undef, undef, undef, undef, undef, undef, undef, undef, undef, undef, undef, undef, undef, undef, undef, undef, undef, undef, undef, undef, undef], []⟩ W0 := by
  conv => arg 2; whnf
  refine wp_region_spec (by kernel_rfl) 22 (by kernel_rfl) (fun u => ⟨#[.slice A n c, .int .i64 (ix : Int), s2, s3, u 21, .pointer (some ⟨P, 0, none⟩), s6, s7, s8, s9, u 0, u 1, u 2, u 3, u 4, u 5, u 6, u 7, u 8, u 9, u 10, u 11, u 12, u 13, u 14, u 15, u 16, u 17, u 18, u 19, u 20], []⟩) (fun i => if i = 21 then .int .i64 0 else undef) (fun W => Hid (S W)) (erWkR A n c ix P x z0) (by kernel_rfl) (hon _ _ HL.out (Below.refl _ _).drew) (fun i v W W2 hi h hb => erWkR_on A n c ix P x z0 i hi v W W2 h hb) (by decide +kernel) ?_ ?_
  · iterate 22 (refine all_succ ?_ ?_)
    · exact all_zero
    · intro u W hB _ hd _ K hK
      have HK := Lib.hid hK; clear hK
      refine wpOp_of rfl (by rfl) ?_
      go_simp
      exact k_of (HK.out (.slice A n c) _ rfl hB (Below.refl _ _)) (by kernel_rfl)
    · intro u W hB _ hd _ K hK
      have HK := Lib.hid hK; clear hK
      refine wpOp_of rfl (by rfl) ?_
      go_simp
      exact k_of (HK.out (.int .i64 (ix : Int)) _ rfl hB (Below.refl _ _)) (by kernel_rfl)
    · intro u W hB _ hd _ K hK
      have HK := Lib.hid hK; clear hK
      have e0 : u 0 = .slice A n c := hd 0 (by decide +kernel)
      have e1 : u 1 = .int .i64 (ix : Int) := hd 1 (by decide +kernel)
      refine wpOp_of rfl (by rfl) ?_
      go_simp
      refine (HN.out W hB.out).mono ?_
      rintro e w' ⟨rfl, hb⟩
      exact k_of (HK.out (.int .i64 z0) _ rfl (hon _ _ hB.out hb) hb) (by rw [← u1_eq e0, ← u1_eq e1]; kernel_rfl)
    · intro u W hB _ hd _ K hK
      have HK := Lib.hid hK; clear hK
      refine wpOp_of rfl (by rfl) ?_
      go_simp
      exact k_of (HK.out (.pointer (some ⟨P, 1, none⟩)) _ rfl hB (Below.refl _ _)) (by kernel_rfl)
    · intro u W hB _ hd _ K hK
      have HK := Lib.hid hK; clear hK
      have e3 : u 3 = .pointer (some ⟨P, 1, none⟩) := hd 3 (by decide +kernel)
      refine wpOp_of rfl (by rfl) ?_
      have z1 := (hP W hB.out).cell 1
      go_simp
      exact k_of (HK.out (.int .i64 x.th) _ rfl hB (Below.refl _ _)) (by rw [← u1_eq e3]; kernel_rfl)
    · intro u W hB _ hd _ K hK
      have HK := Lib.hid hK; clear hK
      have e4 : u 4 = .int .i64 x.th := hd 4 (by decide +kernel)
      refine wpOp_of rfl (by rfl) ?_
      go_simp
      exact k_of (HK.out (.slice (some ⟨W.heap.size, 0, none⟩) 1 1) _ ⟨_, rfl, ints_blk (Blk.new _ _ _) rfl (by simp)⟩ (hon _ _ hB.out ((Below.refl _ W).alloc (Nat.le_refl _) _)) ((Below.refl _ W).alloc (Nat.le_refl _) _)) (by rw [← u1_eq e4]; kernel_rfl)
    · intro u W hB _ hd _ K hK
      have HK := Lib.hid hK; clear hK
      obtain ⟨b_5, e5, f5_0⟩ : erWkR A n c ix P x z0 5 (u 5) W := hd 5 (by decide +kernel)
      refine wpOp_of rfl (by rfl) ?_
      go_simp
      refine (range_any (c := 1) 1 100 f5_0).mono ?_
      rintro e w' ⟨rfl, rfl⟩
      exact k_of (HK.out (.int .i64 (rangeE 1 100 [x.th])) _ rfl hB (Below.refl _ _)) (by rw [← u1_eq e5]; kernel_rfl)
    · intro u W hB _ hd _ K hK
      have HK := Lib.hid hK; clear hK
      refine wpOp_of rfl (by rfl) ?_
      go_simp
      exact k_of (HK.out (.pointer (some ⟨P, 2, none⟩)) _ rfl hB (Below.refl _ _)) (by kernel_rfl)
    · intro u W hB _ hd _ K hK
      have HK := Lib.hid hK; clear hK
      have e7 : u 7 = .pointer (some ⟨P, 2, none⟩) := hd 7 (by decide +kernel)
      refine wpOp_of rfl (by rfl) ?_
      go_simp
      exact k_of (HK.out (.pointer (some ⟨P, 2, none⟩)) _ rfl hB (Below.refl _ _)) (by rw [← u1_eq e7]; kernel_rfl)
    · intro u W hB _ hd _ K hK
      have HK := Lib.hid hK; clear hK
      have e8 : u 8 = .pointer (some ⟨P, 2, none⟩) := hd 8 (by decide +kernel)
      refine wpOp_of rfl (by rfl) ?_
      have z2 := (hP W hB.out).cell 2
      go_simp
      exact k_of (HK.out (.int .i64 x.plo) _ rfl hB (Below.refl _ _)) (by rw [← u1_eq e8]; kernel_rfl)
    · intro u W hB _ hd _ K hK
      have HK := Lib.hid hK; clear hK
      refine wpOp_of rfl (by rfl) ?_
      go_simp
      exact k_of (HK.out (.pointer (some ⟨P, 2, none⟩)) _ rfl hB (Below.refl _ _)) (by kernel_rfl)
    · intro u W hB _ hd _ K hK
      have HK := Lib.hid hK; clear hK
      have e10 : u 10 = .pointer (some ⟨P, 2, none⟩) := hd 10 (by decide +kernel)
      refine wpOp_of rfl (by rfl) ?_
      go_simp
      exact k_of (HK.out (.pointer (some ⟨P, 3, none⟩)) _ rfl hB (Below.refl _ _)) (by rw [← u1_eq e10]; kernel_rfl)
    · intro u W hB _ hd _ K hK
      have HK := Lib.hid hK; clear hK
      have e11 : u 11 = .pointer (some ⟨P, 3, none⟩) := hd 11 (by decide +kernel)
      refine wpOp_of rfl (by rfl) ?_
      have z3 := (hP W hB.out).cell 3
      go_simp
      exact k_of (HK.out (.int .i64 x.phi) _ rfl hB (Below.refl _ _)) (by rw [← u1_eq e11]; kernel_rfl)
    · intro u W hB _ hd _ K hK
      have HK := Lib.hid hK; clear hK
      have e9 : u 9 = .int .i64 x.plo := hd 9 (by decide +kernel)
      have e12 : u 12 = .int .i64 x.phi := hd 12 (by decide +kernel)
      refine wpOp_of rfl (by rfl) ?_
      go_simp
      exact k_of (HK.out (.slice (some ⟨W.heap.size, 0, none⟩) 2 2) _ ⟨_, rfl, ints_blk (Blk.new _ _ _) rfl (by simp)⟩ (hon _ _ hB.out ((Below.refl _ W).alloc (Nat.le_refl _) _)) ((Below.refl _ W).alloc (Nat.le_refl _) _)) (by rw [← u1_eq e9, ← u1_eq e12]; kernel_rfl)
    · intro u W hB _ hd _ K hK
      have HK := Lib.hid hK; clear hK
      obtain ⟨b_13, e13, f13_0⟩ : erWkR A n c ix P x z0 13 (u 13) W := hd 13 (by decide +kernel)
      refine wpOp_of rfl (by rfl) ?_
      go_simp
      refine (range_any (c := 2) 1 1000 f13_0).mono ?_
      rintro e w' ⟨rfl, rfl⟩
      exact k_of (HK.out (.int .i64 (rangeE 1 1000 [x.plo, x.phi])) _ rfl hB (Below.refl _ _)) (by rw [← u1_eq e13]; kernel_rfl)
    · intro u W hB _ hd _ K hK
      have HK := Lib.hid hK; clear hK
      refine wpOp_of rfl (by rfl) ?_
      go_simp
      exact k_of (HK.out (.pointer (some ⟨P, 2, none⟩)) _ rfl hB (Below.refl _ _)) (by kernel_rfl)
    · intro u W hB _ hd _ K hK
      have HK := Lib.hid hK; clear hK
      have e15 : u 15 = .pointer (some ⟨P, 2, none⟩) := hd 15 (by decide +kernel)
      refine wpOp_of rfl (by rfl) ?_
      have z2 := (hP W hB.out).cell 2; have z3 := (hP W hB.out).cell 3
      go_simp
      exact k_of (HK.out (.agg #[.int .i64 x.plo, .int .i64 x.phi]) _ rfl hB (Below.refl _ _)) (by rw [← u1_eq e15]; kernel_rfl)
    · intro u W hB _ hd _ K hK
      have HK := Lib.hid hK; clear hK
      have e16 : u 16 = .agg #[.int .i64 x.plo, .int .i64 x.phi] := hd 16 (by decide +kernel)
      refine wpOp_of rfl (by rfl) ?_
      go_simp
      exact k_of (HK.out (.slice (some ⟨W.heap.size, 0, none⟩) 1 1) _ ⟨_, rfl, spans_blk (l := [(x.plo, x.phi)]) (Blk.new _ _ _) rfl (by simp)⟩ (hon _ _ hB.out ((Below.refl _ W).alloc (Nat.le_refl _) _)) ((Below.refl _ W).alloc (Nat.le_refl _) _)) (by rw [← u1_eq e16]; kernel_rfl)
    · intro u W hB _ hd _ K hK
      have HK := Lib.hid hK; clear hK
      obtain ⟨b_17, e17, f17_0⟩ : erWkR A n c ix P x z0 17 (u 17) W := hd 17 (by decide +kernel)
      refine wpOp_of rfl (by rfl) ?_
      go_simp
      refine (order_any (c := 1) f17_0).mono ?_
      rintro e w' ⟨rfl, hb⟩
      exact k_of (HK.out (.int .i64 (orderE [(x.plo, x.phi)])) _ rfl (hon _ _ hB.out hb) hb) (by rw [← u1_eq e17]; kernel_rfl)
    · intro u W hB _ hd _ K hK
      have HK := Lib.hid hK; clear hK
      have e2 : u 2 = .int .i64 z0 := hd 2 (by decide +kernel)
      have e6 : u 6 = .int .i64 (rangeE 1 100 [x.th]) := hd 6 (by decide +kernel)
      have e14 : u 14 = .int .i64 (rangeE 1 1000 [x.plo, x.phi]) := hd 14 (by decide +kernel)
      have e18 : u 18 = .int .i64 (orderE [(x.plo, x.phi)]) := hd 18 (by decide +kernel)
      refine wpOp_of rfl (by rfl) ?_
      go_simp
      exact k_of (HK.out (.slice (some ⟨W.heap.size, 0, none⟩) 4 4) _ ⟨_, rfl, ints_blk (Blk.new _ _ _) rfl (by simp)⟩ (hon _ _ hB.out ((Below.refl _ W).alloc (Nat.le_refl _) _)) ((Below.refl _ W).alloc (Nat.le_refl _) _)) (by rw [← u1_eq e2, ← u1_eq e6, ← u1_eq e14, ← u1_eq e18]; kernel_rfl)
    · intro u W hB _ hd _ K hK
      have HK := Lib.hid hK; clear hK
      obtain ⟨b_19, e19, f19_0⟩ : erWkR A n c ix P x z0 19 (u 19) W := hd 19 (by decide +kernel)
      refine wpOp_of rfl (by rfl) ?_
      go_simp
      refine (or_any (c := 4) f19_0).mono ?_
      rintro e w' ⟨rfl, rfl⟩
      exact k_of (HK.out (.int .i64 (orE [z0, (rangeE 1 100 [x.th]), (rangeE 1 1000 [x.plo, x.phi]), (orderE [(x.plo, x.phi)])])) _ rfl hB (Below.refl _ _)) (by rw [← u1_eq e19]; kernel_rfl)
    · intro u W hB _ hd _ K hK
      have HK := Lib.hid hK; clear hK
      have e20 : u 20 = .int .i64 (orE [z0, (rangeE 1 100 [x.th]), (rangeE 1 1000 [x.plo, x.phi]), (orderE [(x.plo, x.phi)])]) := hd 20 (by decide +kernel)
      refine wpOp_of rfl (by rfl) ?_
      go_simp
      exact k_of (HK.out (.int .i64 (orE [z0, (rangeE 1 100 [x.th]), (rangeE 1 1000 [x.plo, x.phi]), (orderE [(x.plo, x.phi)])])) _ rfl hB (Below.refl _ _)) (by rw [← u1_eq e20]; kernel_rfl)
  · intro u W hB hd
    have e21 : u 21 = .int .i64 (orE [z0, (rangeE 1 100 [x.th]), (rangeE 1 1000 [x.plo, x.phi]), (orderE [(x.plo, x.phi)])]) := hd 21 (by decide)
    exact k_of (HQ.out u W hB.out) (by simp only [e21])

/-- What each operation leaves. -/
def erWxR (A : Option Addr) (n c ix P : Nat) (x : Wx) (z0 : Int) : Nat → Value → World → Prop
  | 0, v, _ => v = .slice A n c
  | 1, v, _ => v = .int .i64 (ix : Int)
  | 2, v, _ => v = .int .i64 z0
  | 3, v, _ => v = .pointer (some ⟨P, 7, none⟩)
  | 4, v, _ => v = .int .i64 x.ch
  | 5, v, W => ∃ b_5, v = .slice (some ⟨b_5, 0, none⟩) 1 1 ∧ IntsIn W (some ⟨b_5, 0, none⟩) [x.ch]
  | 6, v, _ => v = .int .i64 (rangeE 0 50 [x.ch])
  | 7, v, _ => v = .pointer (some ⟨P, 1, none⟩)
  | 8, v, _ => v = .pointer (some ⟨P, 1, none⟩)
  | 9, v, _ => v = .int .i64 x.flo
  | 10, v, _ => v = .pointer (some ⟨P, 1, none⟩)
  | 11, v, _ => v = .pointer (some ⟨P, 2, none⟩)
  | 12, v, _ => v = .int .i64 x.fhi
  | 13, v, W => ∃ b_13, v = .slice (some ⟨b_13, 0, none⟩) 2 2 ∧ IntsIn W (some ⟨b_13, 0, none⟩) [x.flo, x.fhi]
  | 14, v, _ => v = .int .i64 (rangeE 1 300 [x.flo, x.fhi])
  | 15, v, _ => v = .pointer (some ⟨P, 3, none⟩)
  | 16, v, _ => v = .pointer (some ⟨P, 3, none⟩)
  | 17, v, _ => v = .int .i64 x.rlo
  | 18, v, _ => v = .pointer (some ⟨P, 3, none⟩)
  | 19, v, _ => v = .pointer (some ⟨P, 4, none⟩)
  | 20, v, _ => v = .int .i64 x.rhi
  | 21, v, W => ∃ b_21, v = .slice (some ⟨b_21, 0, none⟩) 2 2 ∧ IntsIn W (some ⟨b_21, 0, none⟩) [x.rlo, x.rhi]
  | 22, v, _ => v = .int .i64 (rangeE 1 1000 [x.rlo, x.rhi])
  | 23, v, _ => v = .pointer (some ⟨P, 5, none⟩)
  | 24, v, _ => v = .pointer (some ⟨P, 5, none⟩)
  | 25, v, _ => v = .int .i64 x.slo
  | 26, v, _ => v = .pointer (some ⟨P, 5, none⟩)
  | 27, v, _ => v = .pointer (some ⟨P, 6, none⟩)
  | 28, v, _ => v = .int .i64 x.shi
  | 29, v, W => ∃ b_29, v = .slice (some ⟨b_29, 0, none⟩) 2 2 ∧ IntsIn W (some ⟨b_29, 0, none⟩) [x.slo, x.shi]
  | 30, v, _ => v = .int .i64 (rangeE 1 2000 [x.slo, x.shi])
  | 31, v, _ => v = .pointer (some ⟨P, 1, none⟩)
  | 32, v, _ => v = .agg #[.int .i64 x.flo, .int .i64 x.fhi]
  | 33, v, _ => v = .pointer (some ⟨P, 3, none⟩)
  | 34, v, _ => v = .agg #[.int .i64 x.rlo, .int .i64 x.rhi]
  | 35, v, _ => v = .pointer (some ⟨P, 5, none⟩)
  | 36, v, _ => v = .agg #[.int .i64 x.slo, .int .i64 x.shi]
  | 37, v, W => ∃ b_37, v = .slice (some ⟨b_37, 0, none⟩) 3 3 ∧ SpansIn W (some ⟨b_37, 0, none⟩) [(x.flo, x.fhi), (x.rlo, x.rhi), (x.slo, x.shi)]
  | 38, v, _ => v = .int .i64 (orderE [(x.flo, x.fhi), (x.rlo, x.rhi), (x.slo, x.shi)])
  | 39, v, W => ∃ b_39, v = .slice (some ⟨b_39, 0, none⟩) 6 6 ∧ IntsIn W (some ⟨b_39, 0, none⟩) [z0, (rangeE 0 50 [x.ch]), (rangeE 1 300 [x.flo, x.fhi]), (rangeE 1 1000 [x.rlo, x.rhi]), (rangeE 1 2000 [x.slo, x.shi]), (orderE [(x.flo, x.fhi), (x.rlo, x.rhi), (x.slo, x.shi)])]
  | 40, v, _ => v = .int .i64 (orE [z0, (rangeE 0 50 [x.ch]), (rangeE 1 300 [x.flo, x.fhi]), (rangeE 1 1000 [x.rlo, x.rhi]), (rangeE 1 2000 [x.slo, x.shi]), (orderE [(x.flo, x.fhi), (x.rlo, x.rhi), (x.slo, x.shi)])])
  | 41, v, _ => v = .int .i64 (orE [z0, (rangeE 0 50 [x.ch]), (rangeE 1 300 [x.flo, x.fhi]), (rangeE 1 1000 [x.rlo, x.rhi]), (rangeE 1 2000 [x.slo, x.shi]), (orderE [(x.flo, x.fhi), (x.rlo, x.rhi), (x.slo, x.shi)])])
  | _, _, _ => True
theorem erWxR_on (A : Option Addr) (n c ix P : Nat) (x : Wx) (z0 : Int) : ∀ i, i < 42 → ∀ v W W', erWxR A n c ix P x z0 i v W → Below W.heap.size W W' → erWxR A n c ix P x z0 i v W' := by
  iterate 42 (refine all_succ ?_ ?_)
  · exact all_zero
  · exact fun _ _ _ h _ => h
  · exact fun _ _ _ h _ => h
  · exact fun _ _ _ h _ => h
  · exact fun _ _ _ h _ => h
  · exact fun _ _ _ h _ => h
  · rintro v W W' ⟨b_5, e, h0⟩ hb; exact ⟨b_5, e, h0.on hb⟩
  · exact fun _ _ _ h _ => h
  · exact fun _ _ _ h _ => h
  · exact fun _ _ _ h _ => h
  · exact fun _ _ _ h _ => h
  · exact fun _ _ _ h _ => h
  · exact fun _ _ _ h _ => h
  · exact fun _ _ _ h _ => h
  · rintro v W W' ⟨b_13, e, h0⟩ hb; exact ⟨b_13, e, h0.on hb⟩
  · exact fun _ _ _ h _ => h
  · exact fun _ _ _ h _ => h
  · exact fun _ _ _ h _ => h
  · exact fun _ _ _ h _ => h
  · exact fun _ _ _ h _ => h
  · exact fun _ _ _ h _ => h
  · exact fun _ _ _ h _ => h
  · rintro v W W' ⟨b_21, e, h0⟩ hb; exact ⟨b_21, e, h0.on hb⟩
  · exact fun _ _ _ h _ => h
  · exact fun _ _ _ h _ => h
  · exact fun _ _ _ h _ => h
  · exact fun _ _ _ h _ => h
  · exact fun _ _ _ h _ => h
  · exact fun _ _ _ h _ => h
  · exact fun _ _ _ h _ => h
  · rintro v W W' ⟨b_29, e, h0⟩ hb; exact ⟨b_29, e, h0.on hb⟩
  · exact fun _ _ _ h _ => h
  · exact fun _ _ _ h _ => h
  · exact fun _ _ _ h _ => h
  · exact fun _ _ _ h _ => h
  · exact fun _ _ _ h _ => h
  · exact fun _ _ _ h _ => h
  · exact fun _ _ _ h _ => h
  · rintro v W W' ⟨b_37, e, h0⟩ hb; exact ⟨b_37, e, h0.on hb⟩
  · exact fun _ _ _ h _ => h
  · rintro v W W' ⟨b_39, e, h0⟩ hb; exact ⟨b_39, e, h0.on hb⟩
  · exact fun _ _ _ h _ => h
  · exact fun _ _ _ h _ => h
set_option maxRecDepth 100000 in
set_option maxHeartbeats 8000000 in
theorem erWx_region {S : World → Prop} (hon : ∀ W W', S W → Below W.heap.size W W' → S W') {A : Option Addr} {n c ix P : Nat} {x : Wx} {z0 : Int} (HN : Hid (∀ W, S W → Calls Try.prog 70 #[.slice A n c, .int .i64 (ix : Int), .func (.func 71) #[] #[]] W fun e w' => e = .returned (.int .i64 z0) ∧ Below W.heap.size W w')) (hP : ∀ W, S W → Blk W P 80 #[.string x.nm, .int .i64 x.flo, .int .i64 x.fhi, .int .i64 x.rlo, .int .i64 x.rhi, .int .i64 x.slo, .int .i64 x.shi, .int .i64 x.ch]) {Q : Exit → Act → World → Prop} {s2 s3 s6 s7 s8 s9 : Value} {W0 : World} (HL : Hid (S W0))
    (HQ : Hid (∀ (u : Nat → Value) (W : World), S W → Q .normal ⟨#[.slice A n c, .int .i64 (ix : Int), s2, s3, .int .i64 (orE [z0, (rangeE 0 50 [x.ch]), (rangeE 1 300 [x.flo, x.fhi]), (rangeE 1 1000 [x.rlo, x.rhi]), (rangeE 1 2000 [x.slo, x.shi]), (orderE [(x.flo, x.fhi), (x.rlo, x.rhi), (x.slo, x.shi)])]), .pointer (some ⟨P, 0, none⟩), s6, s7, s8, s9, u 0, u 1, u 2, u 3, u 4, u 5, u 6, u 7, u 8, u 9, u 10, u 11, u 12, u 13, u 14, u 15, u 16, u 17, u 18, u 19, u 20, u 21, u 22, u 23, u 24, u 25, u 26, u 27, u 28, u 29, u 30, u 31, u 32, u 33, u 34, u 35, u 36, u 37, u 38, u 39, u 40], []⟩ W)) :
    Code.wp Try.prog ((Try.f44.body.bind (regionAt 2)).getD .skip) Q ⟨#[.slice A n c, .int .i64 (ix : Int), s2, s3, .int .i64 0, .pointer (some ⟨P, 0, none⟩), s6, s7, s8, s9, undef, undef, undef, undef, undef, undef, undef, undef, undef, undef, undef, undef, undef, undef, undef, undef, undef, undef, undef, undef, undef, undef, undef, undef, undef, undef, undef, undef, undef, undef, undef, undef, undef, undef, undef, undef, undef, undef, undef, undef, undef], []⟩ W0 := by
  conv => arg 2; whnf
  refine wp_region_spec (by kernel_rfl) 42 (by kernel_rfl) (fun u => ⟨#[.slice A n c, .int .i64 (ix : Int), s2, s3, u 41, .pointer (some ⟨P, 0, none⟩), s6, s7, s8, s9, u 0, u 1, u 2, u 3, u 4, u 5, u 6, u 7, u 8, u 9, u 10, u 11, u 12, u 13, u 14, u 15, u 16, u 17, u 18, u 19, u 20, u 21, u 22, u 23, u 24, u 25, u 26, u 27, u 28, u 29, u 30, u 31, u 32, u 33, u 34, u 35, u 36, u 37, u 38, u 39, u 40], []⟩) (fun i => if i = 41 then .int .i64 0 else undef) (fun W => Hid (S W)) (erWxR A n c ix P x z0) (by kernel_rfl) (hon _ _ HL.out (Below.refl _ _).drew) (fun i v W W2 hi h hb => erWxR_on A n c ix P x z0 i hi v W W2 h hb) (by decide +kernel) ?_ ?_
  · iterate 42 (refine all_succ ?_ ?_)
    · exact all_zero
    · intro u W hB _ hd _ K hK
      have HK := Lib.hid hK; clear hK
      refine wpOp_of rfl (by rfl) ?_
      go_simp
      exact k_of (HK.out (.slice A n c) _ rfl hB (Below.refl _ _)) (by kernel_rfl)
    · intro u W hB _ hd _ K hK
      have HK := Lib.hid hK; clear hK
      refine wpOp_of rfl (by rfl) ?_
      go_simp
      exact k_of (HK.out (.int .i64 (ix : Int)) _ rfl hB (Below.refl _ _)) (by kernel_rfl)
    · intro u W hB _ hd _ K hK
      have HK := Lib.hid hK; clear hK
      have e0 : u 0 = .slice A n c := hd 0 (by decide +kernel)
      have e1 : u 1 = .int .i64 (ix : Int) := hd 1 (by decide +kernel)
      refine wpOp_of rfl (by rfl) ?_
      go_simp
      refine (HN.out W hB.out).mono ?_
      rintro e w' ⟨rfl, hb⟩
      exact k_of (HK.out (.int .i64 z0) _ rfl (hon _ _ hB.out hb) hb) (by rw [← u1_eq e0, ← u1_eq e1]; kernel_rfl)
    · intro u W hB _ hd _ K hK
      have HK := Lib.hid hK; clear hK
      refine wpOp_of rfl (by rfl) ?_
      go_simp
      exact k_of (HK.out (.pointer (some ⟨P, 7, none⟩)) _ rfl hB (Below.refl _ _)) (by kernel_rfl)
    · intro u W hB _ hd _ K hK
      have HK := Lib.hid hK; clear hK
      have e3 : u 3 = .pointer (some ⟨P, 7, none⟩) := hd 3 (by decide +kernel)
      refine wpOp_of rfl (by rfl) ?_
      have z7 := (hP W hB.out).cell 7
      go_simp
      exact k_of (HK.out (.int .i64 x.ch) _ rfl hB (Below.refl _ _)) (by rw [← u1_eq e3]; kernel_rfl)
    · intro u W hB _ hd _ K hK
      have HK := Lib.hid hK; clear hK
      have e4 : u 4 = .int .i64 x.ch := hd 4 (by decide +kernel)
      refine wpOp_of rfl (by rfl) ?_
      go_simp
      exact k_of (HK.out (.slice (some ⟨W.heap.size, 0, none⟩) 1 1) _ ⟨_, rfl, ints_blk (Blk.new _ _ _) rfl (by simp)⟩ (hon _ _ hB.out ((Below.refl _ W).alloc (Nat.le_refl _) _)) ((Below.refl _ W).alloc (Nat.le_refl _) _)) (by rw [← u1_eq e4]; kernel_rfl)
    · intro u W hB _ hd _ K hK
      have HK := Lib.hid hK; clear hK
      obtain ⟨b_5, e5, f5_0⟩ : erWxR A n c ix P x z0 5 (u 5) W := hd 5 (by decide +kernel)
      refine wpOp_of rfl (by rfl) ?_
      go_simp
      refine (range_any (c := 1) 0 50 f5_0).mono ?_
      rintro e w' ⟨rfl, rfl⟩
      exact k_of (HK.out (.int .i64 (rangeE 0 50 [x.ch])) _ rfl hB (Below.refl _ _)) (by rw [← u1_eq e5]; kernel_rfl)
    · intro u W hB _ hd _ K hK
      have HK := Lib.hid hK; clear hK
      refine wpOp_of rfl (by rfl) ?_
      go_simp
      exact k_of (HK.out (.pointer (some ⟨P, 1, none⟩)) _ rfl hB (Below.refl _ _)) (by kernel_rfl)
    · intro u W hB _ hd _ K hK
      have HK := Lib.hid hK; clear hK
      have e7 : u 7 = .pointer (some ⟨P, 1, none⟩) := hd 7 (by decide +kernel)
      refine wpOp_of rfl (by rfl) ?_
      go_simp
      exact k_of (HK.out (.pointer (some ⟨P, 1, none⟩)) _ rfl hB (Below.refl _ _)) (by rw [← u1_eq e7]; kernel_rfl)
    · intro u W hB _ hd _ K hK
      have HK := Lib.hid hK; clear hK
      have e8 : u 8 = .pointer (some ⟨P, 1, none⟩) := hd 8 (by decide +kernel)
      refine wpOp_of rfl (by rfl) ?_
      have z1 := (hP W hB.out).cell 1
      go_simp
      exact k_of (HK.out (.int .i64 x.flo) _ rfl hB (Below.refl _ _)) (by rw [← u1_eq e8]; kernel_rfl)
    · intro u W hB _ hd _ K hK
      have HK := Lib.hid hK; clear hK
      refine wpOp_of rfl (by rfl) ?_
      go_simp
      exact k_of (HK.out (.pointer (some ⟨P, 1, none⟩)) _ rfl hB (Below.refl _ _)) (by kernel_rfl)
    · intro u W hB _ hd _ K hK
      have HK := Lib.hid hK; clear hK
      have e10 : u 10 = .pointer (some ⟨P, 1, none⟩) := hd 10 (by decide +kernel)
      refine wpOp_of rfl (by rfl) ?_
      go_simp
      exact k_of (HK.out (.pointer (some ⟨P, 2, none⟩)) _ rfl hB (Below.refl _ _)) (by rw [← u1_eq e10]; kernel_rfl)
    · intro u W hB _ hd _ K hK
      have HK := Lib.hid hK; clear hK
      have e11 : u 11 = .pointer (some ⟨P, 2, none⟩) := hd 11 (by decide +kernel)
      refine wpOp_of rfl (by rfl) ?_
      have z2 := (hP W hB.out).cell 2
      go_simp
      exact k_of (HK.out (.int .i64 x.fhi) _ rfl hB (Below.refl _ _)) (by rw [← u1_eq e11]; kernel_rfl)
    · intro u W hB _ hd _ K hK
      have HK := Lib.hid hK; clear hK
      have e9 : u 9 = .int .i64 x.flo := hd 9 (by decide +kernel)
      have e12 : u 12 = .int .i64 x.fhi := hd 12 (by decide +kernel)
      refine wpOp_of rfl (by rfl) ?_
      go_simp
      exact k_of (HK.out (.slice (some ⟨W.heap.size, 0, none⟩) 2 2) _ ⟨_, rfl, ints_blk (Blk.new _ _ _) rfl (by simp)⟩ (hon _ _ hB.out ((Below.refl _ W).alloc (Nat.le_refl _) _)) ((Below.refl _ W).alloc (Nat.le_refl _) _)) (by rw [← u1_eq e9, ← u1_eq e12]; kernel_rfl)
    · intro u W hB _ hd _ K hK
      have HK := Lib.hid hK; clear hK
      obtain ⟨b_13, e13, f13_0⟩ : erWxR A n c ix P x z0 13 (u 13) W := hd 13 (by decide +kernel)
      refine wpOp_of rfl (by rfl) ?_
      go_simp
      refine (range_any (c := 2) 1 300 f13_0).mono ?_
      rintro e w' ⟨rfl, rfl⟩
      exact k_of (HK.out (.int .i64 (rangeE 1 300 [x.flo, x.fhi])) _ rfl hB (Below.refl _ _)) (by rw [← u1_eq e13]; kernel_rfl)
    · intro u W hB _ hd _ K hK
      have HK := Lib.hid hK; clear hK
      refine wpOp_of rfl (by rfl) ?_
      go_simp
      exact k_of (HK.out (.pointer (some ⟨P, 3, none⟩)) _ rfl hB (Below.refl _ _)) (by kernel_rfl)
    · intro u W hB _ hd _ K hK
      have HK := Lib.hid hK; clear hK
      have e15 : u 15 = .pointer (some ⟨P, 3, none⟩) := hd 15 (by decide +kernel)
      refine wpOp_of rfl (by rfl) ?_
      go_simp
      exact k_of (HK.out (.pointer (some ⟨P, 3, none⟩)) _ rfl hB (Below.refl _ _)) (by rw [← u1_eq e15]; kernel_rfl)
    · intro u W hB _ hd _ K hK
      have HK := Lib.hid hK; clear hK
      have e16 : u 16 = .pointer (some ⟨P, 3, none⟩) := hd 16 (by decide +kernel)
      refine wpOp_of rfl (by rfl) ?_
      have z3 := (hP W hB.out).cell 3
      go_simp
      exact k_of (HK.out (.int .i64 x.rlo) _ rfl hB (Below.refl _ _)) (by rw [← u1_eq e16]; kernel_rfl)
    · intro u W hB _ hd _ K hK
      have HK := Lib.hid hK; clear hK
      refine wpOp_of rfl (by rfl) ?_
      go_simp
      exact k_of (HK.out (.pointer (some ⟨P, 3, none⟩)) _ rfl hB (Below.refl _ _)) (by kernel_rfl)
    · intro u W hB _ hd _ K hK
      have HK := Lib.hid hK; clear hK
      have e18 : u 18 = .pointer (some ⟨P, 3, none⟩) := hd 18 (by decide +kernel)
      refine wpOp_of rfl (by rfl) ?_
      go_simp
      exact k_of (HK.out (.pointer (some ⟨P, 4, none⟩)) _ rfl hB (Below.refl _ _)) (by rw [← u1_eq e18]; kernel_rfl)
    · intro u W hB _ hd _ K hK
      have HK := Lib.hid hK; clear hK
      have e19 : u 19 = .pointer (some ⟨P, 4, none⟩) := hd 19 (by decide +kernel)
      refine wpOp_of rfl (by rfl) ?_
      have z4 := (hP W hB.out).cell 4
      go_simp
      exact k_of (HK.out (.int .i64 x.rhi) _ rfl hB (Below.refl _ _)) (by rw [← u1_eq e19]; kernel_rfl)
    · intro u W hB _ hd _ K hK
      have HK := Lib.hid hK; clear hK
      have e17 : u 17 = .int .i64 x.rlo := hd 17 (by decide +kernel)
      have e20 : u 20 = .int .i64 x.rhi := hd 20 (by decide +kernel)
      refine wpOp_of rfl (by rfl) ?_
      go_simp
      exact k_of (HK.out (.slice (some ⟨W.heap.size, 0, none⟩) 2 2) _ ⟨_, rfl, ints_blk (Blk.new _ _ _) rfl (by simp)⟩ (hon _ _ hB.out ((Below.refl _ W).alloc (Nat.le_refl _) _)) ((Below.refl _ W).alloc (Nat.le_refl _) _)) (by rw [← u1_eq e17, ← u1_eq e20]; kernel_rfl)
    · intro u W hB _ hd _ K hK
      have HK := Lib.hid hK; clear hK
      obtain ⟨b_21, e21, f21_0⟩ : erWxR A n c ix P x z0 21 (u 21) W := hd 21 (by decide +kernel)
      refine wpOp_of rfl (by rfl) ?_
      go_simp
      refine (range_any (c := 2) 1 1000 f21_0).mono ?_
      rintro e w' ⟨rfl, rfl⟩
      exact k_of (HK.out (.int .i64 (rangeE 1 1000 [x.rlo, x.rhi])) _ rfl hB (Below.refl _ _)) (by rw [← u1_eq e21]; kernel_rfl)
    · intro u W hB _ hd _ K hK
      have HK := Lib.hid hK; clear hK
      refine wpOp_of rfl (by rfl) ?_
      go_simp
      exact k_of (HK.out (.pointer (some ⟨P, 5, none⟩)) _ rfl hB (Below.refl _ _)) (by kernel_rfl)
    · intro u W hB _ hd _ K hK
      have HK := Lib.hid hK; clear hK
      have e23 : u 23 = .pointer (some ⟨P, 5, none⟩) := hd 23 (by decide +kernel)
      refine wpOp_of rfl (by rfl) ?_
      go_simp
      exact k_of (HK.out (.pointer (some ⟨P, 5, none⟩)) _ rfl hB (Below.refl _ _)) (by rw [← u1_eq e23]; kernel_rfl)
    · intro u W hB _ hd _ K hK
      have HK := Lib.hid hK; clear hK
      have e24 : u 24 = .pointer (some ⟨P, 5, none⟩) := hd 24 (by decide +kernel)
      refine wpOp_of rfl (by rfl) ?_
      have z5 := (hP W hB.out).cell 5
      go_simp
      exact k_of (HK.out (.int .i64 x.slo) _ rfl hB (Below.refl _ _)) (by rw [← u1_eq e24]; kernel_rfl)
    · intro u W hB _ hd _ K hK
      have HK := Lib.hid hK; clear hK
      refine wpOp_of rfl (by rfl) ?_
      go_simp
      exact k_of (HK.out (.pointer (some ⟨P, 5, none⟩)) _ rfl hB (Below.refl _ _)) (by kernel_rfl)
    · intro u W hB _ hd _ K hK
      have HK := Lib.hid hK; clear hK
      have e26 : u 26 = .pointer (some ⟨P, 5, none⟩) := hd 26 (by decide +kernel)
      refine wpOp_of rfl (by rfl) ?_
      go_simp
      exact k_of (HK.out (.pointer (some ⟨P, 6, none⟩)) _ rfl hB (Below.refl _ _)) (by rw [← u1_eq e26]; kernel_rfl)
    · intro u W hB _ hd _ K hK
      have HK := Lib.hid hK; clear hK
      have e27 : u 27 = .pointer (some ⟨P, 6, none⟩) := hd 27 (by decide +kernel)
      refine wpOp_of rfl (by rfl) ?_
      have z6 := (hP W hB.out).cell 6
      go_simp
      exact k_of (HK.out (.int .i64 x.shi) _ rfl hB (Below.refl _ _)) (by rw [← u1_eq e27]; kernel_rfl)
    · intro u W hB _ hd _ K hK
      have HK := Lib.hid hK; clear hK
      have e25 : u 25 = .int .i64 x.slo := hd 25 (by decide +kernel)
      have e28 : u 28 = .int .i64 x.shi := hd 28 (by decide +kernel)
      refine wpOp_of rfl (by rfl) ?_
      go_simp
      exact k_of (HK.out (.slice (some ⟨W.heap.size, 0, none⟩) 2 2) _ ⟨_, rfl, ints_blk (Blk.new _ _ _) rfl (by simp)⟩ (hon _ _ hB.out ((Below.refl _ W).alloc (Nat.le_refl _) _)) ((Below.refl _ W).alloc (Nat.le_refl _) _)) (by rw [← u1_eq e25, ← u1_eq e28]; kernel_rfl)
    · intro u W hB _ hd _ K hK
      have HK := Lib.hid hK; clear hK
      obtain ⟨b_29, e29, f29_0⟩ : erWxR A n c ix P x z0 29 (u 29) W := hd 29 (by decide +kernel)
      refine wpOp_of rfl (by rfl) ?_
      go_simp
      refine (range_any (c := 2) 1 2000 f29_0).mono ?_
      rintro e w' ⟨rfl, rfl⟩
      exact k_of (HK.out (.int .i64 (rangeE 1 2000 [x.slo, x.shi])) _ rfl hB (Below.refl _ _)) (by rw [← u1_eq e29]; kernel_rfl)
    · intro u W hB _ hd _ K hK
      have HK := Lib.hid hK; clear hK
      refine wpOp_of rfl (by rfl) ?_
      go_simp
      exact k_of (HK.out (.pointer (some ⟨P, 1, none⟩)) _ rfl hB (Below.refl _ _)) (by kernel_rfl)
    · intro u W hB _ hd _ K hK
      have HK := Lib.hid hK; clear hK
      have e31 : u 31 = .pointer (some ⟨P, 1, none⟩) := hd 31 (by decide +kernel)
      refine wpOp_of rfl (by rfl) ?_
      have z1 := (hP W hB.out).cell 1; have z2 := (hP W hB.out).cell 2
      go_simp
      exact k_of (HK.out (.agg #[.int .i64 x.flo, .int .i64 x.fhi]) _ rfl hB (Below.refl _ _)) (by rw [← u1_eq e31]; kernel_rfl)
    · intro u W hB _ hd _ K hK
      have HK := Lib.hid hK; clear hK
      refine wpOp_of rfl (by rfl) ?_
      go_simp
      exact k_of (HK.out (.pointer (some ⟨P, 3, none⟩)) _ rfl hB (Below.refl _ _)) (by kernel_rfl)
    · intro u W hB _ hd _ K hK
      have HK := Lib.hid hK; clear hK
      have e33 : u 33 = .pointer (some ⟨P, 3, none⟩) := hd 33 (by decide +kernel)
      refine wpOp_of rfl (by rfl) ?_
      have z3 := (hP W hB.out).cell 3; have z4 := (hP W hB.out).cell 4
      go_simp
      exact k_of (HK.out (.agg #[.int .i64 x.rlo, .int .i64 x.rhi]) _ rfl hB (Below.refl _ _)) (by rw [← u1_eq e33]; kernel_rfl)
    · intro u W hB _ hd _ K hK
      have HK := Lib.hid hK; clear hK
      refine wpOp_of rfl (by rfl) ?_
      go_simp
      exact k_of (HK.out (.pointer (some ⟨P, 5, none⟩)) _ rfl hB (Below.refl _ _)) (by kernel_rfl)
    · intro u W hB _ hd _ K hK
      have HK := Lib.hid hK; clear hK
      have e35 : u 35 = .pointer (some ⟨P, 5, none⟩) := hd 35 (by decide +kernel)
      refine wpOp_of rfl (by rfl) ?_
      have z5 := (hP W hB.out).cell 5; have z6 := (hP W hB.out).cell 6
      go_simp
      exact k_of (HK.out (.agg #[.int .i64 x.slo, .int .i64 x.shi]) _ rfl hB (Below.refl _ _)) (by rw [← u1_eq e35]; kernel_rfl)
    · intro u W hB _ hd _ K hK
      have HK := Lib.hid hK; clear hK
      have e32 : u 32 = .agg #[.int .i64 x.flo, .int .i64 x.fhi] := hd 32 (by decide +kernel)
      have e34 : u 34 = .agg #[.int .i64 x.rlo, .int .i64 x.rhi] := hd 34 (by decide +kernel)
      have e36 : u 36 = .agg #[.int .i64 x.slo, .int .i64 x.shi] := hd 36 (by decide +kernel)
      refine wpOp_of rfl (by rfl) ?_
      go_simp
      exact k_of (HK.out (.slice (some ⟨W.heap.size, 0, none⟩) 3 3) _ ⟨_, rfl, spans_blk (l := [(x.flo, x.fhi), (x.rlo, x.rhi), (x.slo, x.shi)]) (Blk.new _ _ _) rfl (by simp)⟩ (hon _ _ hB.out ((Below.refl _ W).alloc (Nat.le_refl _) _)) ((Below.refl _ W).alloc (Nat.le_refl _) _)) (by rw [← u1_eq e32, ← u1_eq e34, ← u1_eq e36]; kernel_rfl)
    · intro u W hB _ hd _ K hK
      have HK := Lib.hid hK; clear hK
      obtain ⟨b_37, e37, f37_0⟩ : erWxR A n c ix P x z0 37 (u 37) W := hd 37 (by decide +kernel)
      refine wpOp_of rfl (by rfl) ?_
      go_simp
      refine (order_any (c := 3) f37_0).mono ?_
      rintro e w' ⟨rfl, hb⟩
      exact k_of (HK.out (.int .i64 (orderE [(x.flo, x.fhi), (x.rlo, x.rhi), (x.slo, x.shi)])) _ rfl (hon _ _ hB.out hb) hb) (by rw [← u1_eq e37]; kernel_rfl)
    · intro u W hB _ hd _ K hK
      have HK := Lib.hid hK; clear hK
      have e2 : u 2 = .int .i64 z0 := hd 2 (by decide +kernel)
      have e6 : u 6 = .int .i64 (rangeE 0 50 [x.ch]) := hd 6 (by decide +kernel)
      have e14 : u 14 = .int .i64 (rangeE 1 300 [x.flo, x.fhi]) := hd 14 (by decide +kernel)
      have e22 : u 22 = .int .i64 (rangeE 1 1000 [x.rlo, x.rhi]) := hd 22 (by decide +kernel)
      have e30 : u 30 = .int .i64 (rangeE 1 2000 [x.slo, x.shi]) := hd 30 (by decide +kernel)
      have e38 : u 38 = .int .i64 (orderE [(x.flo, x.fhi), (x.rlo, x.rhi), (x.slo, x.shi)]) := hd 38 (by decide +kernel)
      refine wpOp_of rfl (by rfl) ?_
      go_simp
      exact k_of (HK.out (.slice (some ⟨W.heap.size, 0, none⟩) 6 6) _ ⟨_, rfl, ints_blk (Blk.new _ _ _) rfl (by simp)⟩ (hon _ _ hB.out ((Below.refl _ W).alloc (Nat.le_refl _) _)) ((Below.refl _ W).alloc (Nat.le_refl _) _)) (by rw [← u1_eq e2, ← u1_eq e6, ← u1_eq e14, ← u1_eq e22, ← u1_eq e30, ← u1_eq e38]; kernel_rfl)
    · intro u W hB _ hd _ K hK
      have HK := Lib.hid hK; clear hK
      obtain ⟨b_39, e39, f39_0⟩ : erWxR A n c ix P x z0 39 (u 39) W := hd 39 (by decide +kernel)
      refine wpOp_of rfl (by rfl) ?_
      go_simp
      refine (or_any (c := 6) f39_0).mono ?_
      rintro e w' ⟨rfl, rfl⟩
      exact k_of (HK.out (.int .i64 (orE [z0, (rangeE 0 50 [x.ch]), (rangeE 1 300 [x.flo, x.fhi]), (rangeE 1 1000 [x.rlo, x.rhi]), (rangeE 1 2000 [x.slo, x.shi]), (orderE [(x.flo, x.fhi), (x.rlo, x.rhi), (x.slo, x.shi)])])) _ rfl hB (Below.refl _ _)) (by rw [← u1_eq e39]; kernel_rfl)
    · intro u W hB _ hd _ K hK
      have HK := Lib.hid hK; clear hK
      have e40 : u 40 = .int .i64 (orE [z0, (rangeE 0 50 [x.ch]), (rangeE 1 300 [x.flo, x.fhi]), (rangeE 1 1000 [x.rlo, x.rhi]), (rangeE 1 2000 [x.slo, x.shi]), (orderE [(x.flo, x.fhi), (x.rlo, x.rhi), (x.slo, x.shi)])]) := hd 40 (by decide +kernel)
      refine wpOp_of rfl (by rfl) ?_
      go_simp
      exact k_of (HK.out (.int .i64 (orE [z0, (rangeE 0 50 [x.ch]), (rangeE 1 300 [x.flo, x.fhi]), (rangeE 1 1000 [x.rlo, x.rhi]), (rangeE 1 2000 [x.slo, x.shi]), (orderE [(x.flo, x.fhi), (x.rlo, x.rhi), (x.slo, x.shi)])])) _ rfl hB (Below.refl _ _)) (by rw [← u1_eq e40]; kernel_rfl)
  · intro u W hB hd
    have e41 : u 41 = .int .i64 (orE [z0, (rangeE 0 50 [x.ch]), (rangeE 1 300 [x.flo, x.fhi]), (rangeE 1 1000 [x.rlo, x.rhi]), (rangeE 1 2000 [x.slo, x.shi]), (orderE [(x.flo, x.fhi), (x.rlo, x.rhi), (x.slo, x.shi)])]) := hd 41 (by decide)
    exact k_of (HQ.out u W hB.out) (by simp only [e41])

/-- What each operation leaves. -/
def bdR (P : Nat) (p : Sp) : Nat → Value → World → Prop
  | 0, v, _ => v = .pointer (some ⟨P, 2, none⟩)
  | 1, v, _ => v = .pointer (some ⟨P, 2, none⟩)
  | 2, v, _ => v = .int .i64 p.s.flo
  | 3, v, _ => v = .pointer (some ⟨P, 2, none⟩)
  | 4, v, _ => v = .pointer (some ⟨P, 3, none⟩)
  | 5, v, _ => v = .int .i64 p.s.fhi
  | 6, v, _ => v = .pointer (some ⟨P, 4, none⟩)
  | 7, v, _ => v = .pointer (some ⟨P, 4, none⟩)
  | 8, v, _ => v = .int .i64 p.s.plo
  | 9, v, _ => v = .pointer (some ⟨P, 4, none⟩)
  | 10, v, _ => v = .pointer (some ⟨P, 5, none⟩)
  | 11, v, _ => v = .int .i64 p.s.phi
  | 12, v, W => ∃ b_12, v = .slice (some ⟨b_12, 0, none⟩) 4 4 ∧ IntsIn W (some ⟨b_12, 0, none⟩) [p.s.flo, p.s.fhi, p.s.plo, p.s.phi]
  | 13, v, _ => v = .int .i64 (rangeE 0 2000 [p.s.flo, p.s.fhi, p.s.plo, p.s.phi])
  | 14, v, _ => v = .pointer (some ⟨P, 2, none⟩)
  | 15, v, _ => v = .agg #[.int .i64 p.s.flo, .int .i64 p.s.fhi]
  | 16, v, _ => v = .pointer (some ⟨P, 4, none⟩)
  | 17, v, _ => v = .agg #[.int .i64 p.s.plo, .int .i64 p.s.phi]
  | 18, v, W => ∃ b_18, v = .slice (some ⟨b_18, 0, none⟩) 2 2 ∧ SpansIn W (some ⟨b_18, 0, none⟩) [(p.s.flo, p.s.fhi), (p.s.plo, p.s.phi)]
  | 19, v, _ => v = .int .i64 (orderE [(p.s.flo, p.s.fhi), (p.s.plo, p.s.phi)])
  | 20, v, W => ∃ b_20, v = .slice (some ⟨b_20, 0, none⟩) 2 2 ∧ IntsIn W (some ⟨b_20, 0, none⟩) [(rangeE 0 2000 [p.s.flo, p.s.fhi, p.s.plo, p.s.phi]), (orderE [(p.s.flo, p.s.fhi), (p.s.plo, p.s.phi)])]
  | 21, v, _ => v = .int .i64 (orE [(rangeE 0 2000 [p.s.flo, p.s.fhi, p.s.plo, p.s.phi]), (orderE [(p.s.flo, p.s.fhi), (p.s.plo, p.s.phi)])])
  | 22, v, _ => v = .int .i64 (orE [(rangeE 0 2000 [p.s.flo, p.s.fhi, p.s.plo, p.s.phi]), (orderE [(p.s.flo, p.s.fhi), (p.s.plo, p.s.phi)])])
  | _, _, _ => True
theorem bdR_on (P : Nat) (p : Sp) : ∀ i, i < 23 → ∀ v W W', bdR P p i v W → Below W.heap.size W W' → bdR P p i v W' := by
  iterate 23 (refine all_succ ?_ ?_)
  · exact all_zero
  · exact fun _ _ _ h _ => h
  · exact fun _ _ _ h _ => h
  · exact fun _ _ _ h _ => h
  · exact fun _ _ _ h _ => h
  · exact fun _ _ _ h _ => h
  · exact fun _ _ _ h _ => h
  · exact fun _ _ _ h _ => h
  · exact fun _ _ _ h _ => h
  · exact fun _ _ _ h _ => h
  · exact fun _ _ _ h _ => h
  · exact fun _ _ _ h _ => h
  · exact fun _ _ _ h _ => h
  · rintro v W W' ⟨b_12, e, h0⟩ hb; exact ⟨b_12, e, h0.on hb⟩
  · exact fun _ _ _ h _ => h
  · exact fun _ _ _ h _ => h
  · exact fun _ _ _ h _ => h
  · exact fun _ _ _ h _ => h
  · exact fun _ _ _ h _ => h
  · rintro v W W' ⟨b_18, e, h0⟩ hb; exact ⟨b_18, e, h0.on hb⟩
  · exact fun _ _ _ h _ => h
  · rintro v W W' ⟨b_20, e, h0⟩ hb; exact ⟨b_20, e, h0.on hb⟩
  · exact fun _ _ _ h _ => h
  · exact fun _ _ _ h _ => h
set_option maxRecDepth 100000 in
set_option maxHeartbeats 8000000 in
theorem bd_region {S : World → Prop} (hon : ∀ W W', S W → Below W.heap.size W W' → S W') {P : Nat} {p : Sp} (hP : ∀ W, S W → Blk W P 27 #[.slice p.ka p.s.ks.length p.kc, .slice p.xa p.s.xs.length p.xc, .int .i64 p.s.flo, .int .i64 p.s.fhi, .int .i64 p.s.plo, .int .i64 p.s.phi]) {Q : Exit → Act → World → Prop} {s0 s3 s4 s5 s6 s7 s8 s9 s10 s11 s12 s13 s14 s15 s16 : Value} {W0 : World} (HL : Hid (S W0))
    (HQ : Hid (∀ (u : Nat → Value) (W : World), S W → Q .normal ⟨#[s0, .pointer (some ⟨P, 0, none⟩), .int .i64 (orE [(rangeE 0 2000 [p.s.flo, p.s.fhi, p.s.plo, p.s.phi]), (orderE [(p.s.flo, p.s.fhi), (p.s.plo, p.s.phi)])]), s3, s4, s5, s6, s7, s8, s9, s10, s11, s12, s13, s14, s15, s16, u 0, u 1, u 2, u 3, u 4, u 5, u 6, u 7, u 8, u 9, u 10, u 11, u 12, u 13, u 14, u 15, u 16, u 17, u 18, u 19, u 20, u 21], []⟩ W)) :
    Code.wp Try.prog ((Try.f42.body.bind (regionAt 3)).getD .skip) Q ⟨#[s0, .pointer (some ⟨P, 0, none⟩), .int .i64 0, s3, s4, s5, s6, s7, s8, s9, s10, s11, s12, s13, s14, s15, s16, undef, undef, undef, undef, undef, undef, undef, undef, undef, undef, undef, undef, undef, undef, undef, undef, undef, undef, undef, undef, undef, undef], []⟩ W0 := by
  conv => arg 2; whnf
  refine wp_region_spec (by kernel_rfl) 23 (by kernel_rfl) (fun u => ⟨#[s0, .pointer (some ⟨P, 0, none⟩), u 22, s3, s4, s5, s6, s7, s8, s9, s10, s11, s12, s13, s14, s15, s16, u 0, u 1, u 2, u 3, u 4, u 5, u 6, u 7, u 8, u 9, u 10, u 11, u 12, u 13, u 14, u 15, u 16, u 17, u 18, u 19, u 20, u 21], []⟩) (fun i => if i = 22 then .int .i64 0 else undef) (fun W => Hid (S W)) (bdR P p) (by kernel_rfl) (hon _ _ HL.out (Below.refl _ _).drew) (fun i v W W2 hi h hb => bdR_on P p i hi v W W2 h hb) (by decide +kernel) ?_ ?_
  · iterate 23 (refine all_succ ?_ ?_)
    · exact all_zero
    · intro u W hB _ hd _ K hK
      have HK := Lib.hid hK; clear hK
      refine wpOp_of rfl (by rfl) ?_
      go_simp
      exact k_of (HK.out (.pointer (some ⟨P, 2, none⟩)) _ rfl hB (Below.refl _ _)) (by kernel_rfl)
    · intro u W hB _ hd _ K hK
      have HK := Lib.hid hK; clear hK
      have e0 : u 0 = .pointer (some ⟨P, 2, none⟩) := hd 0 (by decide +kernel)
      refine wpOp_of rfl (by rfl) ?_
      go_simp
      exact k_of (HK.out (.pointer (some ⟨P, 2, none⟩)) _ rfl hB (Below.refl _ _)) (by rw [← u1_eq e0]; kernel_rfl)
    · intro u W hB _ hd _ K hK
      have HK := Lib.hid hK; clear hK
      have e1 : u 1 = .pointer (some ⟨P, 2, none⟩) := hd 1 (by decide +kernel)
      refine wpOp_of rfl (by rfl) ?_
      have z2 := (hP W hB.out).cell 2
      go_simp
      exact k_of (HK.out (.int .i64 p.s.flo) _ rfl hB (Below.refl _ _)) (by rw [← u1_eq e1]; kernel_rfl)
    · intro u W hB _ hd _ K hK
      have HK := Lib.hid hK; clear hK
      refine wpOp_of rfl (by rfl) ?_
      go_simp
      exact k_of (HK.out (.pointer (some ⟨P, 2, none⟩)) _ rfl hB (Below.refl _ _)) (by kernel_rfl)
    · intro u W hB _ hd _ K hK
      have HK := Lib.hid hK; clear hK
      have e3 : u 3 = .pointer (some ⟨P, 2, none⟩) := hd 3 (by decide +kernel)
      refine wpOp_of rfl (by rfl) ?_
      go_simp
      exact k_of (HK.out (.pointer (some ⟨P, 3, none⟩)) _ rfl hB (Below.refl _ _)) (by rw [← u1_eq e3]; kernel_rfl)
    · intro u W hB _ hd _ K hK
      have HK := Lib.hid hK; clear hK
      have e4 : u 4 = .pointer (some ⟨P, 3, none⟩) := hd 4 (by decide +kernel)
      refine wpOp_of rfl (by rfl) ?_
      have z3 := (hP W hB.out).cell 3
      go_simp
      exact k_of (HK.out (.int .i64 p.s.fhi) _ rfl hB (Below.refl _ _)) (by rw [← u1_eq e4]; kernel_rfl)
    · intro u W hB _ hd _ K hK
      have HK := Lib.hid hK; clear hK
      refine wpOp_of rfl (by rfl) ?_
      go_simp
      exact k_of (HK.out (.pointer (some ⟨P, 4, none⟩)) _ rfl hB (Below.refl _ _)) (by kernel_rfl)
    · intro u W hB _ hd _ K hK
      have HK := Lib.hid hK; clear hK
      have e6 : u 6 = .pointer (some ⟨P, 4, none⟩) := hd 6 (by decide +kernel)
      refine wpOp_of rfl (by rfl) ?_
      go_simp
      exact k_of (HK.out (.pointer (some ⟨P, 4, none⟩)) _ rfl hB (Below.refl _ _)) (by rw [← u1_eq e6]; kernel_rfl)
    · intro u W hB _ hd _ K hK
      have HK := Lib.hid hK; clear hK
      have e7 : u 7 = .pointer (some ⟨P, 4, none⟩) := hd 7 (by decide +kernel)
      refine wpOp_of rfl (by rfl) ?_
      have z4 := (hP W hB.out).cell 4
      go_simp
      exact k_of (HK.out (.int .i64 p.s.plo) _ rfl hB (Below.refl _ _)) (by rw [← u1_eq e7]; kernel_rfl)
    · intro u W hB _ hd _ K hK
      have HK := Lib.hid hK; clear hK
      refine wpOp_of rfl (by rfl) ?_
      go_simp
      exact k_of (HK.out (.pointer (some ⟨P, 4, none⟩)) _ rfl hB (Below.refl _ _)) (by kernel_rfl)
    · intro u W hB _ hd _ K hK
      have HK := Lib.hid hK; clear hK
      have e9 : u 9 = .pointer (some ⟨P, 4, none⟩) := hd 9 (by decide +kernel)
      refine wpOp_of rfl (by rfl) ?_
      go_simp
      exact k_of (HK.out (.pointer (some ⟨P, 5, none⟩)) _ rfl hB (Below.refl _ _)) (by rw [← u1_eq e9]; kernel_rfl)
    · intro u W hB _ hd _ K hK
      have HK := Lib.hid hK; clear hK
      have e10 : u 10 = .pointer (some ⟨P, 5, none⟩) := hd 10 (by decide +kernel)
      refine wpOp_of rfl (by rfl) ?_
      have z5 := (hP W hB.out).cell 5
      go_simp
      exact k_of (HK.out (.int .i64 p.s.phi) _ rfl hB (Below.refl _ _)) (by rw [← u1_eq e10]; kernel_rfl)
    · intro u W hB _ hd _ K hK
      have HK := Lib.hid hK; clear hK
      have e2 : u 2 = .int .i64 p.s.flo := hd 2 (by decide +kernel)
      have e5 : u 5 = .int .i64 p.s.fhi := hd 5 (by decide +kernel)
      have e8 : u 8 = .int .i64 p.s.plo := hd 8 (by decide +kernel)
      have e11 : u 11 = .int .i64 p.s.phi := hd 11 (by decide +kernel)
      refine wpOp_of rfl (by rfl) ?_
      go_simp
      exact k_of (HK.out (.slice (some ⟨W.heap.size, 0, none⟩) 4 4) _ ⟨_, rfl, ints_blk (Blk.new _ _ _) rfl (by simp)⟩ (hon _ _ hB.out ((Below.refl _ W).alloc (Nat.le_refl _) _)) ((Below.refl _ W).alloc (Nat.le_refl _) _)) (by rw [← u1_eq e2, ← u1_eq e5, ← u1_eq e8, ← u1_eq e11]; kernel_rfl)
    · intro u W hB _ hd _ K hK
      have HK := Lib.hid hK; clear hK
      obtain ⟨b_12, e12, f12_0⟩ : bdR P p 12 (u 12) W := hd 12 (by decide +kernel)
      refine wpOp_of rfl (by rfl) ?_
      go_simp
      refine (range_any (c := 4) 0 2000 f12_0).mono ?_
      rintro e w' ⟨rfl, rfl⟩
      exact k_of (HK.out (.int .i64 (rangeE 0 2000 [p.s.flo, p.s.fhi, p.s.plo, p.s.phi])) _ rfl hB (Below.refl _ _)) (by rw [← u1_eq e12]; kernel_rfl)
    · intro u W hB _ hd _ K hK
      have HK := Lib.hid hK; clear hK
      refine wpOp_of rfl (by rfl) ?_
      go_simp
      exact k_of (HK.out (.pointer (some ⟨P, 2, none⟩)) _ rfl hB (Below.refl _ _)) (by kernel_rfl)
    · intro u W hB _ hd _ K hK
      have HK := Lib.hid hK; clear hK
      have e14 : u 14 = .pointer (some ⟨P, 2, none⟩) := hd 14 (by decide +kernel)
      refine wpOp_of rfl (by rfl) ?_
      have z2 := (hP W hB.out).cell 2; have z3 := (hP W hB.out).cell 3
      go_simp
      exact k_of (HK.out (.agg #[.int .i64 p.s.flo, .int .i64 p.s.fhi]) _ rfl hB (Below.refl _ _)) (by rw [← u1_eq e14]; kernel_rfl)
    · intro u W hB _ hd _ K hK
      have HK := Lib.hid hK; clear hK
      refine wpOp_of rfl (by rfl) ?_
      go_simp
      exact k_of (HK.out (.pointer (some ⟨P, 4, none⟩)) _ rfl hB (Below.refl _ _)) (by kernel_rfl)
    · intro u W hB _ hd _ K hK
      have HK := Lib.hid hK; clear hK
      have e16 : u 16 = .pointer (some ⟨P, 4, none⟩) := hd 16 (by decide +kernel)
      refine wpOp_of rfl (by rfl) ?_
      have z4 := (hP W hB.out).cell 4; have z5 := (hP W hB.out).cell 5
      go_simp
      exact k_of (HK.out (.agg #[.int .i64 p.s.plo, .int .i64 p.s.phi]) _ rfl hB (Below.refl _ _)) (by rw [← u1_eq e16]; kernel_rfl)
    · intro u W hB _ hd _ K hK
      have HK := Lib.hid hK; clear hK
      have e15 : u 15 = .agg #[.int .i64 p.s.flo, .int .i64 p.s.fhi] := hd 15 (by decide +kernel)
      have e17 : u 17 = .agg #[.int .i64 p.s.plo, .int .i64 p.s.phi] := hd 17 (by decide +kernel)
      refine wpOp_of rfl (by rfl) ?_
      go_simp
      exact k_of (HK.out (.slice (some ⟨W.heap.size, 0, none⟩) 2 2) _ ⟨_, rfl, spans_blk (l := [(p.s.flo, p.s.fhi), (p.s.plo, p.s.phi)]) (Blk.new _ _ _) rfl (by simp)⟩ (hon _ _ hB.out ((Below.refl _ W).alloc (Nat.le_refl _) _)) ((Below.refl _ W).alloc (Nat.le_refl _) _)) (by rw [← u1_eq e15, ← u1_eq e17]; kernel_rfl)
    · intro u W hB _ hd _ K hK
      have HK := Lib.hid hK; clear hK
      obtain ⟨b_18, e18, f18_0⟩ : bdR P p 18 (u 18) W := hd 18 (by decide +kernel)
      refine wpOp_of rfl (by rfl) ?_
      go_simp
      refine (order_any (c := 2) f18_0).mono ?_
      rintro e w' ⟨rfl, hb⟩
      exact k_of (HK.out (.int .i64 (orderE [(p.s.flo, p.s.fhi), (p.s.plo, p.s.phi)])) _ rfl (hon _ _ hB.out hb) hb) (by rw [← u1_eq e18]; kernel_rfl)
    · intro u W hB _ hd _ K hK
      have HK := Lib.hid hK; clear hK
      have e13 : u 13 = .int .i64 (rangeE 0 2000 [p.s.flo, p.s.fhi, p.s.plo, p.s.phi]) := hd 13 (by decide +kernel)
      have e19 : u 19 = .int .i64 (orderE [(p.s.flo, p.s.fhi), (p.s.plo, p.s.phi)]) := hd 19 (by decide +kernel)
      refine wpOp_of rfl (by rfl) ?_
      go_simp
      exact k_of (HK.out (.slice (some ⟨W.heap.size, 0, none⟩) 2 2) _ ⟨_, rfl, ints_blk (Blk.new _ _ _) rfl (by simp)⟩ (hon _ _ hB.out ((Below.refl _ W).alloc (Nat.le_refl _) _)) ((Below.refl _ W).alloc (Nat.le_refl _) _)) (by rw [← u1_eq e13, ← u1_eq e19]; kernel_rfl)
    · intro u W hB _ hd _ K hK
      have HK := Lib.hid hK; clear hK
      obtain ⟨b_20, e20, f20_0⟩ : bdR P p 20 (u 20) W := hd 20 (by decide +kernel)
      refine wpOp_of rfl (by rfl) ?_
      go_simp
      refine (or_any (c := 2) f20_0).mono ?_
      rintro e w' ⟨rfl, rfl⟩
      exact k_of (HK.out (.int .i64 (orE [(rangeE 0 2000 [p.s.flo, p.s.fhi, p.s.plo, p.s.phi]), (orderE [(p.s.flo, p.s.fhi), (p.s.plo, p.s.phi)])])) _ rfl hB (Below.refl _ _)) (by rw [← u1_eq e20]; kernel_rfl)
    · intro u W hB _ hd _ K hK
      have HK := Lib.hid hK; clear hK
      have e21 : u 21 = .int .i64 (orE [(rangeE 0 2000 [p.s.flo, p.s.fhi, p.s.plo, p.s.phi]), (orderE [(p.s.flo, p.s.fhi), (p.s.plo, p.s.phi)])]) := hd 21 (by decide +kernel)
      refine wpOp_of rfl (by rfl) ?_
      go_simp
      exact k_of (HK.out (.int .i64 (orE [(rangeE 0 2000 [p.s.flo, p.s.fhi, p.s.plo, p.s.phi]), (orderE [(p.s.flo, p.s.fhi), (p.s.plo, p.s.phi)])])) _ rfl hB (Below.refl _ _)) (by rw [← u1_eq e21]; kernel_rfl)
  · intro u W hB hd
    have e22 : u 22 = .int .i64 (orE [(rangeE 0 2000 [p.s.flo, p.s.fhi, p.s.plo, p.s.phi]), (orderE [(p.s.flo, p.s.fhi), (p.s.plo, p.s.phi)])]) := hd 22 (by decide)
    exact k_of (HQ.out u W hB.out) (by simp only [e22])
end Go.Proofs.Ytkjfommdeljefaa

namespace Go.Proofs.Ytkjfommdeljefaa
open Go.RowKit Go.Shelf Go.Maps
attribute [local go_sem] Oper.semAt_some


set_option maxRecDepth 100000 in
set_option maxHeartbeats 2000000 in
theorem errWk_any {w : World} {A : Option Addr} {c i : Nat} {l : List Wk} (h : WksIn w A c l) (hi : i < l.length) :
    Calls Try.prog 43 #[.slice A l.length c, .int .i64 (i : Int)] w fun e w' => e = .returned (.int .i64 (wickE l i)) ∧ Below w.heap.size w w' := by
  obtain ⟨x, hx⟩ : ∃ x, l[i]? = some x := ⟨l[i], List.getElem?_eq_getElem hi⟩
  have hl := h.len
  have HE : Hid (wickE l i = orE [nameErr ((l.take i).map Wk.nm) x.nm, rangeE 1 100 [x.th], rangeE 1 1000 [x.plo, x.phi], orderE [(x.plo, x.phi)]]) := by
    show _ = _
    unfold wickE
    rw [hx]
  have HN := Lib.hid (fun (W : World) (hb : Below w.heap.size w W) => nameEWk_any (h.on hb) hi hx)
  obtain ⟨b, o, rfl, hbb, c0, c1, c2, c3⟩ := wks_at h.at_ hx
  clear h hx
  generalize nameErr ((l.take i).map Wk.nm) x.nm = z0 at *
  go_enter Try.func43, Try.ntmps43
  go_wp2_with fail
  refine wp_of_eq (erWk_region (S := Bx w [(w.heap.size, 74, #[.string x.nm, .int .i64 x.th, .int .i64 x.plo, .int .i64 x.phi])]) (fun _ _ h hb => h.on hb) (A := some ⟨b, o, none⟩) (n := l.length) (c := c) (ix := i) (P := w.heap.size) (x := x) (z0 := z0) (Lib.hid fun W h => HN.out W h.b) (fun W h => h.get (by simp)) (Lib.hid ((Bx.nil w).alloc _ _)) (Lib.hid fun u W hS => ?_)) (by kernel_rfl)
  have HS := Lib.hid hS
  clear hS
  go_wp2_with fail
  go_ret
  exact ⟨ret_i64 HE.out.symm, HS.out.b⟩


set_option maxRecDepth 100000 in
set_option maxHeartbeats 2000000 in
theorem errWx_any {w : World} {A : Option Addr} {c i : Nat} {l : List Wx} (h : WxsIn w A c l) (hi : i < l.length) :
    Calls Try.prog 44 #[.slice A l.length c, .int .i64 (i : Int)] w fun e w' => e = .returned (.int .i64 (waxE l i)) ∧ Below w.heap.size w w' := by
  obtain ⟨x, hx⟩ : ∃ x, l[i]? = some x := ⟨l[i], List.getElem?_eq_getElem hi⟩
  have hl := h.len
  have HE : Hid (waxE l i = orE [nameErr ((l.take i).map Wx.nm) x.nm, rangeE 0 50 [x.ch], rangeE 1 300 [x.flo, x.fhi], rangeE 1 1000 [x.rlo, x.rhi], rangeE 1 2000 [x.slo, x.shi], orderE [(x.flo, x.fhi), (x.rlo, x.rhi), (x.slo, x.shi)]]) := by
    show _ = _
    unfold waxE
    rw [hx]
  have HN := Lib.hid (fun (W : World) (hb : Below w.heap.size w W) => nameEWx_any (h.on hb) hi hx)
  obtain ⟨b, o, rfl, hbb, c0, c1, c2, c3, c4, c5, c6, c7⟩ := wxs_at h.at_ hx
  clear h hx
  generalize nameErr ((l.take i).map Wx.nm) x.nm = z0 at *
  go_enter Try.func44, Try.ntmps44
  go_wp2_with fail
  refine wp_of_eq (erWx_region (S := Bx w [(w.heap.size, 80, #[.string x.nm, .int .i64 x.flo, .int .i64 x.fhi, .int .i64 x.rlo, .int .i64 x.rhi, .int .i64 x.slo, .int .i64 x.shi, .int .i64 x.ch])]) (fun _ _ h hb => h.on hb) (A := some ⟨b, o, none⟩) (n := l.length) (c := c) (ix := i) (P := w.heap.size) (x := x) (z0 := z0) (Lib.hid fun W h => HN.out W h.b) (fun W h => h.get (by simp)) (Lib.hid ((Bx.nil w).alloc _ _)) (Lib.hid fun u W hS => ?_)) (by kernel_rfl)
  have HS := Lib.hid hS
  clear hS
  go_wp2_with fail
  go_ret
  exact ⟨ret_i64 HE.out.symm, HS.out.b⟩
end Go.Proofs.Ytkjfommdeljefaa
