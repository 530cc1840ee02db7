/- ref03.Thinnest: its region that draws, its contract. -/
import Derived.Test.YtkjfommdeljefaaUG
import Derived.Test.YtkjfommdeljefaaS6
namespace Go.Proofs.Ytkjfommdeljefaa
open Go.RowKit Go.Shelf Go.Maps
attribute [local go_sem] Oper.semAt_some

/-- What each operation leaves. -/
def rthR (P b o n kc lb lf m mc ii yn bb : Nat) (ti tj : Int) (zz : Bool) (_p : Sp) : Nat → Value → World → Prop
  | 0, v, _ => v = .pointer (some ⟨P, 0, none⟩)
  | 1, v, _ => v = .slice (some ⟨b, o, none⟩) n kc
  | 2, v, _ => v = .slice (some ⟨lb, lf, none⟩) m mc
  | 3, v, _ => v = .int .i64 (ii : Int)
  | 4, v, _ => v = .pointer (some ⟨lb, lf + ii, none⟩)
  | 5, v, _ => v = .int .i64 (yn : Int)
  | 6, v, _ => v = .pointer (some ⟨b, o + yn * 4, none⟩)
  | 7, v, _ => v = .pointer (some ⟨b, o + yn * 4 + 1, none⟩)
  | 8, v, _ => v = .int .i64 ti
  | 9, v, _ => v = .pointer (some ⟨P, 0, none⟩)
  | 10, v, _ => v = .slice (some ⟨b, o, none⟩) n kc
  | 11, v, _ => v = .int .i64 (bb : Int)
  | 12, v, _ => v = .pointer (some ⟨b, o + bb * 4, none⟩)
  | 13, v, _ => v = .pointer (some ⟨b, o + bb * 4 + 1, none⟩)
  | 14, v, _ => v = .int .i64 tj
  | 15, v, _ => v = .bool zz
  | _, _, _ => True
theorem rthR_on (P b o n kc lb lf m mc ii yn bb : Nat) (ti tj : Int) (zz : Bool) (p : Sp) : ∀ i, i < 16 → ∀ v W W', rthR P b o n kc lb lf m mc ii yn bb ti tj zz p i v W → Below W.heap.size W W' → rthR P b o n kc lb lf m mc ii yn bb ti tj zz p i v W' := by
  iterate 16 (refine all_succ ?_ ?_)
  · exact all_zero
  · exact fun _ _ _ h _ => h
  · exact fun _ _ _ h _ => h
  · exact fun _ _ _ h _ => h
  · exact fun _ _ _ h _ => h
  · exact fun _ _ _ h _ => h
  · exact fun _ _ _ h _ => h
  · exact fun _ _ _ h _ => h
  · exact fun _ _ _ h _ => h
  · exact fun _ _ _ h _ => h
  · exact fun _ _ _ h _ => h
  · exact fun _ _ _ h _ => h
  · exact fun _ _ _ h _ => h
  · exact fun _ _ _ h _ => h
  · exact fun _ _ _ h _ => h
  · exact fun _ _ _ h _ => h
  · exact fun _ _ _ h _ => h
set_option maxRecDepth 100000 in
set_option maxHeartbeats 8000000 in
theorem rth_region {S : World → Prop} (hon : ∀ W W', S W → Below W.heap.size W W' → S W') {P b o n kc lb lf m mc ii yn bb : Nat} {ti tj : Int} {zz : Bool} {p : Sp} (him : ii < m) (hyn : yn < n) (hbn : bb < n) (hz : decide (ti < tj) = zz) (hP : ∀ W, S W → Blk W P 27 #[.slice (some ⟨b, o, none⟩) n kc, .slice p.xa p.s.xs.length p.xc, .int .i64 p.s.flo, .int .i64 p.s.fhi, .int .i64 p.s.plo, .int .i64 p.s.phi]) (hl : ∀ W, S W → W.cell? ⟨lb, lf + ii, none⟩ = some (.int .i64 (yn : Int))) (hti : ∀ W, S W → W.cell? ⟨b, o + yn * 4 + 1, none⟩ = some (.int .i64 ti)) (htj : ∀ W, S W → W.cell? ⟨b, o + bb * 4 + 1, none⟩ = some (.int .i64 tj)) {Q : Exit → Act → World → Prop} {s0 s1 s3 s4 s5 s7 s10 s11 s12 s13 s14 s15 s16 s17 s18 s19 s20 s21 s22 s23 s24 s25 s26 s27 s28 s29 s30 s31 s32 s33 s34 s51 s52 s53 s54 s55 s35 s36 s37 s38 s39 s40 s41 s42 s43 s44 s45 s46 s47 s48 s49 s50 : Value} {W0 : World} (HL : Hid (S W0))
    (HQ : Hid (∀ (u : Nat → Value) (W : World), S W → Q .normal ⟨#[s0, s1, .pointer (some ⟨P, 0, none⟩), s3, s4, s5, .slice (some ⟨lb, lf, none⟩) m mc, s7, .int .i64 (bb : Int), .int .i64 (ii : Int), s10, s11, s12, s13, s14, s15, s16, s17, s18, s19, s20, s21, s22, s23, s24, s25, s26, s27, s28, s29, s30, s31, s32, s33, s34, u 0, u 1, u 2, u 3, u 4, u 5, u 6, u 7, u 8, u 9, u 10, u 11, u 12, u 13, u 14, .bool zz, s51, s52, s53, s54, s55], []⟩ W)) :
    Code.wp Try.prog ((Try.f29.body.bind (regionAt 10)).getD .skip) Q ⟨#[s0, s1, .pointer (some ⟨P, 0, none⟩), s3, s4, s5, .slice (some ⟨lb, lf, none⟩) m mc, s7, .int .i64 (bb : Int), .int .i64 (ii : Int), s10, s11, s12, s13, s14, s15, s16, s17, s18, s19, s20, s21, s22, s23, s24, s25, s26, s27, s28, s29, s30, s31, s32, s33, s34, s35, s36, s37, s38, s39, s40, s41, s42, s43, s44, s45, s46, s47, s48, s49, s50, s51, s52, s53, s54, s55], []⟩ W0 := by
  conv => arg 2; whnf
  refine wp_region_spec (by kernel_rfl) 16 (by kernel_rfl) (fun u => ⟨#[s0, s1, .pointer (some ⟨P, 0, none⟩), s3, s4, s5, .slice (some ⟨lb, lf, none⟩) m mc, s7, .int .i64 (bb : Int), .int .i64 (ii : Int), s10, s11, s12, s13, s14, s15, s16, s17, s18, s19, s20, s21, s22, s23, s24, s25, s26, s27, s28, s29, s30, s31, s32, s33, s34, u 0, u 1, u 2, u 3, u 4, u 5, u 6, u 7, u 8, u 9, u 10, u 11, u 12, u 13, u 14, u 15, s51, s52, s53, s54, s55], []⟩) (fun i => if i = 0 then s35 else if i = 1 then s36 else if i = 2 then s37 else if i = 3 then s38 else if i = 4 then s39 else if i = 5 then s40 else if i = 6 then s41 else if i = 7 then s42 else if i = 8 then s43 else if i = 9 then s44 else if i = 10 then s45 else if i = 11 then s46 else if i = 12 then s47 else if i = 13 then s48 else if i = 14 then s49 else if i = 15 then s50 else undef) (fun W => Hid (S W)) (rthR P b o n kc lb lf m mc ii yn bb ti tj zz p) (by kernel_rfl) (hon _ _ HL.out (Below.refl _ _).drew) (fun i v W W2 hi h hb => rthR_on P b o n kc lb lf m mc ii yn bb ti tj zz p i hi v W W2 h hb) (by decide +kernel) ?_ ?_
  · iterate 16 (refine all_succ ?_ ?_)
    · exact all_zero
    · intro u W hB _ hd _ K hK
      have HK := Lib.hid hK; clear hK
      refine wpOp_of rfl (by rfl) ?_
      go_simp
      exact k_of (HK.out (.pointer (some ⟨P, 0, none⟩)) _ rfl hB (Below.refl _ _)) (by kernel_rfl)
    · intro u W hB _ hd _ K hK
      have HK := Lib.hid hK; clear hK
      have e0 : u 0 = .pointer (some ⟨P, 0, none⟩) := hd 0 (by decide +kernel)
      refine wpOp_of rfl (by rfl) ?_
      have z0 := (hP W hB.out).cell 0
      go_simp
      exact k_of (HK.out (.slice (some ⟨b, o, none⟩) n kc) _ rfl hB (Below.refl _ _)) (by rw [← u1_eq e0]; kernel_rfl)
    · intro u W hB _ hd _ K hK
      have HK := Lib.hid hK; clear hK
      refine wpOp_of rfl (by rfl) ?_
      go_simp
      exact k_of (HK.out (.slice (some ⟨lb, lf, none⟩) m mc) _ rfl hB (Below.refl _ _)) (by kernel_rfl)
    · intro u W hB _ hd _ K hK
      have HK := Lib.hid hK; clear hK
      refine wpOp_of rfl (by rfl) ?_
      go_simp
      exact k_of (HK.out (.int .i64 (ii : Int)) _ rfl hB (Below.refl _ _)) (by kernel_rfl)
    · intro u W hB _ hd _ K hK
      have HK := Lib.hid hK; clear hK
      have e2 : u 2 = .slice (some ⟨lb, lf, none⟩) m mc := hd 2 (by decide +kernel)
      have e3 : u 3 = .int .i64 (ii : Int) := hd 3 (by decide +kernel)
      refine wpOp_of rfl (by rfl) ?_
      go_simp
      exact k_of (HK.out (.pointer (some ⟨lb, lf + ii, none⟩)) _ rfl hB (Below.refl _ _)) (by rw [← u1_eq e2, ← u1_eq e3]; kernel_rfl)
    · intro u W hB _ hd _ K hK
      have HK := Lib.hid hK; clear hK
      have e4 : u 4 = .pointer (some ⟨lb, lf + ii, none⟩) := hd 4 (by decide +kernel)
      refine wpOp_of rfl (by rfl) ?_
      have z0 := hl W hB.out
      go_simp
      exact k_of (HK.out (.int .i64 (yn : Int)) _ rfl hB (Below.refl _ _)) (by rw [← u1_eq e4]; kernel_rfl)
    · intro u W hB _ hd _ K hK
      have HK := Lib.hid hK; clear hK
      have e1 : u 1 = .slice (some ⟨b, o, none⟩) n kc := hd 1 (by decide +kernel)
      have e5 : u 5 = .int .i64 (yn : Int) := hd 5 (by decide +kernel)
      refine wpOp_of rfl (by rfl) ?_
      go_simp
      exact k_of (HK.out (.pointer (some ⟨b, o + yn * 4, none⟩)) _ rfl hB (Below.refl _ _)) (by rw [← u1_eq e1, ← u1_eq e5]; kernel_rfl)
    · intro u W hB _ hd _ K hK
      have HK := Lib.hid hK; clear hK
      have e6 : u 6 = .pointer (some ⟨b, o + yn * 4, none⟩) := hd 6 (by decide +kernel)
      refine wpOp_of rfl (by rfl) ?_
      go_simp
      exact k_of (HK.out (.pointer (some ⟨b, o + yn * 4 + 1, none⟩)) _ rfl hB (Below.refl _ _)) (by rw [← u1_eq e6]; kernel_rfl)
    · intro u W hB _ hd _ K hK
      have HK := Lib.hid hK; clear hK
      have e7 : u 7 = .pointer (some ⟨b, o + yn * 4 + 1, none⟩) := hd 7 (by decide +kernel)
      refine wpOp_of rfl (by rfl) ?_
      have z1 := hti W hB.out
      go_simp
      exact k_of (HK.out (.int .i64 ti) _ rfl hB (Below.refl _ _)) (by rw [← u1_eq e7]; kernel_rfl)
    · intro u W hB _ hd _ K hK
      have HK := Lib.hid hK; clear hK
      refine wpOp_of rfl (by rfl) ?_
      go_simp
      exact k_of (HK.out (.pointer (some ⟨P, 0, none⟩)) _ rfl hB (Below.refl _ _)) (by kernel_rfl)
    · intro u W hB _ hd _ K hK
      have HK := Lib.hid hK; clear hK
      have e9 : u 9 = .pointer (some ⟨P, 0, none⟩) := hd 9 (by decide +kernel)
      refine wpOp_of rfl (by rfl) ?_
      have z0 := (hP W hB.out).cell 0
      go_simp
      exact k_of (HK.out (.slice (some ⟨b, o, none⟩) n kc) _ rfl hB (Below.refl _ _)) (by rw [← u1_eq e9]; kernel_rfl)
    · intro u W hB _ hd _ K hK
      have HK := Lib.hid hK; clear hK
      refine wpOp_of rfl (by rfl) ?_
      go_simp
      exact k_of (HK.out (.int .i64 (bb : Int)) _ rfl hB (Below.refl _ _)) (by kernel_rfl)
    · intro u W hB _ hd _ K hK
      have HK := Lib.hid hK; clear hK
      have e10 : u 10 = .slice (some ⟨b, o, none⟩) n kc := hd 10 (by decide +kernel)
      have e11 : u 11 = .int .i64 (bb : Int) := hd 11 (by decide +kernel)
      refine wpOp_of rfl (by rfl) ?_
      go_simp
      exact k_of (HK.out (.pointer (some ⟨b, o + bb * 4, none⟩)) _ rfl hB (Below.refl _ _)) (by rw [← u1_eq e10, ← u1_eq e11]; kernel_rfl)
    · intro u W hB _ hd _ K hK
      have HK := Lib.hid hK; clear hK
      have e12 : u 12 = .pointer (some ⟨b, o + bb * 4, none⟩) := hd 12 (by decide +kernel)
      refine wpOp_of rfl (by rfl) ?_
      go_simp
      exact k_of (HK.out (.pointer (some ⟨b, o + bb * 4 + 1, none⟩)) _ rfl hB (Below.refl _ _)) (by rw [← u1_eq e12]; kernel_rfl)
    · intro u W hB _ hd _ K hK
      have HK := Lib.hid hK; clear hK
      have e13 : u 13 = .pointer (some ⟨b, o + bb * 4 + 1, none⟩) := hd 13 (by decide +kernel)
      refine wpOp_of rfl (by rfl) ?_
      have z2 := htj W hB.out
      go_simp
      exact k_of (HK.out (.int .i64 tj) _ rfl hB (Below.refl _ _)) (by rw [← u1_eq e13]; kernel_rfl)
    · intro u W hB _ hd _ K hK
      have HK := Lib.hid hK; clear hK
      have e8 : u 8 = .int .i64 ti := hd 8 (by decide +kernel)
      have e14 : u 14 = .int .i64 tj := hd 14 (by decide +kernel)
      refine wpOp_of rfl (by rfl) ?_
      go_simp
      exact k_of (HK.out (.bool zz) _ rfl hB (Below.refl _ _)) (by rw [← u1_eq e8, ← u1_eq e14]; kernel_rfl)
  · intro u W hB hd
    have e15 : u 15 = .bool zz := hd 15 (by decide)
    exact k_of (HQ.out u W hB.out) (by simp only [e15])


theorem bst_succ {ks : List Wk} {sl : List Nat} {i y : Nat} (h : sl[i]? = some y) : (sl.take (i + 1)).foldl (thinS ks) (-1) = thinS ks ((sl.take i).foldl (thinS ks) (-1)) y := by
  rw [List.take_add_one, h, List.foldl_append]; rfl
theorem bst_mem (ks : List Wk) (sl : List Nat) : ∀ i, 1 ≤ i → i ≤ sl.length → ∃ b : Nat, b ∈ sl ∧ (sl.take i).foldl (thinS ks) (-1) = (b : Int)
  | 0, h, _ => absurd h (by omega)
  | i + 1, _, hl => by
    obtain ⟨y, hy⟩ : ∃ y, sl[i]? = some y := ⟨_, List.getElem?_eq_getElem (by omega)⟩
    rw [bst_succ hy]
    by_cases h0 : i = 0
    · subst h0
      exact ⟨y, List.mem_of_getElem? hy, by simp [thinS]⟩
    · obtain ⟨b, hb, e⟩ := bst_mem ks sl i (by omega) (by omega)
      rw [e]
      unfold thinS
      split
      · exact ⟨y, List.mem_of_getElem? hy, rfl⟩
      · exact ⟨b, hb, rfl⟩
theorem thS_yes {ks : List Wk} {b y : Nat} {kb ky : Wk} (hb : ks[b]? = some kb) (hy : ks[y]? = some ky) (h : decide (ky.th < kb.th) = true) : thinS ks (b : Int) y = (y : Int) := by
  unfold thinS thW
  rw [Int.toNat_natCast, hb, hy]
  rw [if_pos (.inr (of_decide_eq_true h))]
theorem thS_no {ks : List Wk} {b y : Nat} {kb ky : Wk} (hb : ks[b]? = some kb) (hy : ks[y]? = some ky) (h : decide (ky.th < kb.th) = false) : thinS ks (b : Int) y = (b : Int) := by
  unfold thinS thW
  rw [Int.toNat_natCast, hb, hy]
  rw [if_neg]
  rintro (h1 | h1)
  · omega
  · exact of_decide_eq_false h h1
set_option maxRecDepth 100000 in
set_option maxHeartbeats 2000000 in
theorem rthin_err {w : World} {p : Sp} {c : Cd} (h : ShIn w p) (he : askCE p.s c ≠ 0) :
    Calls Try.prog 29 #[.agg #[.slice p.ka p.s.ks.length p.kc, .slice p.xa p.s.xs.length p.xc, .int .i64 p.s.flo, .int .i64 p.s.fhi, .int .i64 p.s.plo, .int .i64 p.s.phi], .agg #[.int .i64 c.wax, .int .i64 c.dia, .int .i64 c.dra, .int .i64 c.clo, .int .i64 c.chi]] w fun e w' => e = .returned (.tuple #[.int .i64 0, .int .i64 (askCE p.s c)]) ∧ Below w.heap.size w w' := by
  have hb0 := ((Bx.nil w).alloc #[.slice p.ka p.s.ks.length p.kc, .slice p.xa p.s.xs.length p.xc, .int .i64 p.s.flo, .int .i64 p.s.fhi, .int .i64 p.s.plo, .int .i64 p.s.phi] 27).alloc #[.int .i64 c.wax, .int .i64 c.dia, .int .i64 c.dra, .int .i64 c.clo, .int .i64 c.chi] 34
  simp only [World.size_alloc] at hb0
  have HB := Lib.hid hb0
  have HA := Lib.hid (fun (W : World) (hb : Below w.heap.size w W) => rsuits_err (h.on hb) he)
  have hz : (askCE p.s c != 0) = true := by simpa using he
  have hz2 : (askCE p.s c == 0) = false := by simpa using he
  clear h hb0 he
  generalize askCE p.s c = z at *
  go_enter Try.func29, Try.ntmps29
  go_wp2_with (first
    | (go_at_call 27; (with_reducible refine (HA.out _ HB.out.b).mono ?_); rintro e w1 ⟨rfl, hb⟩; have HC := Lib.hid (HB.out.on hb); clear hb)
    | fail)
  refine bodyPost_ret (v := .tuple #[.int .i64 0, .int .i64 z]) ?_ rfl ⟨rfl, HC.out.b⟩
  simp [results, Try.results29, go_sem]
set_option maxRecDepth 100000 in
set_option maxHeartbeats 2000000 in
theorem rthin_none {w : World} {p : Sp} {c : Cd} (HA : Hid (∀ W, Below w.heap.size w W → Calls Try.prog 27 #[.agg #[.slice p.ka p.s.ks.length p.kc, .slice p.xa p.s.xs.length p.xc, .int .i64 p.s.flo, .int .i64 p.s.fhi, .int .i64 p.s.plo, .int .i64 p.s.phi], .agg #[.int .i64 c.wax, .int .i64 c.dia, .int .i64 c.dra, .int .i64 c.clo, .int .i64 c.chi]] W (ListOut W []))) :
    Calls Try.prog 29 #[.agg #[.slice p.ka p.s.ks.length p.kc, .slice p.xa p.s.xs.length p.xc, .int .i64 p.s.flo, .int .i64 p.s.fhi, .int .i64 p.s.plo, .int .i64 p.s.phi], .agg #[.int .i64 c.wax, .int .i64 c.dia, .int .i64 c.dra, .int .i64 c.clo, .int .i64 c.chi]] w fun e w' => e = .returned (.tuple #[.int .i64 0, .int .i64 9]) ∧ Below w.heap.size w w' := by
  have hb0 := ((Bx.nil w).alloc #[.slice p.ka p.s.ks.length p.kc, .slice p.xa p.s.xs.length p.xc, .int .i64 p.s.flo, .int .i64 p.s.fhi, .int .i64 p.s.plo, .int .i64 p.s.phi] 27).alloc #[.int .i64 c.wax, .int .i64 c.dia, .int .i64 c.dra, .int .i64 c.clo, .int .i64 c.chi] 34
  simp only [World.size_alloc] at hb0
  have HB := Lib.hid hb0
  clear hb0
  go_enter Try.func29, Try.ntmps29
  go_wp2_with (first
    | (go_at_call 27; (with_reducible refine (HA.out _ HB.out.b).mono ?_); rintro e w1 ⟨v, rfl, hv, hb⟩; obtain ⟨A1, c1, rfl, -⟩ := hv.in_; have HC := Lib.hid (HB.out.on hb); clear hb hv)
    | fail)
  refine bodyPost_ret (v := .tuple #[.int .i64 0, .int .i64 9]) ?_ rfl ⟨rfl, HC.out.b⟩
  simp [results, Try.results29, go_sem]
set_option maxRecDepth 100000 in
set_option maxHeartbeats 4000000 in
theorem rthin_some {w : World} {p : Sp} {c : Cd} {sl : List Nat} {l : List Int} {R : Int} (h : ShIn w p) (_hks : p.s.ks.length ≤ 12) (hsl : 0 < sl.length) (hln : l.length = sl.length) (hl12 : l.length ≤ 12) (HSL : Hid (∀ (i y : Nat), sl[i]? = some y → l[i]? = some (y : Int))) (HM : Hid (∀ y ∈ sl, y < p.s.ks.length)) (HR : Hid (sl.foldl (thinS p.s.ks) (-1) = R))
    (HA : Hid (∀ W, Below w.heap.size w W → Calls Try.prog 27 #[.agg #[.slice p.ka p.s.ks.length p.kc, .slice p.xa p.s.xs.length p.xc, .int .i64 p.s.flo, .int .i64 p.s.fhi, .int .i64 p.s.plo, .int .i64 p.s.phi], .agg #[.int .i64 c.wax, .int .i64 c.dia, .int .i64 c.dra, .int .i64 c.clo, .int .i64 c.chi]] W (ListOut W l))) :
    Calls Try.prog 29 #[.agg #[.slice p.ka p.s.ks.length p.kc, .slice p.xa p.s.xs.length p.xc, .int .i64 p.s.flo, .int .i64 p.s.fhi, .int .i64 p.s.plo, .int .i64 p.s.phi], .agg #[.int .i64 c.wax, .int .i64 c.dia, .int .i64 c.dra, .int .i64 c.clo, .int .i64 c.chi]] w fun e w' => e = .returned (.tuple #[.int .i64 R, .int .i64 0]) ∧ Below w.heap.size w w' := by
  have hb0 := ((Bx.nil w).alloc #[.slice p.ka p.s.ks.length p.kc, .slice p.xa p.s.xs.length p.xc, .int .i64 p.s.flo, .int .i64 p.s.fhi, .int .i64 p.s.plo, .int .i64 p.s.phi] 27).alloc #[.int .i64 c.wax, .int .i64 c.dia, .int .i64 c.dra, .int .i64 c.clo, .int .i64 c.chi] 34
  simp only [World.size_alloc] at hb0
  have HB := Lib.hid hb0
  have H0 := Lib.hid h
  obtain ⟨y0, hy0⟩ : ∃ y, sl[0]? = some y := ⟨_, List.getElem?_eq_getElem hsl⟩
  have hl0 := HSL.out 0 y0 hy0
  have HY0 := Lib.hid hy0
  have hlz : ((l.length : Int) == 0) = false := by simp only [beq_eq_false_iff_ne, ne_eq]; omega
  have hlz2 : 0 < l.length := by omega
  have HLN := Lib.hid hln
  clear hb0 h hy0 hsl hln
  go_enter Try.func29, Try.ntmps29
  go_wp2_with (first
    | (go_at_call 27; (with_reducible refine (HA.out _ HB.out.b).mono ?_); rintro e w1 ⟨v, rfl, hv, hb⟩; obtain ⟨A1, lcap, rfl, hi1⟩ := hv.in_; have HC := Lib.hid (HB.out.on hb); have HI := Lib.hid hi1; obtain ⟨lb, lf, rfl, -, hc0⟩ := ints_at hi1.at_ hl0; have hc1 : w1.cell? ⟨lb, lf, none⟩ = some (.int .i64 (y0 : Int)) := (by simpa using hc0); clear hb hv hi1 hc0)
    | fail)
  clear hc1 hl0
  go_loopw [8, 9] (fun bst i W => ∃ (b t : Nat), 1 ≤ t ∧ t ≤ l.length ∧ bst = .int .i64 (b : Int) ∧ i = .int .i64 (t : Int) ∧ Hid ((sl.take t).foldl (thinS p.s.ks) (-1) = (b : Int) ∧ b ∈ sl) ∧ Hid (Below w1.heap.size w1 W)) (fun _ i _ => l.length - (intOf i).toNat)
  case atStart =>
    exact ⟨y0, 1, by omega, by omega, rfl, rfl, Lib.hid ⟨by rw [bst_succ HY0.out]; simp [thinS], List.mem_of_getElem? HY0.out⟩, Below.refl _ _⟩
  case round =>
    obtain ⟨b, t, ht1, ht, rfl, rfl, HBS, HWW⟩ := hrel
    by_cases hlt : t < l.length
    · obtain ⟨y, hy⟩ : ∃ y, sl[t]? = some y := ⟨_, List.getElem?_eq_getElem (by have := HLN.out; omega)⟩
      have hyl := HSL.out t y hy
      have hyn := HM.out y (List.mem_of_getElem? hy)
      have hbn := HM.out b HBS.out.2
      obtain ⟨ky, hky⟩ : ∃ k, p.s.ks[y]? = some k := ⟨_, List.getElem?_eq_getElem hyn⟩
      obtain ⟨kb, hkb⟩ : ∃ k, p.s.ks[b]? = some k := ⟨_, List.getElem?_eq_getElem hbn⟩
      obtain ⟨u, o, hka, hub, e0, e1, e2, e3⟩ := wks_at (H0.out.on HC.out.b).ks.at_ hky
      obtain ⟨u2, o2, hka2, _, d0, d1, d2, d3⟩ := wks_at (H0.out.on HC.out.b).ks.at_ hkb
      rw [hka] at hka2
      cases hka2
      obtain ⟨lb2, lf2, hlA, hlbb, hlc⟩ := ints_at HI.out.at_ hyl
      cases hlA
      have HKA := Lib.hid hka
      have HCL := Lib.hid (And.intro hub (And.intro e1 (And.intro d1 (And.intro hlbb hlc))))
      have HST := Lib.hid (bst_succ (ks := p.s.ks) hy)
      have HKY := Lib.hid hky
      have HKB := Lib.hid hkb
      have HN := Lib.hid (And.intro hyn hbn)
      have HYM := Lib.hid (List.mem_of_getElem? hy)
      clear hy hyl hyn hbn hky hkb hka hub e0 e1 e2 e3 d0 d1 d2 d3 hlbb hlc
      cases hd : decide (ky.th < kb.th) with
      | true =>
        have HS2 : Hid ((sl.take (t + 1)).foldl (thinS p.s.ks) (-1) = (y : Int)) := Lib.hid (HST.out.trans (by rw [HBS.out.1]; exact thS_yes HKB.out HKY.out hd))
        go_wp2_with fail
        refine wp_of_eq (rth_region (S := fun W => Below w1.heap.size w1 W) (fun W W' h hb => h.trans (hb.mono h.size)) (P := w.heap.size) (b := u) (o := o) (n := p.s.ks.length) (kc := p.kc) (lb := lb) (lf := lf) (m := l.length) (mc := lcap) (ii := t) (yn := y) (bb := b) (ti := ky.th) (tj := kb.th) (zz := true) (p := p) hlt HN.out.1 HN.out.2 hd (fun W h => by have hq : Blk W w.heap.size 27 #[.slice p.ka p.s.ks.length p.kc, .slice p.xa p.s.xs.length p.xc, .int .i64 p.s.flo, .int .i64 p.s.fhi, .int .i64 p.s.plo, .int .i64 p.s.phi] := (HC.out.get (by simp)).on h; rwa [HKA.out] at hq) (fun W h => (h.cell (p := ⟨lb, _, none⟩) HCL.out.2.2.2.1).trans HCL.out.2.2.2.2) (fun W h => (h.cell (p := ⟨u, _, none⟩) HCL.out.1).trans HCL.out.2.1) (fun W h => (h.cell (p := ⟨u, _, none⟩) HCL.out.1).trans HCL.out.2.2.1) HWW (Lib.hid fun u3 W3 hS => ?_)) (by kernel_rfl)
        have HW3 := Lib.hid hS
        have hc3 := (hS.cell (p := ⟨lb, lf + t, none⟩) HCL.out.2.2.2.1).trans HCL.out.2.2.2.2
        clear hS
        go_wp2_with fail
        go_roundw
        case rel => exact ⟨y, t + 1, by omega, by omega, rfl, by go_num, Lib.hid ⟨HS2.out, HYM.out⟩, HW3⟩
        case measure => exact meas_one hlt
      | false =>
        have HS2 : Hid ((sl.take (t + 1)).foldl (thinS p.s.ks) (-1) = (b : Int)) := Lib.hid (HST.out.trans (by rw [HBS.out.1]; exact thS_no HKB.out HKY.out hd))
        go_wp2_with fail
        refine wp_of_eq (rth_region (S := fun W => Below w1.heap.size w1 W) (fun W W' h hb => h.trans (hb.mono h.size)) (P := w.heap.size) (b := u) (o := o) (n := p.s.ks.length) (kc := p.kc) (lb := lb) (lf := lf) (m := l.length) (mc := lcap) (ii := t) (yn := y) (bb := b) (ti := ky.th) (tj := kb.th) (zz := false) (p := p) hlt HN.out.1 HN.out.2 hd (fun W h => by have hq : Blk W w.heap.size 27 #[.slice p.ka p.s.ks.length p.kc, .slice p.xa p.s.xs.length p.xc, .int .i64 p.s.flo, .int .i64 p.s.fhi, .int .i64 p.s.plo, .int .i64 p.s.phi] := (HC.out.get (by simp)).on h; rwa [HKA.out] at hq) (fun W h => (h.cell (p := ⟨lb, _, none⟩) HCL.out.2.2.2.1).trans HCL.out.2.2.2.2) (fun W h => (h.cell (p := ⟨u, _, none⟩) HCL.out.1).trans HCL.out.2.1) (fun W h => (h.cell (p := ⟨u, _, none⟩) HCL.out.1).trans HCL.out.2.2.1) HWW (Lib.hid fun u3 W3 hS => ?_)) (by kernel_rfl)
        have HW3 := Lib.hid hS
        have hc3 := (hS.cell (p := ⟨lb, lf + t, none⟩) HCL.out.2.2.2.1).trans HCL.out.2.2.2.2
        clear hS
        go_wp2_with fail
        go_roundw
        case rel => exact ⟨b, t + 1, by omega, by omega, rfl, by go_num, Lib.hid ⟨HS2.out, HBS.out.2⟩, HW3⟩
        case measure => exact meas_one hlt
    · have hR : R = (b : Int) := by
        have h1 := HBS.out.1
        rw [List.take_of_length_le (by have := HLN.out; omega), HR.out] at h1; exact h1
      have HRR := Lib.hid hR
      have HWV := Lib.hid (HC.out.b.trans (HWW.out.mono HC.out.b.size))
      clear hR
      go_wp2_with fail
      refine bodyPost_ret (v := .tuple #[.int .i64 R, .int .i64 0]) ?_ rfl ⟨rfl, HWV.out⟩
      rw [HRR.out]
      simp [results, Try.results29, go_sem]
theorem rthin_ok {w : World} {p : Sp} {c : Cd} {x : Wx} (h : ShIn w p) (ha : AskC p.s c x) (he : askCE p.s c = 0) :
    Calls Try.prog 29 #[.agg #[.slice p.ka p.s.ks.length p.kc, .slice p.xa p.s.xs.length p.xc, .int .i64 p.s.flo, .int .i64 p.s.fhi, .int .i64 p.s.plo, .int .i64 p.s.phi], .agg #[.int .i64 c.wax, .int .i64 c.dia, .int .i64 c.dra, .int .i64 c.clo, .int .i64 c.chi]] w fun e w' => e = .returned (thinOut (thinV p.s.ks (suitN p.s x c p.s.ks.length))) ∧ Below w.heap.size w w' := by
  have HA := Lib.hid (fun (W : World) (hb : Below w.heap.size w W) => rsuits_ok (h.on hb) ha he)
  have hm : ∀ y ∈ suitN p.s x c p.s.ks.length, y < p.s.ks.length := fun y hy => (suitN_mem.1 hy).1
  have hl := Nat.le_trans (suitN_len p.s x c p.s.ks.length) ha.sh.nk.2
  generalize suitN p.s x c p.s.ks.length = sl at *
  by_cases hs : sl = []
  · subst hs
    exact rthin_none HA
  · have h0 : 0 < sl.length := List.length_pos_iff.2 hs
    obtain ⟨b, hb, e⟩ := bst_mem p.s.ks sl sl.length h0 (Nat.le_refl _)
    rw [List.take_length] at e
    have hr := rthin_some (R := (b : Int)) h ha.sh.nk.2 h0 (by rw [List.length_map]) (by rw [List.length_map]; exact hl) (Lib.hid fun i y hy => by rw [List.getElem?_map, hy]; rfl) (Lib.hid hm) (Lib.hid e) HA
    have ht : thinV p.s.ks sl = (b : Int) := e
    rw [ht]
    unfold thinOut
    rw [if_neg (by omega)]
    exact hr
end Go.Proofs.Ytkjfommdeljefaa
