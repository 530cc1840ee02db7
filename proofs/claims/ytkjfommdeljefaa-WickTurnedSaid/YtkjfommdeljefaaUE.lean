/- WickTurned: wicks that are appended; the law's region that draws. -/
import Derived.Test.YtkjfommdeljefaaUA
import Derived.Test.YtkjfommdeljefaaUB
import Derived.Test.YtkjfommdeljefaaT7
import Derived.Test.YtkjfommdeljefaaGb
namespace Go.Proofs.Ytkjfommdeljefaa
open Go.RowKit Go.Shelf Go.Maps
attribute [local go_sem] Oper.semAt_some


theorem und_wks : Try.prog.underlying 22 = some (.slice 74) := by kernel_rfl
theorem infoWk : (Try.prog.info? 74).map (fun i => (i.zero, i.size, i.bytes)) = some (some (.agg #[.string ⟨#[]⟩, .int .i64 0, .int .i64 0, .int .i64 0]), 4, 40) := by kernel_rfl
def wkCells (l : List Wk) : List Value := l.flatMap fun x => [.string x.nm, .int .i64 x.th, .int .i64 x.plo, .int .i64 x.phi]
/-- Wicks that a call made. -/
def WksOut (B : Nat) (w' : World) (v : Value) (l : List Wk) : Prop := w'.ownsRow B 74 4 v l.length (wkCells l)
theorem wkCells_at : ∀ (l : List Wk) (i : Nat) (x : Wk), l[i]? = some x → ∀ j, j < 4 → (wkCells l)[i * 4 + j]? = some (encWk x j)
  | [], i, x, h, _, _ => by simp at h
  | y :: l, 0, x, h, j, hj => by
    simp at h; subst h
    match j, hj with
    | 0, _ => rfl
    | 1, _ => rfl
    | 2, _ => rfl
    | 3, _ => rfl
  | y :: l, i + 1, x, h, j, hj => by
    have ih := wkCells_at l i x (by simpa using h) j hj
    show ([.string y.nm, .int .i64 y.th, .int .i64 y.plo, .int .i64 y.phi] ++ wkCells l)[(i + 1) * 4 + j]? = _
    rw [List.getElem?_append_right (by simp; omega)]
    rw [← ih]; congr 1; simp; omega
theorem WksOut.reads {B n c : Nat} {w : World} {A : Option Addr} {l : List Wk} (h : WksOut B w (.slice A n c) l) : n = l.length ∧ WksAt w w.heap.size A l ∧ l.length ≤ c ∧ l.length ≤ maxLen :=
  own_rowAt (enc := encWk) h (wkCells_at l)
theorem WksOut.nil (B : Nat) (w : World) : WksOut B w (.slice none 0 0) [] := World.ownsRow_nil _ _ _ _
theorem wkCells_snoc (l : List Wk) (z : Wk) : wkCells (l ++ [z]) = wkCells l ++ [.string z.nm, .int .i64 z.th, .int .i64 z.plo, .int .i64 z.phi] := by simp [wkCells]
theorem news_wk {w : World} {g0 : Nat} {z : Wk} (hc : Blk w g0 74 #[.string z.nm, .int .i64 z.th, .int .i64 z.plo, .int .i64 z.phi]) : ∀ j u, ([.string z.nm, .int .i64 z.th, .int .i64 z.plo, .int .i64 z.phi] : List Value)[j]? = some u → w.cell? ((⟨g0, 0, none⟩ : Addr).add j) = some u := by
  intro j u hj
  match j, hj with
  | 0, hj => simp at hj; subst hj; have h := hc.cell 0; simpa [Addr.add] using h
  | 1, hj => simp at hj; subst hj; have h := hc.cell 1; simpa [Addr.add] using h
  | 2, hj => simp at hj; subst hj; have h := hc.cell 2; simpa [Addr.add] using h
  | 3, hj => simp at hj; subst hj; have h := hc.cell 3; simpa [Addr.add] using h
section
variable {o : Oper} {a : Act} {w : World} {Q : Exit → Act → World → Prop} {K : Act → World → Prop} {B g0 : Nat} {v : Value}
theorem appk_wp (s x : Operand) (ho : o.op = .call { callee := .builtin .append, args := #[s, x], argTypes := #[22, 22] })
    {l : List Wk} (hs : a.eval s = v) (hown : WksOut B w v l) (z : Wk) (hx : a.eval x = .slice (some ⟨g0, 0, none⟩) 1 1) (hc : Blk w g0 74 #[.string z.nm, .int .i64 z.th, .int .i64 z.plo, .int .i64 z.phi]) (hl : l.length < 1000000) (hB : B ≤ w.heap.size)
    (h : ∀ g cap w', WksOut B w' (.slice (some ⟨g, 0, none⟩) (l.length + 1) cap) (l ++ [z]) → Below B w w' → w.grownBy w' v.ownBlock → K (a.put o.dst (.slice (some ⟨g, 0, none⟩) (l.length + 1) cap)) w') : Oper.wp Try.prog o a w K Q := by
  obtain ⟨i0, hi0, hz0, hz1, hz2⟩ := info_parts infoWk
  refine wp_append_lies w s x 22 ho B 74 i0 (.agg #[.string ⟨#[]⟩, .int .i64 0, .int .i64 0, .int .i64 0]) 4 40 und_wks hi0 hz0 hz1 hz2 rfl (by decide) v l.length (wkCells l) hs hown ⟨g0, 0, none⟩ 1 1 [.string z.nm, .int .i64 z.th, .int .i64 z.plo, .int .i64 z.phi] hx rfl (news_wk hc) (by simp [Value.oneCell']) (by decide) (by unfold maxLen; omega) (by omega) hB _ rfl ?_
  intro g cap w' h1 h2 _ _
  exact h g cap w' (by unfold WksOut; rw [wkCells_snoc, List.length_append]; exact h1) (own_low hown h2 hB) h2
end
theorem Blk.grow {g : Nat} {T : TypeId} {cs : Array Value} {w w' : World} {v : Value} (h : Blk w g T cs) (hg : w.grownBy w' v.ownBlock) (hne : v.ownBlock ≠ some g) : Blk w' g T cs :=
  (hg.block g h.lt (fun e => hne e.symm)).trans h
theorem own_new {B n sz : Nat} {e : TypeId} {w : World} {v : Value} {xs : List Value} (h : w.ownsRow B e sz v n xs) : v.ownBlock ≠ some w.heap.size := fun e => by have := (World.ownsRow.lt h _ e).2; omega
/-- The list of the law's own, and what was there ahead of it. -/
structure OtM (w1 : World) (v : Value) (l : List Wk) (W : World) : Prop where
  own : WksOut w1.heap.size W v l
  b : Below w1.heap.size w1 W
theorem OtM.on {w1 W W' : World} {v : Value} {l : List Wk} (h : OtM w1 v l W) (hb : Below W.heap.size W W') : OtM w1 v l W' := ⟨own_below h.own hb, h.b.trans (hb.mono h.b.size)⟩
/-- One cell of a box is laid anew. -/
theorem Bx.lay1 {w W : World} {g : Nat} {T : TypeId} {cs : Array Value} {l : List (Nat × TypeId × Array Value)} (h : Bx w ((g, T, cs) :: l) W) (i : Nat) (u : Value) (hn : ∀ q ∈ l, q.1 ≠ g) :
    Bx w ((g, T, cs.setIfInBounds i u) :: l) (W.setCell ⟨g, i, none⟩ u) :=
  have ht : Bx w l W := ⟨h.b, fun r hr => h.at_ r (List.mem_cons_of_mem _ hr)⟩
  (ht.put (grown_one W g i u) (h.at_ _ List.mem_cons_self).1 hn).add (((h.at_ _ List.mem_cons_self).2).set_ i u) (h.at_ _ List.mem_cons_self).1

/-- What each operation leaves. -/
def lt9R (w1 : World) (vv : Value) (l : List Wk) (P b o m kc kk z : Nat) (bz : Int) (_p : Sp) (x : Wk) : Nat → Value → World → Prop
  | 0, v, _ => v = vv
  | 1, v, _ => v = .pointer (some ⟨P, 0, none⟩)
  | 2, v, _ => v = .slice (some ⟨b, o, none⟩) m kc
  | 3, v, _ => v = .int .i64 (kk : Int)
  | 4, v, _ => v = .int .u8 bz
  | 5, v, _ => v = .int .i64 bz
  | 6, v, _ => v = .int .i64 ((kk : Int) + bz)
  | 7, v, _ => v = .int .i64 (m : Int)
  | 8, v, _ => v = .int .i64 (z : Int)
  | 9, v, _ => v = .pointer (some ⟨b, o + z * 4, none⟩)
  | 10, v, _ => v = .agg #[.string x.nm, .int .i64 x.th, .int .i64 x.plo, .int .i64 x.phi]
  | 11, v, W => ∃ g_11, v = .slice (some ⟨g_11, 0, none⟩) 1 1 ∧ Blk W g_11 74 #[.string x.nm, .int .i64 x.th, .int .i64 x.plo, .int .i64 x.phi] ∧ (vv : Value).ownBlock ≠ some g_11
  | 12, v, W => ∃ g_12 cap_12, v = .slice (some ⟨g_12, 0, none⟩) (l.length + 1) cap_12 ∧ WksOut w1.heap.size W (.slice (some ⟨g_12, 0, none⟩) (l.length + 1) cap_12) (l ++ [x])
  | 13, v, W => ∃ g_12 cap_12, v = .slice (some ⟨g_12, 0, none⟩) (l.length + 1) cap_12 ∧ WksOut w1.heap.size W (.slice (some ⟨g_12, 0, none⟩) (l.length + 1) cap_12) (l ++ [x])
  | _, _, _ => True
theorem lt9R_on (w1 : World) (vv : Value) (l : List Wk) (P b o m kc kk z : Nat) (bz : Int) (p : Sp) (x : Wk) : ∀ i, i < 14 → ∀ v W W', lt9R w1 vv l P b o m kc kk z bz p x i v W → Below W.heap.size W W' → lt9R w1 vv l P b o m kc kk z bz p x i v W' := by
  iterate 14 (refine all_succ ?_ ?_)
  · exact all_zero
  · exact fun _ _ _ h _ => h
  · exact fun _ _ _ h _ => h
  · exact fun _ _ _ h _ => h
  · exact fun _ _ _ h _ => h
  · exact fun _ _ _ h _ => h
  · exact fun _ _ _ h _ => h
  · exact fun _ _ _ h _ => h
  · exact fun _ _ _ h _ => h
  · exact fun _ _ _ h _ => h
  · exact fun _ _ _ h _ => h
  · exact fun _ _ _ h _ => h
  · rintro v W W' ⟨g_11, e, h0, h1⟩ hb; exact ⟨g_11, e, h0.on hb, h1⟩
  · rintro v W W' ⟨g_12, cap_12, e, h0⟩ hb; exact ⟨g_12, cap_12, e, (own_below h0 hb)⟩
  · rintro v W W' ⟨g_12, cap_12, e, h0⟩ hb; exact ⟨g_12, cap_12, e, (own_below h0 hb)⟩
set_option maxRecDepth 100000 in
set_option maxHeartbeats 8000000 in
theorem lt9_region {w1 : World} {vv : Value} {l : List Wk} {P b o m kc kk z : Nat} {bz : Int} {p : Sp} {x : Wk} (hl : l.length < 1000000) (hm0 : ¬ (m = 0)) (hzm : z < m) (hwb : IntKind.i64.wrap bz = bz) (hwa : IntKind.i64.wrap ((kk : Int) + bz) = (kk : Int) + bz) (htm : ((kk : Int) + bz).tmod (m : Int) = (z : Int)) (_hwz : IntKind.i64.wrap (z : Int) = (z : Int)) (hP : ∀ W, OtM w1 vv l W → Blk W P 27 #[.slice (some ⟨b, o, none⟩) m kc, .slice p.xa p.s.xs.length p.xc, .int .i64 p.s.flo, .int .i64 p.s.fhi, .int .i64 p.s.plo, .int .i64 p.s.phi]) (hk : ∀ W, OtM w1 vv l W → W.cell? ⟨b, o + z * 4, none⟩ = some (.string x.nm) ∧ W.cell? ⟨b, o + z * 4 + 1, none⟩ = some (.int .i64 x.th) ∧ W.cell? ⟨b, o + z * 4 + 2, none⟩ = some (.int .i64 x.plo) ∧ W.cell? ⟨b, o + z * 4 + 3, none⟩ = some (.int .i64 x.phi)) {Q : Exit → Act → World → Prop} {s0 s1 s4 s5 s6 s7 s8 s12 s13 s14 s15 s16 s17 s18 s19 s20 s21 s22 s23 s24 s25 s26 s27 s28 s29 s30 s31 s32 s33 s34 s35 s36 s37 s38 s39 s40 s41 s42 s43 s44 s45 s59 s60 s61 s62 s63 s64 s65 s66 s67 s68 s69 s70 s71 s72 s73 s74 s75 s76 s77 s78 s79 s80 s81 s82 s83 s84 s85 s86 s87 s88 s89 s90 s91 s92 s93 s94 s95 s96 s97 s98 s99 s100 s101 s102 s103 s104 s105 s106 s107 s108 s109 s110 s111 s112 s113 s114 s115 s116 s117 s118 s119 s46 s47 s48 s49 s50 s51 s52 s53 s54 s55 s56 s57 s58 : Value} {W0 : World} (HL : Hid ((OtM w1 vv l) W0))
    (HQ : Hid (∀ (u : Nat → Value) (g_13 : Nat) (cap_13 : Nat) (W : World), WksOut w1.heap.size W (.slice (some ⟨g_13, 0, none⟩) (l.length + 1) cap_13) (l ++ [x]) → (Below w1.heap.size w1) W → Q .normal ⟨#[s0, s1, .int .u8 bz, .pointer (some ⟨P, 0, none⟩), s4, s5, s6, s7, s8, .int .i64 (m : Int), .slice (some ⟨g_13, 0, none⟩) (l.length + 1) cap_13, .int .i64 (kk : Int), s12, s13, s14, s15, s16, s17, s18, s19, s20, s21, s22, s23, s24, s25, s26, s27, s28, s29, s30, s31, s32, s33, s34, s35, s36, s37, s38, s39, s40, s41, s42, s43, s44, s45, u 0, u 1, u 2, u 3, u 4, u 5, u 6, u 7, u 8, u 9, u 10, u 11, u 12, s59, s60, s61, s62, s63, s64, s65, s66, s67, s68, s69, s70, s71, s72, s73, s74, s75, s76, s77, s78, s79, s80, s81, s82, s83, s84, s85, s86, s87, s88, s89, s90, s91, s92, s93, s94, s95, s96, s97, s98, s99, s100, s101, s102, s103, s104, s105, s106, s107, s108, s109, s110, s111, s112, s113, s114, s115, s116, s117, s118, s119], []⟩ W)) :
    Code.wp Try.prog ((Try.f13.body.bind (regionAt 9)).getD .skip) Q ⟨#[s0, s1, .int .u8 bz, .pointer (some ⟨P, 0, none⟩), s4, s5, s6, s7, s8, .int .i64 (m : Int), vv, .int .i64 (kk : Int), s12, s13, s14, s15, s16, s17, s18, s19, s20, s21, s22, s23, s24, s25, s26, s27, s28, s29, s30, s31, s32, s33, s34, s35, s36, s37, s38, s39, s40, s41, s42, s43, s44, s45, s46, s47, s48, s49, s50, s51, s52, s53, s54, s55, s56, s57, s58, s59, s60, s61, s62, s63, s64, s65, s66, s67, s68, s69, s70, s71, s72, s73, s74, s75, s76, s77, s78, s79, s80, s81, s82, s83, s84, s85, s86, s87, s88, s89, s90, s91, s92, s93, s94, s95, s96, s97, s98, s99, s100, s101, s102, s103, s104, s105, s106, s107, s108, s109, s110, s111, s112, s113, s114, s115, s116, s117, s118, s119], []⟩ W0 := by
  conv => arg 2; whnf
  refine wp_region_spec2u (by kernel_rfl) 14 (by kernel_rfl) (fun u => ⟨#[s0, s1, .int .u8 bz, .pointer (some ⟨P, 0, none⟩), s4, s5, s6, s7, s8, .int .i64 (m : Int), u 13, .int .i64 (kk : Int), s12, s13, s14, s15, s16, s17, s18, s19, s20, s21, s22, s23, s24, s25, s26, s27, s28, s29, s30, s31, s32, s33, s34, s35, s36, s37, s38, s39, s40, s41, s42, s43, s44, s45, u 0, u 1, u 2, u 3, u 4, u 5, u 6, u 7, u 8, u 9, u 10, u 11, u 12, s59, s60, s61, s62, s63, s64, s65, s66, s67, s68, s69, s70, s71, s72, s73, s74, s75, s76, s77, s78, s79, s80, s81, s82, s83, s84, s85, s86, s87, s88, s89, s90, s91, s92, s93, s94, s95, s96, s97, s98, s99, s100, s101, s102, s103, s104, s105, s106, s107, s108, s109, s110, s111, s112, s113, s114, s115, s116, s117, s118, s119], []⟩) (fun i => if i = 0 then s46 else if i = 1 then s47 else if i = 2 then s48 else if i = 3 then s49 else if i = 4 then s50 else if i = 5 then s51 else if i = 6 then s52 else if i = 7 then s53 else if i = 8 then s54 else if i = 9 then s55 else if i = 10 then s56 else if i = 11 then s57 else if i = 12 then s58 else if i = 13 then vv else undef) (fun L W => Hid (sel1 (L 12) ((OtM w1 vv l)) ((Below w1.heap.size w1)) W)) (lt9R w1 vv l P b o m kc kk z bz p x) (by kernel_rfl) ((fun (W : World) (W' : World) (h : OtM w1 vv l W) (hb : Below W.heap.size W W') => h.on hb) _ _ HL.out (Below.refl _ _).drew) (by decide +kernel) ?_ ?_
  · iterate 14 (refine all_succ ?_ ?_)
    · exact all_zero
    · intro L u W hB hi hC hd hU0 K hK
      have HU := Lib.hid hU0; clear hU0
      have HK := Lib.hid hK; clear hK
      have h12 : L 12 = false := by
        cases h : L 12 with
        | false => rfl
        | true => exact absurd (hC 12 (by decide) h 0 (by decide +kernel)) (by rw [hi]; decide)
      have hM : (OtM w1 vv l) W := by
        have h := hB.out
        rw [h12] at h
        exact h
      have hN : ∀ W', (OtM w1 vv l) W' → Hid (sel1 (setL L 0 12) ((OtM w1 vv l)) ((Below w1.heap.size w1)) W') := fun W' h => by
        show Hid (sel1 (L 12) ((OtM w1 vv l)) ((Below w1.heap.size w1)) W')
        rw [h12]
        exact h
      clear hB
      have hB := Lib.hid hM
      clear hM
      have h13 : L 13 = false := by
        cases h : L 13 with
        | false => rfl
        | true => exact absurd (hC 13 (by decide) h 0 (by decide +kernel)) (by rw [hi]; decide)
      have e13 : u 13 = vv := by have h := HU.out 13 (by decide) h13; simpa using h
      clear h13
      refine wpOp_of rfl (by rfl) ?_
      go_simp
      exact k_of (HK.out vv _ rfl (hN _ hB.out) (fun _ _ _ _ h => h)) (by rw [← u1_eq e13]; kernel_rfl)
    · intro L u W hB hi hC hd hU0 K hK
      have HU := Lib.hid hU0; clear hU0
      have HK := Lib.hid hK; clear hK
      refine wpOp_of rfl (by rfl) ?_
      go_simp
      exact k_of (HK.out (.pointer (some ⟨P, 0, none⟩)) _ rfl hB (fun _ _ _ _ h => h)) (by kernel_rfl)
    · intro L u W hB hi hC hd hU0 K hK
      have HU := Lib.hid hU0; clear hU0
      have HK := Lib.hid hK; clear hK
      have h12 : L 12 = false := by
        cases h : L 12 with
        | false => rfl
        | true => exact absurd (hC 9 (by decide) (hC 10 (by decide) (hC 11 (by decide) (hC 12 (by decide) h 11 (by decide +kernel)) 10 (by decide +kernel)) 9 (by decide +kernel)) 2 (by decide +kernel)) (by rw [hi]; decide)
      have hM : (OtM w1 vv l) W := by
        have h := hB.out
        rw [h12] at h
        exact h
      have hN : ∀ W', (OtM w1 vv l) W' → Hid (sel1 (setL L 2 12) ((OtM w1 vv l)) ((Below w1.heap.size w1)) W') := fun W' h => by
        show Hid (sel1 (L 12) ((OtM w1 vv l)) ((Below w1.heap.size w1)) W')
        rw [h12]
        exact h
      clear hB
      have hB := Lib.hid hM
      clear hM
      have e1 : u 1 = .pointer (some ⟨P, 0, none⟩) := (hd 1 (by decide +kernel)).2
      refine wpOp_of rfl (by rfl) ?_
      have z0 := (hP W hB.out).cell 0
      go_simp
      exact k_of (HK.out (.slice (some ⟨b, o, none⟩) m kc) _ rfl (hN _ hB.out) (fun _ _ _ _ h => h)) (by rw [← u1_eq e1]; kernel_rfl)
    · intro L u W hB hi hC hd hU0 K hK
      have HU := Lib.hid hU0; clear hU0
      have HK := Lib.hid hK; clear hK
      refine wpOp_of rfl (by rfl) ?_
      go_simp
      exact k_of (HK.out (.int .i64 (kk : Int)) _ rfl hB (fun _ _ _ _ h => h)) (by kernel_rfl)
    · intro L u W hB hi hC hd hU0 K hK
      have HU := Lib.hid hU0; clear hU0
      have HK := Lib.hid hK; clear hK
      refine wpOp_of rfl (by rfl) ?_
      go_simp
      exact k_of (HK.out (.int .u8 bz) _ rfl hB (fun _ _ _ _ h => h)) (by kernel_rfl)
    · intro L u W hB hi hC hd hU0 K hK
      have HU := Lib.hid hU0; clear hU0
      have HK := Lib.hid hK; clear hK
      have e4 : u 4 = .int .u8 bz := (hd 4 (by decide +kernel)).2
      refine wpOp_of rfl (by rfl) ?_
      go_simp
      exact k_of (HK.out (.int .i64 bz) _ rfl hB (fun _ _ _ _ h => h)) (by rw [← u1_eq e4]; kernel_rfl)
    · intro L u W hB hi hC hd hU0 K hK
      have HU := Lib.hid hU0; clear hU0
      have HK := Lib.hid hK; clear hK
      have e3 : u 3 = .int .i64 (kk : Int) := (hd 3 (by decide +kernel)).2
      have e5 : u 5 = .int .i64 bz := (hd 5 (by decide +kernel)).2
      refine wpOp_of rfl (by rfl) ?_
      go_simp
      exact k_of (HK.out (.int .i64 ((kk : Int) + bz)) _ rfl hB (fun _ _ _ _ h => h)) (by rw [← u1_eq e3, ← u1_eq e5]; kernel_rfl)
    · intro L u W hB hi hC hd hU0 K hK
      have HU := Lib.hid hU0; clear hU0
      have HK := Lib.hid hK; clear hK
      refine wpOp_of rfl (by rfl) ?_
      go_simp
      exact k_of (HK.out (.int .i64 (m : Int)) _ rfl hB (fun _ _ _ _ h => h)) (by kernel_rfl)
    · intro L u W hB hi hC hd hU0 K hK
      have HU := Lib.hid hU0; clear hU0
      have HK := Lib.hid hK; clear hK
      have e6 : u 6 = .int .i64 ((kk : Int) + bz) := (hd 6 (by decide +kernel)).2
      have e7 : u 7 = .int .i64 (m : Int) := (hd 7 (by decide +kernel)).2
      refine wpOp_of rfl (by rfl) ?_
      go_simp
      exact k_of (HK.out (.int .i64 (z : Int)) _ rfl hB (fun _ _ _ _ h => h)) (by rw [← u1_eq e6, ← u1_eq e7]; kernel_rfl)
    · intro L u W hB hi hC hd hU0 K hK
      have HU := Lib.hid hU0; clear hU0
      have HK := Lib.hid hK; clear hK
      have e2 : u 2 = .slice (some ⟨b, o, none⟩) m kc := (hd 2 (by decide +kernel)).2
      have e8 : u 8 = .int .i64 (z : Int) := (hd 8 (by decide +kernel)).2
      refine wpOp_of rfl (by rfl) ?_
      go_simp
      exact k_of (HK.out (.pointer (some ⟨b, o + z * 4, none⟩)) _ rfl hB (fun _ _ _ _ h => h)) (by rw [← u1_eq e2, ← u1_eq e8]; kernel_rfl)
    · intro L u W hB hi hC hd hU0 K hK
      have HU := Lib.hid hU0; clear hU0
      have HK := Lib.hid hK; clear hK
      have h12 : L 12 = false := by
        cases h : L 12 with
        | false => rfl
        | true => exact absurd (hC 11 (by decide) (hC 12 (by decide) h 11 (by decide +kernel)) 10 (by decide +kernel)) (by rw [hi]; decide)
      have hM : (OtM w1 vv l) W := by
        have h := hB.out
        rw [h12] at h
        exact h
      have hN : ∀ W', (OtM w1 vv l) W' → Hid (sel1 (setL L 10 12) ((OtM w1 vv l)) ((Below w1.heap.size w1)) W') := fun W' h => by
        show Hid (sel1 (L 12) ((OtM w1 vv l)) ((Below w1.heap.size w1)) W')
        rw [h12]
        exact h
      clear hB
      have hB := Lib.hid hM
      clear hM
      have e9 : u 9 = .pointer (some ⟨b, o + z * 4, none⟩) := (hd 9 (by decide +kernel)).2
      refine wpOp_of rfl (by rfl) ?_
      obtain ⟨z0, z1, z2, z3⟩ := hk W hB.out
      go_simp
      exact k_of (HK.out (.agg #[.string x.nm, .int .i64 x.th, .int .i64 x.plo, .int .i64 x.phi]) _ rfl (hN _ hB.out) (fun _ _ _ _ h => h)) (by rw [← u1_eq e9]; kernel_rfl)
    · intro L u W hB hi hC hd hU0 K hK
      have HU := Lib.hid hU0; clear hU0
      have HK := Lib.hid hK; clear hK
      have h12 : L 12 = false := by
        cases h : L 12 with
        | false => rfl
        | true => exact absurd (hC 12 (by decide) h 11 (by decide +kernel)) (by rw [hi]; decide)
      have hM : (OtM w1 vv l) W := by
        have h := hB.out
        rw [h12] at h
        exact h
      have hN : ∀ W', (OtM w1 vv l) W' → Hid (sel1 (setL L 11 12) ((OtM w1 vv l)) ((Below w1.heap.size w1)) W') := fun W' h => by
        show Hid (sel1 (L 12) ((OtM w1 vv l)) ((Below w1.heap.size w1)) W')
        rw [h12]
        exact h
      clear hB
      have hB := Lib.hid hM
      clear hM
      have e10 : u 10 = .agg #[.string x.nm, .int .i64 x.th, .int .i64 x.plo, .int .i64 x.phi] := (hd 10 (by decide +kernel)).2
      refine wpOp_of rfl (by rfl) ?_
      go_simp
      have hb : Below W.heap.size W (W.alloc (.cells #[.string x.nm, .int .i64 x.th, .int .i64 x.plo, .int .i64 x.phi] 74)) := (Below.refl _ W).alloc (Nat.le_refl _) _
      exact k_of (HK.out (.slice (some ⟨W.heap.size, 0, none⟩) 1 1) _ ⟨W.heap.size, rfl, Blk.new W _ _, own_new hB.out.own⟩ (hN _ (hB.out.on hb)) (fun j v hj _ hR => lt9R_on w1 vv l P b o m kc kk z bz p x j hj v _ _ hR hb)) (by rw [← u1_eq e10]; kernel_rfl)
    · intro L u W hB hi hC hd hU0 K hK
      have HU := Lib.hid hU0; clear hU0
      have HK := Lib.hid hK; clear hK
      have h12 : L 12 = false := hi
      have hM : (OtM w1 vv l) W := by
        have h := hB.out
        rw [h12] at h
        exact h
      have hN : ∀ W', (Below w1.heap.size w1) W' → Hid (sel1 (setL L 12 12) ((OtM w1 vv l)) ((Below w1.heap.size w1)) W') := fun W' h => by
        show Hid (sel1 true ((OtM w1 vv l)) ((Below w1.heap.size w1)) W')
        exact h
      clear hB
      have hB := Lib.hid hM
      clear hM
      have e0 : u 0 = vv := (hd 0 (by decide +kernel)).2
      obtain ⟨g_11, e11, f11_0, f11_1⟩ : lt9R w1 vv l P b o m kc kk z bz p x 11 (u 11) W := (hd 11 (by decide +kernel)).2
      refine wpOp_of rfl (by rfl) ?_
      refine appk_wp _ _ rfl e0 hB.out.own x e11 f11_0 hl hB.out.b.size ?_
      intro g cap w4 r1 r2 r3
      have hkeep : ∀ j, j < 14 → ∀ v, L j = true → lt9R w1 vv l P b o m kc kk z bz p x j v W → lt9R w1 vv l P b o m kc kk z bz p x j v w4 := by
        iterate 14 (refine all_succ ?_ ?_)
        · exact all_zero
        · exact fun _ _ h => h
        · exact fun _ _ h => h
        · exact fun _ _ h => h
        · exact fun _ _ h => h
        · exact fun _ _ h => h
        · exact fun _ _ h => h
        · exact fun _ _ h => h
        · exact fun _ _ h => h
        · exact fun _ _ h => h
        · exact fun _ _ h => h
        · exact fun _ _ h => h
        · rintro v _ ⟨g, e, h1, h2⟩; exact ⟨g, e, h1.grow r3 h2, h2⟩
        · intro v h; rw [hi] at h; cases h
        · intro v h; exact absurd (hC 13 (by decide) h 12 (by decide +kernel)) (by rw [hi]; decide)
      exact k_of (HK.out (.slice (some ⟨g, 0, none⟩) (l.length + 1) cap) _ ⟨g, cap, rfl, r1⟩ (hN _ (hB.out.b.trans r2)) (fun j v hj h1 h2 => hkeep j hj v h1 h2)) (by rw [← u1_eq e0, ← u1_eq e11]; kernel_rfl)
    · intro L u W hB hi hC hd hU0 K hK
      have HU := Lib.hid hU0; clear hU0
      have HK := Lib.hid hK; clear hK
      obtain ⟨g_12, cap_12, e12, f12_0⟩ : lt9R w1 vv l P b o m kc kk z bz p x 12 (u 12) W := (hd 12 (by decide +kernel)).2
      refine wpOp_of rfl (by rfl) ?_
      go_simp
      exact k_of (HK.out (.slice (some ⟨g_12, 0, none⟩) (l.length + 1) cap_12) _ ⟨g_12, cap_12, rfl, f12_0⟩ hB (fun _ _ _ _ h => h)) (by rw [← u1_eq e12]; kernel_rfl)
  · intro L u W hL hB hd
    have hM : (Below w1.heap.size w1) W := by
      have h := hB.out
      rw [hL 12 (by decide)] at h
      exact h
    obtain ⟨g_13, cap_13, e13, f13_0⟩ : lt9R w1 vv l P b o m kc kk z bz p x 13 (u 13) W := hd 13 (by decide)
    exact k_of (HQ.out u g_13 cap_13 W f13_0 hM) (by simp only [e13])
end Go.Proofs.Ytkjfommdeljefaa
