/- ref.When: what lies in memory; its region that calls Next. -/
import Derived.Test.YtljbjcnfkbmjkaaMg7
import Derived.Test.YtljbjcnfkbmjkaaMgr
namespace Go.Proofs.Ytljbjcnfkbmjkaa
open Go.RowKit Go.Shelf
attribute [local go_sem] Oper.semAt_some

/-- The boxes, the truth's second list, the list of minutes at g, and the warmths now. -/
structure WhB (w : World) (m : Md) (A1 A2 : Option Addr) (c1 c2 : Nat) (ps ws : List Int) (g : Nat) (Al : Option Addr) (l o : List Int) (W : World) : Prop where
  b0 : MdBk w w.heap.size 25 m W
  b1 : Blk W (w.heap.size + 1) 28 #[.slice A1 ps.length c1, .slice A2 ws.length c2]
  q : IntsAt W w.heap.size A2 ws
  ol : BlkL W g o
  hg : w.heap.size + 1 < g
  l : IntsIn W Al l
  ne : ∀ a, Al = some a → a.block ≠ g
section
variable {w W W' : World} {m : Md} {A1 A2 Al : Option Addr} {c1 c2 g : Nat} {ps ws l o : List Int}
theorem WhB.set (h : WhB w m A1 A2 c1 c2 ps ws g Al l o W) (i : Nat) (v : Int) : WhB w m A1 A2 c1 c2 ps ws g Al l (o.set i v) (W.setCell ⟨g, i, none⟩ (.int .i64 v)) :=
  have h2 : w.heap.size ≤ g := Nat.le_of_lt (Nat.lt_of_succ_lt h.hg)
  ⟨⟨h.b0.bk.far (p := ⟨g, i, none⟩) (by have := h.hg; show w.heap.size ≠ g; omega) _, below_set h.b0.b h2⟩, h.b1.far (p := ⟨g, i, none⟩) (by have := h.hg; show w.heap.size + 1 ≠ g; omega) _, RowAt.below h.q (below_set (Below.refl _ _) h2) (Nat.le_refl _), h.ol.set i v, h.hg, ints_set h.l h.ne, h.ne⟩
theorem WhB.on (h : WhB w m A1 A2 c1 c2 ps ws g Al l o W) (hb : Below W.heap.size W W') : WhB w m A1 A2 c1 c2 ps ws g Al l o W' :=
  ⟨h.b0.on hb, h.b1.on hb, RowAt.below h.q hb h.b0.b.size, Blk.on h.ol hb, h.hg, h.l.on hb, h.ne⟩
theorem WhB.next {v : Value} {l' : List Int} (h : WhB w m A1 A2 c1 c2 ps ws g Al l o W) (hb : Below W.heap.size W W') (hv : IntsOut W.heap.size W' v l') : ∃ A c, v = .slice A l'.length c ∧ WhB w m A1 A2 c1 c2 ps ws g A l' o W' := by
  obtain ⟨A, c, rfl, hi⟩ := hv.in_
  have h' := h.on hb
  refine ⟨A, c, rfl, h'.b0, h'.b1, h'.q, h'.ol, h.hg, hi, fun a e => ?_⟩
  subst e
  have h1 := (World.ownsRow.lt hv a.block rfl).1
  have h2 := Blk.lt h.ol
  omega
end
set_option maxRecDepth 100000 in
set_option maxHeartbeats 8000000 in
theorem wn_r11 {Q : Exit → Act → World → Prop} {w W0 : World} {m : Md} {A1 A2 Al : Option Addr} {c1 c2 g cl j n : Nat} {ps ws l o : List Int} (hln : l.length = n) (hm : MdIn m) (hl : ∀ x ∈ l, 0 ≤ x ∧ x ≤ 2000) (hl8 : l.length ≤ 8) (hw : ∀ x ∈ ws, 0 ≤ x ∧ x ≤ 2000) (hj : j < ws.length) (h600 : ws.length ≤ 600) {s0 s1 s4 s6 s7 s9 s10 s11 s12 s13 s14 s15 s16 s17 s18 s19 s20 s21 s22 s23 s24 s25 s26 s27 s28 s29 s30 s31 s32 s33 s34 s35 s36 s37 s38 s39 s40 s41 s42 s43 s44 s45 s46 s47 s48 s49 s50 s51 s52 s53 s54 s55 s56 s57 s58 s59 s60 s61 s62 s63 s64 s65 s66 s67 s68 : Value} (HB : Hid (WhB w m A1 A2 c1 c2 ps ws g Al l o W0))
    (HQ : Hid (∀ (u35 u36 u37 u38 u39 u40 u41 u42 u43 : Value) (A : Option Addr) (c : Nat) (W : World), WhB w m A1 A2 c1 c2 ps ws g A (nextL m.give (ws.getD j 0) l) o W → Q .normal ⟨#[s0, s1, .pointer (some ⟨w.heap.size, 0, none⟩), .pointer (some ⟨w.heap.size + 1, 0, none⟩), s4, .slice A n c, s6, s7, .int .i64 ((j : Int) + 1), s9, s10, s11, s12, s13, s14, s15, s16, s17, s18, s19, s20, s21, s22, s23, s24, s25, s26, s27, s28, s29, s30, s31, s32, s33, s34, u35, u36, u37, u38, u39, u40, u41, u42, u43, s44, s45, s46, s47, s48, s49, s50, s51, s52, s53, s54, s55, s56, s57, s58, s59, s60, s61, s62, s63, s64, s65, s66, s67, s68], []⟩ W)) :
    Code.wp Try.prog ((Try.f40.body.bind (regionAt 11)).getD .skip) Q ⟨#[s0, s1, .pointer (some ⟨w.heap.size, 0, none⟩), .pointer (some ⟨w.heap.size + 1, 0, none⟩), s4, .slice Al n cl, s6, s7, .int .i64 ((j : Int) + 1), s9, s10, s11, s12, s13, s14, s15, s16, s17, s18, s19, s20, s21, s22, s23, s24, s25, s26, s27, s28, s29, s30, s31, s32, s33, s34, s35, s36, s37, s38, s39, s40, s41, s42, s43, s44, s45, s46, s47, s48, s49, s50, s51, s52, s53, s54, s55, s56, s57, s58, s59, s60, s61, s62, s63, s64, s65, s66, s67, s68], []⟩ W0 := by
  subst hln
  have hx : ws[j]? = some (ws.getD j 0) := by rw [List.getD_eq_getElem?_getD, List.getElem?_eq_getElem hj]; rfl
  have hxr := hw _ (List.mem_of_getElem? hx)
  generalize ws.getD j 0 = x at *
  have HN := Lib.hid (fun (W : World) (h : IntsIn W Al l) => rnext_any (w := W) (c := cl) hm h hl (by omega) hxr)
  have HL : Hid ((nextL m.give x l).length = l.length) := nextL_length _ _ _
  conv => arg 2; whnf
  have HB0 := Lib.hid (HB.out.on (Below.refl _ _).drew)
  obtain ⟨bb, of, rfl, hbb, cx⟩ := ints_at HB0.out.q hx
  obtain ⟨c0, c1x, c2x, c3, c4, c5, c6, c7, c8, c9, c10, c11⟩ := HB0.out.b0.cells
  have y1 := HB0.out.b1.cell 1
  have hj' : (j : Int) < ws.length := by omega
  have w0 : IntKind.i64.wrap ((j : Int) + 1 - 1) = j := by rw [Int.add_sub_cancel]; exact IntWalk.i64_in _ (by omega)
  have w1 : IntKind.i64.wrap (j : Int) = j := IntWalk.i64_in _ (by omega)
  clear hx hxr hw hl hm
  refine wp_region_noPanic ?_
  go_region_law (first
    | (go_simp; (with_reducible refine (HN.out _ HB0.out.l).mono ?_); rintro e wa ⟨v, rfl, hv, hb⟩; obtain ⟨A3, c3', rfl, hz⟩ := HB0.out.next hb hv; have HZ := Lib.hid hz; have cy := kept_of hb ⟨bb, of + j, none⟩ _ cx; have y1b := kept_of hb _ _ y1; clear hv hb hz; rw [HL.out])
    | fail)
  all_goals exact NoPanic.normal (HQ.out _ _ _ _ _ _ _ _ _ _ _ _ HZ.out)
end Go.Proofs.Ytljbjcnfkbmjkaa
