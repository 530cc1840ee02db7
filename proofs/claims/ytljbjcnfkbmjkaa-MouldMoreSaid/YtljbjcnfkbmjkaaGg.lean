/- Layer mould, a part: when rings set. No statement is proved here. -/
import Derived.Test.YtljbjcnfkbmjkaaMg2
import Derived.Test.YtljbjcnfkbmjkaaMg4
import Derived.Test.YtljbjcnfkbmjkaaMe6
import Derived.Test.YtljbjcnfkbmjkaaGc
import Derived.Test.YtljbjcnfkbmjkaaMgr
import Derived.Deep.OwnRows
namespace Go.Proofs.Ytljbjcnfkbmjkaa
open Go.RowKit Go.Shelf

/-- The minutes of the rings, as far as one walk through them has come. -/
def mixL (st n : Int) (o l : List Int) (i : Nat) : List Int := (updL st n o l).take i ++ o.drop i
theorem mix_zero (st n : Int) (o l : List Int) : mixL st n o l 0 = o := by unfold mixL; simp
theorem mix_end {st n : Int} {o l : List Int} (h : o.length = l.length) : mixL st n o l l.length = updL st n o l := by
  unfold mixL
  rw [List.take_of_length_le (by rw [updL_length h]; exact Nat.le_refl _), List.drop_of_length_le (by omega), List.append_nil]
theorem mix_length {st n : Int} {o l : List Int} (h : o.length = l.length) {i : Nat} (hi : i ≤ l.length) : (mixL st n o l i).length = l.length := by
  unfold mixL
  rw [List.length_append, List.length_take, List.length_drop, updL_length h]; omega
theorem updL_at {st n : Int} {o l : List Int} {i : Nat} {x y : Int} (hx : o[i]? = some x) (hy : l[i]? = some y) : (updL st n o l)[i]? = some (upd st n x y) := by
  unfold updL
  rw [List.getElem?_zipWith, hx, hy]
theorem mix_at {st n : Int} {o l : List Int} {i : Nat} {x : Int} (h : o.length = l.length) (hx : o[i]? = some x) : (mixL st n o l i)[i]? = some x := by
  have hi : i < o.length := (List.getElem?_eq_some_iff.1 hx).1
  have hl : ((updL st n o l).take i).length = i := by rw [List.length_take, updL_length h]; omega
  unfold mixL
  rw [List.getElem?_append_right (by omega), hl, Nat.sub_self, List.getElem?_drop, Nat.add_zero, hx]
theorem mix_step {st n : Int} {o l : List Int} {i : Nat} {x y : Int} (h : o.length = l.length) (hx : o[i]? = some x) (hy : l[i]? = some y) : (mixL st n o l i).set i (upd st n x y) = mixL st n o l (i + 1) := by
  have hi : i < o.length := (List.getElem?_eq_some_iff.1 hx).1
  have hl : ((updL st n o l).take i).length = i := by rw [List.length_take, updL_length h]; omega
  have hd : o.drop i = x :: o.drop (i + 1) := by
    rw [List.drop_eq_getElem_cons hi]; congr 1; exact (List.getElem?_eq_some_iff.1 hx).2
  unfold mixL
  rw [List.set_append_right _ _ (by omega), hl, Nat.sub_self, hd, List.set_cons_zero, List.take_add_one, updL_at hx hy]
  simp
theorem mix_same {st n : Int} {o l : List Int} {i : Nat} {x y : Int} (h : o.length = l.length) (hx : o[i]? = some x) (hy : l[i]? = some y) (hu : upd st n x y = x) : mixL st n o l i = mixL st n o l (i + 1) := by
  rw [← mix_step h hx hy, hu]
  obtain ⟨hlt, he⟩ := List.getElem?_eq_some_iff.1 (mix_at (st := st) (n := n) h hx)
  have h2 := List.set_getElem_self hlt
  rw [he] at h2
  exact h2.symm
/-- What the loop over the minutes has still to do. -/
def WhF (g st : Int) (ws F : List Int) (k : Nat) (l o : List Int) : Prop :=
  (k ≤ ws.length → F = whenL g st (ws.drop k) k (if k = 0 then l else nextL g (ws.getD (k - 1) 0) l) o) ∧ (ws.length < k → F = o)
theorem WhF.start (m : Md) (ps ws : List Int) : WhF m.give m.st ws (whenM m ps ws) 0 ps (neg1 ps.length) := ⟨fun _ => by simp [whenM], fun h => absurd h (by omega)⟩
theorem WhF.step {g st : Int} {ws F l o : List Int} {k : Nat} (h : WhF g st ws F k l o) (hk : k ≤ ws.length) :
    WhF g st ws F (k + 1) (if k = 0 then l else nextL g (ws.getD (k - 1) 0) l) (updL st k o (if k = 0 then l else nextL g (ws.getD (k - 1) 0) l)) := by
  have h1 := h.1 hk
  refine ⟨fun h2 => ?_, fun h2 => ?_⟩
  · rw [List.drop_eq_getElem_cons (show k < ws.length by omega), whenL] at h1
    rw [if_neg (by omega), Nat.add_sub_cancel, List.getD_eq_getElem?_getD, List.getElem?_eq_getElem (show k < ws.length by omega), Option.getD_some]
    simpa using h1
  · rw [List.drop_of_length_le (by omega), whenL] at h1
    exact h1
/-- A list of ints that fills a block. -/
def BlkL (W : World) (g : Nat) (l : List Int) : Prop := Blk W g 3 (l.map (Value.int .i64)).toArray
theorem BlkL.set {W : World} {g : Nat} {l : List Int} (h : BlkL W g l) (i : Nat) (v : Int) : BlkL (W.setCell ⟨g, i, none⟩ (.int .i64 v)) g (l.set i v) := by
  have := Blk.set_ h i (.int .i64 v)
  unfold BlkL
  rw [List.map_set]
  simpa using this
theorem BlkL.at_ {W : World} {g : Nat} {l : List Int} (h : BlkL W g l) {i : Nat} {x : Int} (hx : l[i]? = some x) : W.cell? ⟨g, i, none⟩ = some (.int .i64 x) := by
  have hc := Blk.cell h i
  rw [hc]
  simp [hx]
theorem BlkL.ints {W : World} {g : Nat} {l : List Int} (h : BlkL W g l) (hl : l.length ≤ 9223372036854775807) : IntsIn W (some ⟨g, 0, none⟩) l := ints_blk h rfl hl
/-- A list elsewhere, when a block is written. -/
theorem ints_set {W : World} {A : Option Addr} {l : List Int} {g k : Nat} {u : Value} (h : IntsIn W A l) (hne : ∀ a, A = some a → a.block ≠ g) : IntsIn (W.setCell ⟨g, k, none⟩ u) A l := by
  refine ⟨fun h0 => ?_, h.len⟩
  obtain ⟨b, o, e, hb, hc⟩ := h.at_ h0
  refine ⟨b, o, e, by simpa using hb, fun i x hi j hj => ?_⟩
  have hn : b ≠ g := hne _ e
  have := (grown_set W g k u).cell_far ⟨b, o + i * 1 + j, none⟩ hb (fun e2 => hn (Option.some.inj e2))
  rw [this]
  exact hc i x hi j hj
end Go.Proofs.Ytljbjcnfkbmjkaa

namespace Go.Proofs.Ytljbjcnfkbmjkaa
open Go.RowKit Go.Shelf
attribute [local go_sem] Oper.semAt_some

/-- The boxes, the truth's second list, the list of minutes at g, and the warmths now. -/
structure WhB (w : World) (m : Md) (A1 A2 : Option Addr) (c1 c2 : Nat) (ps ws : List Int) (g : Nat) (Al : Option Addr) (l o : List Int) (W : World) : Prop where
  b0 : MdBk w w.heap.size 25 m W
  b1 : Blk W (w.heap.size + 1) 28 #[.slice A1 ps.length c1, .slice A2 ws.length c2]
  q : IntsAt W w.heap.size A2 ws
  ol : BlkL W g o
  hg : w.heap.size + 1 < g
  l : IntsIn W Al l
  ne : ∀ a, Al = some a → a.block ≠ g
section
variable {w W W' : World} {m : Md} {A1 A2 Al : Option Addr} {c1 c2 g : Nat} {ps ws l o : List Int}
theorem WhB.set (h : WhB w m A1 A2 c1 c2 ps ws g Al l o W) (i : Nat) (v : Int) : WhB w m A1 A2 c1 c2 ps ws g Al l (o.set i v) (W.setCell ⟨g, i, none⟩ (.int .i64 v)) :=
  have h2 : w.heap.size ≤ g := Nat.le_of_lt (Nat.lt_of_succ_lt h.hg)
  ⟨⟨h.b0.bk.far (p := ⟨g, i, none⟩) (by have := h.hg; show w.heap.size ≠ g; omega) _, below_set h.b0.b h2⟩, h.b1.far (p := ⟨g, i, none⟩) (by have := h.hg; show w.heap.size + 1 ≠ g; omega) _, RowAt.below h.q (below_set (Below.refl _ _) h2) (Nat.le_refl _), h.ol.set i v, h.hg, ints_set h.l h.ne, h.ne⟩
theorem WhB.on (h : WhB w m A1 A2 c1 c2 ps ws g Al l o W) (hb : Below W.heap.size W W') : WhB w m A1 A2 c1 c2 ps ws g Al l o W' :=
  ⟨h.b0.on hb, h.b1.on hb, RowAt.below h.q hb h.b0.b.size, Blk.on h.ol hb, h.hg, h.l.on hb, h.ne⟩
theorem WhB.next {v : Value} {l' : List Int} (h : WhB w m A1 A2 c1 c2 ps ws g Al l o W) (hb : Below W.heap.size W W') (hv : IntsOut W.heap.size W' v l') : ∃ A c, v = .slice A l'.length c ∧ WhB w m A1 A2 c1 c2 ps ws g A l' o W' := by
  obtain ⟨A, c, rfl, hi⟩ := hv.in_
  have h' := h.on hb
  refine ⟨A, c, rfl, h'.b0, h'.b1, h'.q, h'.ol, h.hg, hi, fun a e => ?_⟩
  subst e
  have h1 := (World.ownsRow.lt hv a.block rfl).1
  have h2 := Blk.lt h.ol
  omega
end
set_option maxRecDepth 100000 in
set_option maxHeartbeats 8000000 in
theorem wn_r11 {Q : Exit → Act → World → Prop} {w W0 : World} {m : Md} {A1 A2 Al : Option Addr} {c1 c2 g cl j n : Nat} {ps ws l o : List Int} (hln : l.length = n) (hm : MdIn m) (hl : ∀ x ∈ l, 0 ≤ x ∧ x ≤ 2000) (hl8 : l.length ≤ 8) (hw : ∀ x ∈ ws, 0 ≤ x ∧ x ≤ 2000) (hj : j < ws.length) (h600 : ws.length ≤ 600) {s0 s1 s4 s6 s7 s9 s10 s11 s12 s13 s14 s15 s16 s17 s18 s19 s20 s21 s22 s23 s24 s25 s26 s27 s28 s29 s30 s31 s32 s33 s34 s35 s36 s37 s38 s39 s40 s41 s42 s43 s44 s45 s46 s47 s48 s49 s50 s51 s52 s53 s54 s55 s56 s57 s58 s59 s60 s61 s62 s63 s64 s65 s66 s67 s68 : Value} (HB : Hid (WhB w m A1 A2 c1 c2 ps ws g Al l o W0))
    (HQ : Hid (∀ (u35 u36 u37 u38 u39 u40 u41 u42 u43 : Value) (A : Option Addr) (c : Nat) (W : World), WhB w m A1 A2 c1 c2 ps ws g A (nextL m.give (ws.getD j 0) l) o W → Q .normal ⟨#[s0, s1, .pointer (some ⟨w.heap.size, 0, none⟩), .pointer (some ⟨w.heap.size + 1, 0, none⟩), s4, .slice A n c, s6, s7, .int .i64 ((j : Int) + 1), s9, s10, s11, s12, s13, s14, s15, s16, s17, s18, s19, s20, s21, s22, s23, s24, s25, s26, s27, s28, s29, s30, s31, s32, s33, s34, u35, u36, u37, u38, u39, u40, u41, u42, u43, s44, s45, s46, s47, s48, s49, s50, s51, s52, s53, s54, s55, s56, s57, s58, s59, s60, s61, s62, s63, s64, s65, s66, s67, s68], []⟩ W)) :
    Code.wp Try.prog ((Try.f40.body.bind (regionAt 11)).getD .skip) Q ⟨#[s0, s1, .pointer (some ⟨w.heap.size, 0, none⟩), .pointer (some ⟨w.heap.size + 1, 0, none⟩), s4, .slice Al n cl, s6, s7, .int .i64 ((j : Int) + 1), s9, s10, s11, s12, s13, s14, s15, s16, s17, s18, s19, s20, s21, s22, s23, s24, s25, s26, s27, s28, s29, s30, s31, s32, s33, s34, s35, s36, s37, s38, s39, s40, s41, s42, s43, s44, s45, s46, s47, s48, s49, s50, s51, s52, s53, s54, s55, s56, s57, s58, s59, s60, s61, s62, s63, s64, s65, s66, s67, s68], []⟩ W0 := by
  subst hln
  have hx : ws[j]? = some (ws.getD j 0) := by rw [List.getD_eq_getElem?_getD, List.getElem?_eq_getElem hj]; rfl
  have hxr := hw _ (List.mem_of_getElem? hx)
  generalize ws.getD j 0 = x at *
  have HN := Lib.hid (fun (W : World) (h : IntsIn W Al l) => rnext_any (w := W) (c := cl) hm h hl (by omega) hxr)
  have HL : Hid ((nextL m.give x l).length = l.length) := nextL_length _ _ _
  conv => arg 2; whnf
  have HB0 := Lib.hid (HB.out.on (Below.refl _ _).drew)
  obtain ⟨bb, of, rfl, hbb, cx⟩ := ints_at HB0.out.q hx
  obtain ⟨c0, c1x, c2x, c3, c4, c5, c6, c7, c8, c9, c10, c11⟩ := HB0.out.b0.cells
  have y1 := HB0.out.b1.cell 1
  have hj' : (j : Int) < ws.length := by omega
  have w0 : IntKind.i64.wrap ((j : Int) + 1 - 1) = j := by rw [Int.add_sub_cancel]; exact IntWalk.i64_in _ (by omega)
  have w1 : IntKind.i64.wrap (j : Int) = j := IntWalk.i64_in _ (by omega)
  clear hx hxr hw hl hm
  refine wp_region_noPanic ?_
  go_region_law (first
    | (go_simp; (with_reducible refine (HN.out _ HB0.out.l).mono ?_); rintro e wa ⟨v, rfl, hv, hb⟩; obtain ⟨A3, c3', rfl, hz⟩ := HB0.out.next hb hv; have HZ := Lib.hid hz; have cy := kept_of hb ⟨bb, of + j, none⟩ _ cx; have y1b := kept_of hb _ _ y1; clear hv hb hz; rw [HL.out])
    | fail)
  all_goals exact NoPanic.normal (HQ.out _ _ _ _ _ _ _ _ _ _ _ _ HZ.out)
end Go.Proofs.Ytljbjcnfkbmjkaa

namespace Go.Proofs.Ytljbjcnfkbmjkaa
open Go.RowKit Go.Shelf Go.Deep
attribute [local go_sem] Oper.semAt_some

theorem made_ints (n : Nat) : madeCells #[Value.int .i64 0] n = ((List.replicate n (0 : Int)).map (Value.int .i64)).toArray := by
  apply Array.ext
  · simp [madeCells]
  · intro i h1 h2
    simp [madeCells, Nat.mod_one]
/-- -1 for the rings that were walked through. -/
def negs (n k : Nat) : List Int := List.replicate k (-1) ++ List.replicate (n - k) 0
theorem negs_at {n k : Nat} (h : k < n) : (negs n k)[k]? = some 0 := by
  unfold negs
  rw [List.getElem?_append_right (by simp), List.length_replicate, Nat.sub_self, List.getElem?_replicate, if_pos (by omega)]
theorem negs_step {n k : Nat} (h : k < n) : (negs n k).set k (-1) = negs n (k + 1) := by
  unfold negs
  obtain ⟨r, hr⟩ : ∃ r, n - k = r + 1 := ⟨n - k - 1, by omega⟩
  rw [List.set_append_right _ _ (by simp), List.length_replicate, Nat.sub_self, hr, List.replicate_succ, List.set_cons_zero, show n - (k + 1) = r by omega, List.replicate_succ', List.append_assoc]
  rfl
theorem negs_end (n : Nat) : negs n n = neg1 n := by unfold negs neg1; simp
set_option maxRecDepth 100000 in
set_option maxHeartbeats 8000000 in
theorem rwhen_any {w : World} (m : Md) (hm : MdIn m) {A1 A2 : Option Addr} {c1 c2 : Nat} {ps ws : List Int} (hp : IntsIn w A1 ps) (hq : IntsIn w A2 ws) (h0 : 0 < ps.length) (h8 : ps.length ≤ 8) (h600 : ws.length ≤ 600) (hpr : ∀ x ∈ ps, 0 ≤ x ∧ x ≤ 2000) (hwr : ∀ x ∈ ws, 0 ≤ x ∧ x ≤ 2000) :
    Calls Try.prog 40 #[.agg #[.int .i64 m.rings, .int .i64 m.give, .int .i64 m.plo, .int .i64 m.phi, .int .i64 m.wlo, .int .i64 m.whi, .int .i64 m.st, .int .i64 m.shrink, .int .i64 m.skin, .int .i64 m.fill, .int .i64 m.gap, .int .i64 m.deep], .agg #[.slice A1 ps.length c1, .slice A2 ws.length c2]] w fun e w' => ∃ A c, e = .returned (.slice A (whenM m ps ws).length c) ∧ IntsIn w' A (whenM m ps ws) ∧ Below w.heap.size w w' := by
  have HM : Hid (RtB w m A1 A2 c1 c2 ps ws ((w.alloc (.cells #[.int .i64 m.rings, .int .i64 m.give, .int .i64 m.plo, .int .i64 m.phi, .int .i64 m.wlo, .int .i64 m.whi, .int .i64 m.st, .int .i64 m.shrink, .int .i64 m.skin, .int .i64 m.fill, .int .i64 m.gap, .int .i64 m.deep] 25)).alloc (.cells #[.slice A1 ps.length c1, .slice A2 ws.length c2] 28))) := by
    have hb0 : Below w.heap.size w ((w.alloc (.cells #[.int .i64 m.rings, .int .i64 m.give, .int .i64 m.plo, .int .i64 m.phi, .int .i64 m.wlo, .int .i64 m.whi, .int .i64 m.st, .int .i64 m.shrink, .int .i64 m.skin, .int .i64 m.fill, .int .i64 m.gap, .int .i64 m.deep] 25)).alloc (.cells #[.slice A1 ps.length c1, .slice A2 ws.length c2] 28)) := ((Below.refl _ w).alloc (Nat.le_refl _) _).alloc (by simp) _
    exact ⟨⟨(Blk.new w _ _).alloc _, hb0⟩, Blk.new1 w _ _ _, hp.on hb0, hq.on hb0⟩
  have HQ0 : Hid (IntsAt w w.heap.size A2 ws) := hq.at_
  have hmk : ∀ W, (Instr.makeSlice 26 (.int .i64 (ps.length : Int)) (.int .i64 (ps.length : Int))).run Try.prog W = .ok (.slice (some ⟨W.heap.size, 0, none⟩) ps.length ps.length) (W.alloc (.cells (madeCells #[.int .i64 0] ps.length) 3)) := fun W => run_make_row' 26 3 (.int .i64 0) 8 und_ints infoInt rfl .i64 .i64 ps.length (by omega) (by omega) W
  have HE : Hid (IntsOut (w.heap.size + 2) (((w.alloc (.cells #[.int .i64 m.rings, .int .i64 m.give, .int .i64 m.plo, .int .i64 m.phi, .int .i64 m.wlo, .int .i64 m.whi, .int .i64 m.st, .int .i64 m.shrink, .int .i64 m.skin, .int .i64 m.fill, .int .i64 m.gap, .int .i64 m.deep] 25)).alloc (.cells #[.slice A1 ps.length c1, .slice A2 ws.length c2] 28)).alloc (.cells #[] 3)) (.slice (some ⟨w.heap.size + 1 + 1, 0, none⟩) 0 0) []) := by
    have h := own_empty ((w.alloc (.cells #[.int .i64 m.rings, .int .i64 m.give, .int .i64 m.plo, .int .i64 m.phi, .int .i64 m.wlo, .int .i64 m.whi, .int .i64 m.st, .int .i64 m.shrink, .int .i64 m.skin, .int .i64 m.fill, .int .i64 m.gap, .int .i64 m.deep] 25)).alloc (.cells #[.slice A1 ps.length c1, .slice A2 ws.length c2] 28)) (w.heap.size + 2) (by simp)
    rw [show ((w.alloc (.cells #[.int .i64 m.rings, .int .i64 m.give, .int .i64 m.plo, .int .i64 m.phi, .int .i64 m.wlo, .int .i64 m.whi, .int .i64 m.st, .int .i64 m.shrink, .int .i64 m.skin, .int .i64 m.fill, .int .i64 m.gap, .int .i64 m.deep] 25)).alloc (.cells #[.slice A1 ps.length c1, .slice A2 ws.length c2] 28)).heap.size = w.heap.size + 1 + 1 by simp] at h
    exact h
  obtain ⟨F, hF⟩ : ∃ F, F = whenM m ps ws := ⟨_, rfl⟩
  have HF0 : Hid (WhF m.give m.st ws F 0 ps (neg1 ps.length)) := by rw [hF]; exact WhF.start m ps ws
  have HFL : Hid (F.length = ps.length) := by rw [hF]; exact whenM_length _ _ _
  have HFE := Lib.hid hF
  have HWR := Lib.hid hwr
  have HPR := Lib.hid hpr
  have HMI := Lib.hid hm
  clear hp hq hF hwr hpr hm
  have y0 := HM.out.b1.cell 0
  go_enter Try.func40, Try.ntmps40
  go_wp2_with (first
    | (at_builtin; go_must (refine app_many rfl _ _ rfl (l := []) (l2 := ps) rfl HE.out rfl (HM.out.p.on ((Below.refl _ _).alloc (Nat.le_refl _) _)) h0 (by simp; omega) (by simp) ?_); intro g1 cap1 w4 h1 h2 h3 h4)
    | fail)
  simp only [List.nil_append, List.length_nil, Nat.zero_add] at h1
  have hsz : ((w.alloc (.cells #[.int .i64 m.rings, .int .i64 m.give, .int .i64 m.plo, .int .i64 m.phi, .int .i64 m.wlo, .int .i64 m.whi, .int .i64 m.st, .int .i64 m.shrink, .int .i64 m.skin, .int .i64 m.fill, .int .i64 m.gap, .int .i64 m.deep] 25)).alloc (.cells #[.slice A1 ps.length c1, .slice A2 ws.length c2] 28)).heap.size = w.heap.size + 1 + 1 := by simp
  have hb : Below (w.heap.size + 2) ((w.alloc (.cells #[.int .i64 m.rings, .int .i64 m.give, .int .i64 m.plo, .int .i64 m.phi, .int .i64 m.wlo, .int .i64 m.whi, .int .i64 m.st, .int .i64 m.shrink, .int .i64 m.skin, .int .i64 m.fill, .int .i64 m.gap, .int .i64 m.deep] 25)).alloc (.cells #[.slice A1 ps.length c1, .slice A2 ws.length c2] 28)) w4 := ((Below.refl _ ((w.alloc (.cells #[.int .i64 m.rings, .int .i64 m.give, .int .i64 m.plo, .int .i64 m.phi, .int .i64 m.wlo, .int .i64 m.whi, .int .i64 m.st, .int .i64 m.shrink, .int .i64 m.skin, .int .i64 m.fill, .int .i64 m.gap, .int .i64 m.deep] 25)).alloc (.cells #[.slice A1 ps.length c1, .slice A2 ws.length c2] 28))).alloc (by rw [hsz]; exact Nat.le_refl _) _).trans h2
  have hgs : w.heap.size + 2 ≤ w4.heap.size := by have := hb.size; omega
  have hlt1 : g1 < w4.heap.size := (World.ownsRow.lt h1 g1 rfl).2
  have HW : Hid (WhB w m A1 A2 c1 c2 ps ws w4.heap.size (some ⟨g1, 0, none⟩) ps (negs ps.length 0) (w4.alloc (.cells (madeCells #[.int .i64 0] ps.length) 3))) := by
    obtain ⟨A, c, e, hi⟩ := h1.in_
    cases e
    have hm4 : MdBk w w.heap.size 25 m w4 := ⟨HM.out.b0.bk.below hb (by omega), HM.out.b0.b.trans (hb.mono (by omega))⟩
    have hba : Below w4.heap.size w4 (w4.alloc (.cells (madeCells #[.int .i64 0] ps.length) 3)) := (Below.refl _ _).alloc (Nat.le_refl _) _
    have hnew : BlkL (w4.alloc (.cells (madeCells #[.int .i64 0] ps.length) 3)) w4.heap.size (negs ps.length 0) := by
      unfold BlkL negs
      rw [List.replicate_zero, List.nil_append, Nat.sub_zero, ← made_ints]
      exact Blk.new w4 3 _
    exact ⟨hm4.on hba, (HM.out.b1.below hb (by omega)).on hba, RowAt.below HQ0.out (hm4.on hba).b (Nat.le_refl _), hnew, by omega, hi.on hba, fun a e => by cases e; exact Nat.ne_of_lt hlt1⟩
  clear h1 h2 h3 h4 hb hsz hlt1 hgs HM HE HQ0 y0 hmk
  generalize w4.heap.size = g at *
  generalize w4.alloc (.cells (madeCells #[.int .i64 0] ps.length) 3) = W4 at *
  go_loopw [7] (fun i W => ∃ k : Nat, k ≤ ps.length ∧ i = .int .i64 k ∧ Hid (WhB w m A1 A2 c1 c2 ps ws g (some ⟨g1, 0, none⟩) ps (negs ps.length k) W)) (fun i _ => ps.length - (intOf i).toNat)
  case atStart => exact ⟨0, by omega, rfl, HW⟩
  case round =>
    obtain ⟨k, hk, rfl, HI⟩ := hrel
    clear HW
    by_cases hlt : k < ps.length
    · have hlt' : (k : Int) < ps.length := by omega
      have kx := HI.out.ol.at_ (negs_at hlt)
      have fx := Blk.frozen HI.out.ol k
      have gx := Blk.lt HI.out.ol
      have HW2 := Lib.hid (HI.out.set k (-1))
      rw [negs_step hlt] at HW2
      go_wp2_with fail
      go_roundw
      case rel => exact ⟨k + 1, by omega, by go_num, HW2⟩
      case measure => exact meas_one hlt
    · obtain rfl : k = ps.length := by omega
      have hn2 : ¬ ((ps.length : Int) < ps.length) := by omega
      rw [negs_end] at HI
      go_wp2_with fail
      go_loopw [5, 8, 9] (fun v n _ W => ∃ (k : Nat) (o l : List Int) (Al : Option Addr) (cl : Nat), k ≤ ws.length + 1 ∧ v = .slice Al ps.length cl ∧ n = .int .i64 k ∧ o.length = ps.length ∧ l.length = ps.length ∧ Hid (∀ x ∈ l, 0 ≤ x ∧ x ≤ 2000) ∧ Hid (WhF m.give m.st ws F k l o) ∧ Hid (WhB w m A1 A2 c1 c2 ps ws g Al l o W)) (fun _ n _ _ => ws.length + 1 - (intOf n).toNat)
      case atStart => exact ⟨0, neg1 ps.length, ps, some ⟨g1, 0, none⟩, cap1, by omega, rfl, rfl, by simp [neg1], rfl, HPR, HF0, HI⟩
      case round =>
        obtain ⟨k, o, l, Al, cl, hk1, rfl, rfl, hol, hll, HR, HF, HO⟩ := hrel
        clear HI HF0 HPR
        have y1 := HO.out.b1.cell 1
        by_cases hkw : k ≤ ws.length
        · have hkw' : (k : Int) ≤ ws.length := by omega
          have HF2 := Lib.hid (HF.out.step hkw)
          by_cases hk0 : k = 0
          · have hk0' : ¬ ((0 : Int) < (k : Int)) := by omega
            rw [if_pos hk0] at HF2
            have HX := HO
            have HLEN := Lib.hid hll
            have HR2 := HR
            clear HO hll HF HR
            have hllen : l.length = ps.length := HLEN.out
            clear HLEN
            go_wp2_with fail
            go_loopw [9] (fun i W => ∃ q : Nat, q ≤ ps.length ∧ i = .int .i64 q ∧ Hid (WhB w m A1 A2 c1 c2 ps ws g Al l (mixL m.st k o l q) W)) (fun i _ => ps.length - (intOf i).toNat)
            case atStart => exact ⟨0, by omega, rfl, by rw [mix_zero]; exact HX⟩
            case round =>
              obtain ⟨q, hq, rfl, HI⟩ := hrel
              clear HX
              by_cases hlq : q < ps.length
              · have hlq' : (q : Int) < ps.length := by omega
                obtain ⟨x, hx⟩ : ∃ x, o[q]? = some x := ⟨o[q]'(by omega), List.getElem?_eq_getElem _⟩
                obtain ⟨y, hy⟩ : ∃ y, l[q]? = some y := ⟨l[q]'(by omega), List.getElem?_eq_getElem _⟩
                have hol : o.length = l.length := by omega
                have kx := HI.out.ol.at_ (mix_at hol hx)
                have fx := Blk.frozen HI.out.ol q
                have gx := Blk.lt HI.out.ol
                have c6 := HI.out.b0.bk.cell 6
                obtain ⟨bl, ol, rfl, hbl, ky⟩ := ints_at HI.out.l.at_ hy
                by_cases hx0 : x < 0
                · by_cases hys : y ≤ m.st
                  · have HS := Lib.hid (mix_step (st := m.st) (n := (k : Int)) hol hx hy)
                    rw [show upd m.st (k : Int) x y = (k : Int) from if_pos ⟨hx0, hys⟩] at HS
                    clear hx hy
                    go_wp2_with fail
                    go_quiet (fail)
                    have HW2 := Lib.hid ((HI.out.on (below_drewN' (Below.refl _ _) nq)).set q (k : Int))
                    rw [HS.out] at HW2
                    clear HS
                    go_wp2_with fail
                    go_roundw
                    case rel => first | exact ⟨q + 1, by omega, by go_num, HW2⟩ | exact ⟨q + 1, by omega, by go_num, by have h := HW2; rw [hk0] at h ⊢; exact h⟩
                    case measure => exact meas_one hlq
                  · have HS := Lib.hid (mix_same (st := m.st) (n := (k : Int)) hol hx hy (if_neg (fun h => hys h.2)))
                    have hd : decide (y ≤ m.st) = false := decide_eq_false hys
                    clear hx hy
                    go_wp2_with fail
                    go_quiet (fail)
                    have HW2 := Lib.hid (HI.out.on (below_drewN' (Below.refl _ _) nq))
                    rw [HS.out] at HW2
                    clear HS
                    go_wp2_with fail
                    go_roundw
                    case rel => first | exact ⟨q + 1, by omega, by go_num, HW2⟩ | exact ⟨q + 1, by omega, by go_num, by have h := HW2; rw [hk0] at h ⊢; exact h⟩
                    case measure => exact meas_one hlq
                · have HS := Lib.hid (mix_same (st := m.st) (n := (k : Int)) hol hx hy (if_neg (fun h => hx0 h.1)))
                  have hd : decide (x < 0) = false := decide_eq_false hx0
                  clear hx hy
                  go_wp2_with fail
                  go_quiet (fail)
                  have HW2 := Lib.hid (HI.out.on (below_drewN' (Below.refl _ _) nq))
                  rw [HS.out] at HW2
                  clear HS
                  go_wp2_with fail
                  go_roundw
                  case rel => first | exact ⟨q + 1, by omega, by go_num, HW2⟩ | exact ⟨q + 1, by omega, by go_num, by have h := HW2; rw [hk0] at h ⊢; exact h⟩
                  case measure => exact meas_one hlq
              · obtain rfl : q = ps.length := by omega
                have hnq : ¬ ((ps.length : Int) < ps.length) := by omega
                have HI2 := HI
                rw [← hllen, mix_end (by omega)] at HI2
                go_wp2_with fail
                go_roundw
                case rel => exact ⟨k + 1, updL m.st k o l, l, Al, _, by omega, rfl, by go_num, by rw [updL_length (by omega)]; omega, by omega, HR2, HF2, HI2⟩
                case measure => first | exact meas_one (by omega) | (simp [intOf, hk0]; done) | (simp [intOf]; omega)
          · obtain ⟨j, rfl⟩ : ∃ j, k = j + 1 := ⟨k - 1, by omega⟩
            have hj : j < ws.length := by omega
            have ej : (((j + 1 : Nat)) : Int) = (j : Int) + 1 := by omega
            have hk0' : (0 : Int) < (j : Int) + 1 := by omega
            rw [if_neg hk0, Nat.add_sub_cancel, ej] at HF2
            rw [ej] at hkw'
            rw [ej]
            go_wp2_with fail
            refine wp_of_eq (wn_r11 hll HMI.out HR.out (by omega) HWR.out hj h600 HO (fun _ _ _ _ _ _ _ _ _ Ax cx W2 hx2 => ?_)) (by kernel_rfl)
            have HX := Lib.hid hx2
            have HLEN : Hid ((nextL m.give (ws.getD j 0) l).length = ps.length) := by
              show _ = _
              rw [nextL_length]; exact hll
            have HR2 : Hid (∀ x ∈ nextL m.give (ws.getD j 0) l, 0 ≤ x ∧ x ≤ 2000) := nextL_in HMI.out.give (HWR.out _ (by rw [List.getD_eq_getElem?_getD, List.getElem?_eq_getElem hj]; exact List.getElem_mem _)) HR.out
            clear hx2 HO HR HF y1
            generalize nextL m.give (ws.getD j 0) l = l2 at *
            clear hll
            have hl2len : l2.length = ps.length := HLEN.out
            clear HLEN
            go_wp2_with fail
            go_loopw [9] (fun i W => ∃ q : Nat, q ≤ ps.length ∧ i = .int .i64 q ∧ Hid (WhB w m A1 A2 c1 c2 ps ws g Ax l2 (mixL m.st ((j : Int) + 1) o l2 q) W)) (fun i _ => ps.length - (intOf i).toNat)
            case atStart => exact ⟨0, by omega, rfl, by rw [mix_zero]; exact HX⟩
            case round =>
              obtain ⟨q, hq, rfl, HI⟩ := hrel
              clear HX
              by_cases hlq : q < ps.length
              · have hlq' : (q : Int) < ps.length := by omega
                obtain ⟨x, hx⟩ : ∃ x, o[q]? = some x := ⟨o[q]'(by omega), List.getElem?_eq_getElem _⟩
                obtain ⟨y, hy⟩ : ∃ y, l2[q]? = some y := ⟨l2[q]'(by omega), List.getElem?_eq_getElem _⟩
                have hol2 : o.length = l2.length := by omega
                have kx := HI.out.ol.at_ (mix_at hol2 hx)
                have fx := Blk.frozen HI.out.ol q
                have gx := Blk.lt HI.out.ol
                have c6 := HI.out.b0.bk.cell 6
                obtain ⟨bl, ol, rfl, hbl, ky⟩ := ints_at HI.out.l.at_ hy
                by_cases hx0 : x < 0
                · by_cases hys : y ≤ m.st
                  · have HS := Lib.hid (mix_step (st := m.st) (n := ((j : Int) + 1)) hol2 hx hy)
                    rw [show upd m.st ((j : Int) + 1) x y = ((j : Int) + 1) from if_pos ⟨hx0, hys⟩] at HS
                    clear hx hy
                    go_wp2_with fail
                    go_quiet (fail)
                    have HW2 := Lib.hid ((HI.out.on (below_drewN' (Below.refl _ _) nq)).set q ((j : Int) + 1))
                    rw [HS.out] at HW2
                    clear HS
                    go_wp2_with fail
                    go_roundw
                    case rel => first | exact ⟨q + 1, by omega, by go_num, HW2⟩ | exact ⟨q + 1, by omega, by go_num, by have h := HW2; rw [hk0] at h ⊢; exact h⟩
                    case measure => exact meas_one hlq
                  · have HS := Lib.hid (mix_same (st := m.st) (n := ((j : Int) + 1)) hol2 hx hy (if_neg (fun h => hys h.2)))
                    have hd : decide (y ≤ m.st) = false := decide_eq_false hys
                    clear hx hy
                    go_wp2_with fail
                    go_quiet (fail)
                    have HW2 := Lib.hid (HI.out.on (below_drewN' (Below.refl _ _) nq))
                    rw [HS.out] at HW2
                    clear HS
                    go_wp2_with fail
                    go_roundw
                    case rel => first | exact ⟨q + 1, by omega, by go_num, HW2⟩ | exact ⟨q + 1, by omega, by go_num, by have h := HW2; rw [hk0] at h ⊢; exact h⟩
                    case measure => exact meas_one hlq
                · have HS := Lib.hid (mix_same (st := m.st) (n := ((j : Int) + 1)) hol2 hx hy (if_neg (fun h => hx0 h.1)))
                  have hd : decide (x < 0) = false := decide_eq_false hx0
                  clear hx hy
                  go_wp2_with fail
                  go_quiet (fail)
                  have HW2 := Lib.hid (HI.out.on (below_drewN' (Below.refl _ _) nq))
                  rw [HS.out] at HW2
                  clear HS
                  go_wp2_with fail
                  go_roundw
                  case rel => first | exact ⟨q + 1, by omega, by go_num, HW2⟩ | exact ⟨q + 1, by omega, by go_num, by have h := HW2; rw [hk0] at h ⊢; exact h⟩
                  case measure => exact meas_one hlq
              · obtain rfl : q = ps.length := by omega
                have hnq : ¬ ((ps.length : Int) < ps.length) := by omega
                have HI2 := HI
                rw [← hl2len, mix_end (by omega)] at HI2
                go_wp2_with fail
                go_roundw
                case rel => exact ⟨j + 1 + 1, updL m.st ((j : Int) + 1) o l2, l2, Ax, _, by omega, rfl, by go_num, by rw [updL_length (by omega)]; omega, by omega, HR2, HF2, HI2⟩
                case measure => first | exact meas_one (by omega) | (simp [intOf]; done) | (simp [intOf]; omega)
        · have hkn : ¬ ((k : Int) ≤ ws.length) := by omega
          have he := HF.out.2 (by omega)
          go_wp2_with fail
          refine bodyPost_ret (v := .slice (some ⟨g, 0, none⟩) ps.length ps.length) (by simp [results, Try.results40, go_sem]) rfl ⟨some ⟨g, 0, none⟩, ⟨ps.length, by rw [← HFE.out, HFL.out]⟩, by rw [← HFE.out, he]; exact HO.out.ol.ints (by omega), HO.out.b0.b⟩
end Go.Proofs.Ytljbjcnfkbmjkaa

namespace Go.Proofs.Ytljbjcnfkbmjkaa
open Go.RowKit Go.Shelf
attribute [local go_sem] Oper.semAt_some

theorem sam_in {m : Md} (hok : MdOk m) (e : Bool) (n : Nat) : (∀ x ∈ samP m e, 0 ≤ x ∧ x ≤ 2000) ∧ ∀ x ∈ samW m e n, 0 ≤ x ∧ x ≤ 2000 := by
  have h1 := hok.plo; have h2 := hok.phi; have h3 := hok.wlo; have h4 := hok.whi
  constructor
  · intro x hx
    unfold samP at hx
    rw [(List.mem_replicate.1 hx).2]
    cases e <;> simp [pourV] <;> omega
  · intro x hx
    unfold samW at hx
    rw [(List.mem_replicate.1 hx).2]
    cases e <;> simp [wallV] <;> omega
theorem when_same {m : Md} (hok : MdOk m) (e : Bool) {N : Nat} (hN : N ≤ 600) {w : World} {A1 A2 : Option Addr} {c1 c2 : Nat} (hp : IntsIn w A1 (samP m e)) (hq : IntsIn w A2 (samW m e N)) :
    Calls Try.prog 40 #[.agg #[.int .i64 m.rings, .int .i64 m.give, .int .i64 m.plo, .int .i64 m.phi, .int .i64 m.wlo, .int .i64 m.whi, .int .i64 m.st, .int .i64 m.shrink, .int .i64 m.skin, .int .i64 m.fill, .int .i64 m.gap, .int .i64 m.deep], .agg #[.slice A1 (kR m) c1, .slice A2 N c2]] w fun e' w' => ∃ A c, e' = .returned (.slice A (kR m) c) ∧ IntsIn w' A (whN m e N) ∧ Below w.heap.size w w' := by
  have hk := kR_le hok.toMdIn
  have h := rwhen_any (c1 := c1) (c2 := c2) m hok.toMdIn hp hq (by rw [samP_length]; omega) (by rw [samP_length]; omega) (by rw [samW_length]; exact hN) (sam_in hok e N).1 (sam_in hok e N).2
  rw [whenM_length, samP_length, samW_length] at h
  exact h
theorem same_n {m : Md} (hok : MdOk m) (e : Bool) {N : Nat} (hN : N = 600) (w : World) :
    Calls Try.prog 41 #[.agg #[.int .i64 m.rings, .int .i64 m.give, .int .i64 m.plo, .int .i64 m.phi, .int .i64 m.wlo, .int .i64 m.whi, .int .i64 m.st, .int .i64 m.shrink, .int .i64 m.skin, .int .i64 m.fill, .int .i64 m.gap, .int .i64 m.deep], .bool e, .int .i64 600] w fun e' w' => ∃ A1 c1 A2 c2, e' = .returned (.agg #[.slice A1 (kR m) c1, .slice A2 N c2]) ∧ IntsIn w' A1 (samP m e) ∧ IntsIn w' A2 (samW m e N) ∧ Below w.heap.size w w' := by
  have h := rsame_any m hok.toMdIn e N (by omega) w
  rw [show ((N : Nat) : Int) = 600 by omega, samP_length, samW_length] at h
  exact h
/-- What each operation leaves. -/
def endR (m : Md) (N : Nat) : Nat → Value → World → Prop
  | 0, v, _ => v = .agg #[.int .i64 m.rings, .int .i64 m.give, .int .i64 m.plo, .int .i64 m.phi, .int .i64 m.wlo, .int .i64 m.whi, .int .i64 m.st, .int .i64 m.shrink, .int .i64 m.skin, .int .i64 m.fill, .int .i64 m.gap, .int .i64 m.deep]
  | 1, v, _ => v = .agg #[.int .i64 m.rings, .int .i64 m.give, .int .i64 m.plo, .int .i64 m.phi, .int .i64 m.wlo, .int .i64 m.whi, .int .i64 m.st, .int .i64 m.shrink, .int .i64 m.skin, .int .i64 m.fill, .int .i64 m.gap, .int .i64 m.deep]
  | 2, v, W => ∃ A1 c1 A2 c2, v = .agg #[.slice A1 (kR m) c1, .slice A2 N c2] ∧ IntsIn W A1 (samP m false) ∧ IntsIn W A2 (samW m false N)
  | 3, v, W => ∃ A c, v = .slice A (kR m) c ∧ IntsIn W A (whN m false N)
  | 4, v, _ => v = .agg #[.int .i64 m.rings, .int .i64 m.give, .int .i64 m.plo, .int .i64 m.phi, .int .i64 m.wlo, .int .i64 m.whi, .int .i64 m.st, .int .i64 m.shrink, .int .i64 m.skin, .int .i64 m.fill, .int .i64 m.gap, .int .i64 m.deep]
  | 5, v, _ => v = .agg #[.int .i64 m.rings, .int .i64 m.give, .int .i64 m.plo, .int .i64 m.phi, .int .i64 m.wlo, .int .i64 m.whi, .int .i64 m.st, .int .i64 m.shrink, .int .i64 m.skin, .int .i64 m.fill, .int .i64 m.gap, .int .i64 m.deep]
  | 6, v, W => ∃ A1 c1 A2 c2, v = .agg #[.slice A1 (kR m) c1, .slice A2 N c2] ∧ IntsIn W A1 (samP m true) ∧ IntsIn W A2 (samW m true N)
  | 7, v, W => ∃ A c, v = .slice A (kR m) c ∧ IntsIn W A (whN m true N)
  | 8, v, W => ∃ A c, v = .slice A (kR m) c ∧ IntsIn W A (whN m false N)
  | 9, v, W => ∃ A c, v = .slice A (kR m) c ∧ IntsIn W A (whN m true N)
  | _, _, _ => True
theorem endR_on (m : Md) (N : Nat) : ∀ i, i < 10 → ∀ v W W', endR m N i v W → Below W.heap.size W W' → endR m N i v W' := by
  iterate 10 (refine all_succ ?_ ?_)
  · exact all_zero
  · exact fun _ _ _ h _ => h
  · exact fun _ _ _ h _ => h
  · rintro v W W' ⟨A, c, B, d, e, h, h2⟩ hb; exact ⟨A, c, B, d, e, h.on hb, h2.on hb⟩
  · rintro v W W' ⟨A, c, e, h⟩ hb; exact ⟨A, c, e, h.on hb⟩
  · exact fun _ _ _ h _ => h
  · exact fun _ _ _ h _ => h
  · rintro v W W' ⟨A, c, B, d, e, h, h2⟩ hb; exact ⟨A, c, B, d, e, h.on hb, h2.on hb⟩
  · rintro v W W' ⟨A, c, e, h⟩ hb; exact ⟨A, c, e, h.on hb⟩
  · rintro v W W' ⟨A, c, e, h⟩ hb; exact ⟨A, c, e, h.on hb⟩
  · rintro v W W' ⟨A, c, e, h⟩ hb; exact ⟨A, c, e, h.on hb⟩
/-- Both lists of minutes. -/
def EndsOut (m : Md) (w : World) (v : Value) (w' : World) : Prop :=
  ∃ A c A2 c2, v = .tuple #[.slice A (kR m) c, .slice A2 (kR m) c2] ∧ IntsIn w' A (wh m false) ∧ IntsIn w' A2 (wh m true) ∧ Below w.heap.size w w'
set_option maxRecDepth 100000 in
set_option maxHeartbeats 8000000 in
theorem rends_any (m : Md) (hok : MdOk m) (w : World) :
    Calls Try.prog 69 #[.agg #[.int .i64 m.rings, .int .i64 m.give, .int .i64 m.plo, .int .i64 m.phi, .int .i64 m.wlo, .int .i64 m.whi, .int .i64 m.st, .int .i64 m.shrink, .int .i64 m.skin, .int .i64 m.fill, .int .i64 m.gap, .int .i64 m.deep]] w fun e w' => ∃ v, e = .returned v ∧ EndsOut m w v w' := by
  have HM := Lib.hid (MdBk.new w 25 m)
  obtain ⟨N, hN⟩ : ∃ N : Nat, N = 600 := ⟨_, rfl⟩
  have HS0 := Lib.hid (fun W => same_n hok false hN W)
  have HS1 := Lib.hid (fun W => same_n hok true hN W)
  have HW := Lib.hid (fun (e : Bool) (W : World) (A1 A2 : Option Addr) (d1 d2 : Nat) (h1 : IntsIn W A1 (samP m e)) (h2 : IntsIn W A2 (samW m e N)) => when_same (c1 := d1) (c2 := d2) hok e (by omega) h1 h2)
  have HE0 : Hid (wh m false = whN m false N) := by show wh m false = _; unfold wh; rw [hN]
  have HE1 : Hid (wh m true = whN m true N) := by show wh m true = _; unfold wh; rw [hN]
  clear hN hok
  go_enter Try.func69, Try.ntmps69
  go_wp2_with fail
  refine wp_region_spec (by kernel_rfl) 10 (by kernel_rfl) (fun u => ⟨#[.agg #[.int .i64 m.rings, .int .i64 m.give, .int .i64 m.plo, .int .i64 m.phi, .int .i64 m.wlo, .int .i64 m.whi, .int .i64 m.st, .int .i64 m.shrink, .int .i64 m.skin, .int .i64 m.fill, .int .i64 m.gap, .int .i64 m.deep], .pointer (some ⟨w.heap.size, 0, none⟩), u 8, u 9, u 0, u 1, u 2, u 3, u 4, u 5, u 6, u 7], []⟩) (fun i => if i < 8 then undef else .slice none 0 0) (fun W => Hid (MdBk w w.heap.size 25 m W)) (endR m N) (by kernel_rfl) (HM.out.on (Below.refl _ _).drew) (fun i v W W2 hi h hb => endR_on m N i hi v W W2 h hb) (by decide +kernel) ?_ ?_
  · iterate 10 (refine all_succ ?_ ?_)
    · exact all_zero
    · intro u W hB _ hd _ K hK
      have HK := Lib.hid hK; clear hK
      refine wpOp_of rfl (by rfl) ?_
      obtain ⟨c0, c1, c2, c3, c4, c5, c6, c7, c8, c9, c10, c11⟩ := hB.out.cells
      go_simp
      exact k_of (HK.out (.agg #[.int .i64 m.rings, .int .i64 m.give, .int .i64 m.plo, .int .i64 m.phi, .int .i64 m.wlo, .int .i64 m.whi, .int .i64 m.st, .int .i64 m.shrink, .int .i64 m.skin, .int .i64 m.fill, .int .i64 m.gap, .int .i64 m.deep]) _ rfl hB (Below.refl _ _)) (by kernel_rfl)
    · intro u W hB _ hd _ K hK
      have HK := Lib.hid hK; clear hK
      refine wpOp_of rfl (by rfl) ?_
      obtain ⟨c0, c1, c2, c3, c4, c5, c6, c7, c8, c9, c10, c11⟩ := hB.out.cells
      go_simp
      exact k_of (HK.out (.agg #[.int .i64 m.rings, .int .i64 m.give, .int .i64 m.plo, .int .i64 m.phi, .int .i64 m.wlo, .int .i64 m.whi, .int .i64 m.st, .int .i64 m.shrink, .int .i64 m.skin, .int .i64 m.fill, .int .i64 m.gap, .int .i64 m.deep]) _ rfl hB (Below.refl _ _)) (by kernel_rfl)
    · intro u W hB _ hd _ K hK
      have HK := Lib.hid hK; clear hK
      have e0 : u 1 = .agg #[.int .i64 m.rings, .int .i64 m.give, .int .i64 m.plo, .int .i64 m.phi, .int .i64 m.wlo, .int .i64 m.whi, .int .i64 m.st, .int .i64 m.shrink, .int .i64 m.skin, .int .i64 m.fill, .int .i64 m.gap, .int .i64 m.deep] := hd 1 (by decide +kernel)
      refine wpOp_of rfl (by rfl) ?_
      go_simp
      refine (HS0.out _).mono ?_
      rintro e w' ⟨B1, d1, B2, d2, rfl, i1, i2, hb⟩
      exact k_of (HK.out (.agg #[.slice B1 (kR m) d1, .slice B2 N d2]) _ ⟨B1, d1, B2, d2, rfl, i1, i2⟩ (hB.out.on hb) hb) (by rw [← u1_eq e0]; kernel_rfl)
    · intro u W hB _ hd _ K hK
      have HK := Lib.hid hK; clear hK
      have e0 : u 0 = .agg #[.int .i64 m.rings, .int .i64 m.give, .int .i64 m.plo, .int .i64 m.phi, .int .i64 m.wlo, .int .i64 m.whi, .int .i64 m.st, .int .i64 m.shrink, .int .i64 m.skin, .int .i64 m.fill, .int .i64 m.gap, .int .i64 m.deep] := hd 0 (by decide +kernel)
      obtain ⟨B1, d1, B2, d2, e2, i1, i2⟩ : endR m N 2 (u 2) W := hd 2 (by decide +kernel)
      refine wpOp_of rfl (by rfl) ?_
      go_simp
      refine (HW.out false _ _ _ _ _ i1 i2).mono ?_
      rintro e w' ⟨B3, d3, rfl, i3, hb⟩
      exact k_of (HK.out (.slice B3 (kR m) d3) _ ⟨B3, d3, rfl, i3⟩ (hB.out.on hb) hb) (by rw [← u1_eq e0, ← u1_eq e2]; kernel_rfl)
    · intro u W hB _ hd _ K hK
      have HK := Lib.hid hK; clear hK
      refine wpOp_of rfl (by rfl) ?_
      obtain ⟨c0, c1, c2, c3, c4, c5, c6, c7, c8, c9, c10, c11⟩ := hB.out.cells
      go_simp
      exact k_of (HK.out (.agg #[.int .i64 m.rings, .int .i64 m.give, .int .i64 m.plo, .int .i64 m.phi, .int .i64 m.wlo, .int .i64 m.whi, .int .i64 m.st, .int .i64 m.shrink, .int .i64 m.skin, .int .i64 m.fill, .int .i64 m.gap, .int .i64 m.deep]) _ rfl hB (Below.refl _ _)) (by kernel_rfl)
    · intro u W hB _ hd _ K hK
      have HK := Lib.hid hK; clear hK
      refine wpOp_of rfl (by rfl) ?_
      obtain ⟨c0, c1, c2, c3, c4, c5, c6, c7, c8, c9, c10, c11⟩ := hB.out.cells
      go_simp
      exact k_of (HK.out (.agg #[.int .i64 m.rings, .int .i64 m.give, .int .i64 m.plo, .int .i64 m.phi, .int .i64 m.wlo, .int .i64 m.whi, .int .i64 m.st, .int .i64 m.shrink, .int .i64 m.skin, .int .i64 m.fill, .int .i64 m.gap, .int .i64 m.deep]) _ rfl hB (Below.refl _ _)) (by kernel_rfl)
    · intro u W hB _ hd _ K hK
      have HK := Lib.hid hK; clear hK
      have e0 : u 5 = .agg #[.int .i64 m.rings, .int .i64 m.give, .int .i64 m.plo, .int .i64 m.phi, .int .i64 m.wlo, .int .i64 m.whi, .int .i64 m.st, .int .i64 m.shrink, .int .i64 m.skin, .int .i64 m.fill, .int .i64 m.gap, .int .i64 m.deep] := hd 5 (by decide +kernel)
      refine wpOp_of rfl (by rfl) ?_
      go_simp
      refine (HS1.out _).mono ?_
      rintro e w' ⟨B1, d1, B2, d2, rfl, i1, i2, hb⟩
      exact k_of (HK.out (.agg #[.slice B1 (kR m) d1, .slice B2 N d2]) _ ⟨B1, d1, B2, d2, rfl, i1, i2⟩ (hB.out.on hb) hb) (by rw [← u1_eq e0]; kernel_rfl)
    · intro u W hB _ hd _ K hK
      have HK := Lib.hid hK; clear hK
      have e0 : u 4 = .agg #[.int .i64 m.rings, .int .i64 m.give, .int .i64 m.plo, .int .i64 m.phi, .int .i64 m.wlo, .int .i64 m.whi, .int .i64 m.st, .int .i64 m.shrink, .int .i64 m.skin, .int .i64 m.fill, .int .i64 m.gap, .int .i64 m.deep] := hd 4 (by decide +kernel)
      obtain ⟨B1, d1, B2, d2, e2, i1, i2⟩ : endR m N 6 (u 6) W := hd 6 (by decide +kernel)
      refine wpOp_of rfl (by rfl) ?_
      go_simp
      refine (HW.out true _ _ _ _ _ i1 i2).mono ?_
      rintro e w' ⟨B3, d3, rfl, i3, hb⟩
      exact k_of (HK.out (.slice B3 (kR m) d3) _ ⟨B3, d3, rfl, i3⟩ (hB.out.on hb) hb) (by rw [← u1_eq e0, ← u1_eq e2]; kernel_rfl)
    · intro u W hB _ hd _ K hK
      have HK := Lib.hid hK; clear hK
      obtain ⟨B3, d3, e3, i3⟩ : endR m N 3 (u 3) W := hd 3 (by decide +kernel)
      refine wpOp_of rfl (by rfl) ?_
      go_simp
      exact k_of (HK.out (.slice B3 (kR m) d3) _ ⟨B3, d3, rfl, i3⟩ hB (Below.refl _ _)) (by rw [← u1_eq e3]; kernel_rfl)
    · intro u W hB _ hd _ K hK
      have HK := Lib.hid hK; clear hK
      obtain ⟨B3, d3, e3, i3⟩ : endR m N 7 (u 7) W := hd 7 (by decide +kernel)
      refine wpOp_of rfl (by rfl) ?_
      go_simp
      exact k_of (HK.out (.slice B3 (kR m) d3) _ ⟨B3, d3, rfl, i3⟩ hB (Below.refl _ _)) (by rw [← u1_eq e3]; kernel_rfl)
  · intro u W hB hd
    obtain ⟨A, c, e8, i8⟩ : endR m N 8 (u 8) W := hd 8 (by decide)
    obtain ⟨A2, c2, e9, i9⟩ : endR m N 9 (u 9) W := hd 9 (by decide)
    clear hd
    simp only [e8, e9]
    go_wp2_with fail
    refine bodyPost_ret (v := .tuple #[.slice A (kR m) c, .slice A2 (kR m) c2]) (by simp [results, Try.results69, go_sem]) rfl ⟨_, rfl, A, c, A2, c2, rfl, by rw [HE0.out]; exact i8, by rw [HE1.out]; exact i9, hB.out.b⟩
end Go.Proofs.Ytljbjcnfkbmjkaa
