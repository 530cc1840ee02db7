/- mould.Cool: contract. -/
import Derived.Test.YtljbjcnfkbmjkaaMe4
import Derived.Test.YtljbjcnfkbmjkaaMe6
import Derived.Test.YtljbjcnfkbmjkaaMdv
import Derived.Laws.CopyOwn
namespace Go.Proofs.Ytljbjcnfkbmjkaa
open Go.RowKit Go.Shelf

/-- What each operation of the region leaves. -/
def cooR (_w : World) (m : Md) (A1 A2 : Option Addr) (c1 c2 : Nat) (ps ws : List Int) : Nat → Value → World → Prop
  | 0, v, _ => v = .agg #[.int .i64 m.rings, .int .i64 m.give, .int .i64 m.plo, .int .i64 m.phi, .int .i64 m.wlo, .int .i64 m.whi, .int .i64 m.st, .int .i64 m.shrink, .int .i64 m.skin, .int .i64 m.fill, .int .i64 m.gap, .int .i64 m.deep]
  | 1, v, _ => v = .int .i64 (checkM m)
  | 2, v, _ => v = .agg #[.int .i64 m.rings, .int .i64 m.give, .int .i64 m.plo, .int .i64 m.phi, .int .i64 m.wlo, .int .i64 m.whi, .int .i64 m.st, .int .i64 m.shrink, .int .i64 m.skin, .int .i64 m.fill, .int .i64 m.gap, .int .i64 m.deep]
  | 3, v, _ => v = .agg #[.slice A1 ps.length c1, .slice A2 ws.length c2]
  | 4, v, _ => v = .int .i64 (truthV m ps ws)
  | 5, v, W => ∃ b, v = .slice (some ⟨b, 0, none⟩) 2 2 ∧ IntsIn W (some ⟨b, 0, none⟩) [checkM m, truthV m ps ws]
  | 6, v, _ => v = .int .i64 (orE [checkM m, truthV m ps ws])
  | 7, v, _ => v = .int .i64 (orE [checkM m, truthV m ps ws])
  | _, _, _ => True
theorem cooR_on (w : World) (m : Md) (A1 A2 : Option Addr) (c1 c2 : Nat) (ps ws : List Int) : ∀ i, i < 8 → ∀ v W W', cooR w m A1 A2 c1 c2 ps ws i v W → Below W.heap.size W W' → cooR w m A1 A2 c1 c2 ps ws i v W' := by
  iterate 8 (refine all_succ ?_ ?_)
  · exact all_zero
  · exact fun _ _ _ h _ => h
  · exact fun _ _ _ h _ => h
  · exact fun _ _ _ h _ => h
  · exact fun _ _ _ h _ => h
  · exact fun _ _ _ h _ => h
  · rintro v W W' ⟨b, e, h⟩ hb; exact ⟨b, e, h.on hb⟩
  · exact fun _ _ _ h _ => h
  · exact fun _ _ _ h _ => h
/-- What lies in memory while the minutes of a truth go by. -/
structure CoI (w : World) (m : Md) (A2 : Option Addr) (c2 : Nat) (ws : List Int) (V X : Nat) (a : Nat → Int) (W : World) : Prop where
  bv : MdBk w V 88 m W
  bx : W8 W X a
  b1 : W.cell? ⟨w.heap.size + 1, 1, none⟩ = some (.slice A2 ws.length c2)
  q : IntsAt W V A2 ws
  l0 : w.heap.size ≤ X
  l1 : V < X
theorem CoI.on {w W W' : World} {m : Md} {A2 : Option Addr} {c2 : Nat} {ws : List Int} {V X : Nat} {a : Nat → Int} (h : CoI w m A2 c2 ws V X a W) (hs : w.heap.size + 1 < W.heap.size) (hb : Below W.heap.size W W') : CoI w m A2 c2 ws V X a W' :=
  ⟨h.bv.on hb, h.bx.on hb, (hb.cell (p := ⟨w.heap.size + 1, 1, none⟩) hs).trans h.b1, RowAt.below h.q hb (Nat.le_of_lt h.bv.bk.lt), h.l0, h.l1⟩
theorem CoI.puts {w W : World} {m : Md} {A2 : Option Addr} {c2 : Nat} {ws : List Int} {V X : Nat} {a : Nat → Int} (h : CoI w m A2 c2 ws V X a W) (hs : w.heap.size + 1 < X) (b : Nat → Int) : CoI w m A2 c2 ws V X b (set8 W X b) :=
  have hb : Below X W (set8 W X b) := set8_below (Below.refl _ W) (Nat.le_refl _) b
  ⟨⟨set8_blk h.bv.bk (by have := h.l1; omega) b, set8_below h.bv.b h.l0 b⟩, set8_w8 h.bx b, (hb.cell (p := ⟨w.heap.size + 1, 1, none⟩) hs).trans h.b1, RowAt.below h.q hb (Nat.le_of_lt h.l1), h.l0, h.l1⟩
theorem splice_la : ∀ ps : List Int, ps.length ≤ 8 → (splice [Value.int .i64 0, .int .i64 0, .int .i64 0, .int .i64 0, .int .i64 0, .int .i64 0, .int .i64 0, .int .i64 0] 0 (ps.map (Value.int .i64))).toArray = #[.int .i64 (la ps 0), .int .i64 (la ps 1), .int .i64 (la ps 2), .int .i64 (la ps 3), .int .i64 (la ps 4), .int .i64 (la ps 5), .int .i64 (la ps 6), .int .i64 (la ps 7)]
  | [], _ => rfl
  | [_], _ => rfl
  | [_, _], _ => rfl
  | [_, _, _], _ => rfl
  | [_, _, _, _], _ => rfl
  | [_, _, _, _, _], _ => rfl
  | [_, _, _, _, _, _], _ => rfl
  | [_, _, _, _, _, _, _], _ => rfl
  | [_, _, _, _, _, _, _, _], _ => rfl
  | _ :: _ :: _ :: _ :: _ :: _ :: _ :: _ :: _ :: _, h => by simp at h
theorem W8.ints {W : World} {X : Nat} {l : List Int} (h : W8 W X (la l)) (h8 : l.length ≤ 8) : IntsIn W (some ⟨X, 0, none⟩) l :=
  ⟨fun _ => ⟨X, 0, rfl, h.bk.lt, fun i x hi j hj => by
    obtain rfl : j = 0 := by omega
    have h1 := (List.getElem?_eq_some_iff.1 hi).1
    have h2 := h.cell (k := i) (by omega)
    rw [show la l i = x by unfold la; rw [hi]; rfl] at h2
    simpa [encI] using h2⟩, by omega⟩
theorem afterL_in {g : Int} (hg : 1 ≤ g ∧ g ≤ 500) : ∀ {ws l : List Int}, (∀ x ∈ ws, 0 ≤ x ∧ x ≤ 2000) → (∀ x ∈ l, 0 ≤ x ∧ x ≤ 2000) → ∀ x ∈ afterL g l ws, 0 ≤ x ∧ x ≤ 2000
  | [], _, _, h => h
  | w :: ws, l, hw, h => afterL_in hg (ws := ws) (l := nextL g w l) (fun x hx => hw x (by simp [hx])) (nextL_in hg (hw w (by simp)) h)
theorem afterL_take {g : Int} {ws l : List Int} {k : Nat} {x : Int} (hx : ws[k]? = some x) : afterL g l (ws.take (k + 1)) = nextL g x (afterL g l (ws.take k)) := by
  rw [List.take_add_one, hx, afterL_append]; rfl
theorem ints_src {W : World} {A : Option Addr} {l : List Int} (h : IntsIn W A l) (h0 : 0 < l.length) : ∃ ad, A = some ad ∧ ∀ j v, (l.map (Value.int .i64))[j]? = some v → W.cell? (ad.add j) = some v := by
  obtain ⟨y, hy⟩ : ∃ y, l[0]? = some y := ⟨l[0], List.getElem?_eq_getElem h0⟩
  obtain ⟨bb, of, rfl, _, _⟩ := ints_at h.at_ hy
  refine ⟨_, rfl, fun j u hj => ?_⟩
  rw [List.getElem?_map] at hj
  obtain ⟨z, hz, rfl⟩ := Option.map_eq_some_iff.1 hj
  obtain ⟨b2, o2, he, _, hc2⟩ := ints_at h.at_ hz
  cases he
  by_cases hj : j = 0
  · subst hj; simpa [Addr.add] using hc2
  · simpa [Addr.add, hj] using hc2
theorem hszI : (Try.prog.info? 3).map (·.size) = some 1 := by kernel_rfl
/-- What the errors say. -/
theorem orE_two {a b : Int} : orE [a, b] = if a ≠ 0 then a else b := by
  simp only [orE]
  split
  · rfl
  · split
    · rfl
    · omega
theorem cool_err {m : Md} {ps ws : List Int} (h : orE [checkM m, truthV m ps ws] ≠ 0) : coolR m ps ws = ([], orE [checkM m, truthV m ps ws]) := by
  rw [orE_two] at h ⊢
  unfold coolR
  by_cases h1 : checkM m ≠ 0
  · rw [if_pos h1, if_pos h1]
  · rw [if_neg h1] at h ⊢
    rw [if_neg h1]
    have hm := checkM_ok.1 (by simpa using h1)
    rw [truthV_eq hm.toMdIn] at h ⊢
    rw [if_pos h]
structure CoOk (m : Md) (ps ws : List Int) : Prop where
  ok : MdOk m
  len : ps.length = kR m
  wl : ws.length ≤ 600
  p : ∀ x ∈ ps, m.plo ≤ x ∧ x ≤ m.phi
  q : ∀ x ∈ ws, m.wlo ≤ x ∧ x ≤ m.whi
theorem truthE_ok {m : Md} {ps ws : List Int} (hm : MdOk m) (h : truthE m ps ws = 0) : CoOk m ps ws := by
  unfold truthE at h
  by_cases h1 : ps.length ≠ kR m ∨ 600 < ws.length
  · rw [if_pos h1] at h; cases h
  · rw [if_neg h1] at h
    by_cases h2 : ps.all (fun x => inB x m.plo m.phi) = true
    · rw [if_pos h2] at h
      by_cases h3 : ws.all (fun x => inB x m.wlo m.whi) = true
      · rw [List.all_eq_true] at h2 h3
        exact ⟨hm, by omega, by omega, fun x hx => inB_iff.1 (h2 x hx), fun x hx => inB_iff.1 (h3 x hx)⟩
      · rw [if_neg h3] at h; cases h
    · rw [if_neg h2] at h; cases h
theorem cool_ok {m : Md} {ps ws : List Int} (h : orE [checkM m, truthV m ps ws] = 0) : CoOk m ps ws ∧ coolR m ps ws = (afterL m.give ps ws, 0) := by
  rw [orE_two] at h
  by_cases h1 : checkM m ≠ 0
  · rw [if_pos h1] at h; exact absurd h h1
  · rw [if_neg h1] at h
    have hm := checkM_ok.1 (by simpa using h1)
    rw [truthV_eq hm.toMdIn] at h
    refine ⟨truthE_ok hm h, ?_⟩
    unfold coolR
    rw [if_neg h1, if_neg (by simpa using h)]
set_option maxRecDepth 100000 in
set_option maxHeartbeats 8000000 in
theorem cool_any {w : World} (m : Md) {A1 A2 : Option Addr} {c1 c2 : Nat} {ps ws : List Int} (hp : IntsIn w A1 ps) (hq : IntsIn w A2 ws) :
    Calls Try.prog 20 #[.agg #[.int .i64 m.rings, .int .i64 m.give, .int .i64 m.plo, .int .i64 m.phi, .int .i64 m.wlo, .int .i64 m.whi, .int .i64 m.st, .int .i64 m.shrink, .int .i64 m.skin, .int .i64 m.fill, .int .i64 m.gap, .int .i64 m.deep], .agg #[.slice A1 ps.length c1, .slice A2 ws.length c2]] w fun e w' => ∃ v, e = .returned (.tuple #[v, .int .i64 (coolR m ps ws).2]) ∧ IntsOut w.heap.size w' v (coolR m ps ws).1 ∧ Below w.heap.size w w' := by
  have HM : Hid (TrB w m A1 A2 c1 c2 ps ws ((w.alloc (.cells #[.int .i64 m.rings, .int .i64 m.give, .int .i64 m.plo, .int .i64 m.phi, .int .i64 m.wlo, .int .i64 m.whi, .int .i64 m.st, .int .i64 m.shrink, .int .i64 m.skin, .int .i64 m.fill, .int .i64 m.gap, .int .i64 m.deep] 25)).alloc (.cells #[.slice A1 ps.length c1, .slice A2 ws.length c2] 28))) := by
    have hb0 : Below w.heap.size w ((w.alloc (.cells #[.int .i64 m.rings, .int .i64 m.give, .int .i64 m.plo, .int .i64 m.phi, .int .i64 m.wlo, .int .i64 m.whi, .int .i64 m.st, .int .i64 m.shrink, .int .i64 m.skin, .int .i64 m.fill, .int .i64 m.gap, .int .i64 m.deep] 25)).alloc (.cells #[.slice A1 ps.length c1, .slice A2 ws.length c2] 28)) := ((Below.refl _ w).alloc (Nat.le_refl _) _).alloc (by simp) _
    exact ⟨(Blk.new w _ _).alloc _, Blk.new1 w _ _ _, hp.on hb0, hq.on hb0, hb0⟩
  clear hp hq
  go_enter Try.func20, Try.ntmps20
  go_wp2_with fail
  refine wp_region_spec (by kernel_rfl) 8 (by kernel_rfl) (fun u => ⟨#[.agg #[.int .i64 m.rings, .int .i64 m.give, .int .i64 m.plo, .int .i64 m.phi, .int .i64 m.wlo, .int .i64 m.whi, .int .i64 m.st, .int .i64 m.shrink, .int .i64 m.skin, .int .i64 m.fill, .int .i64 m.gap, .int .i64 m.deep], .agg #[.slice A1 ps.length c1, .slice A2 ws.length c2], .pointer (some ⟨w.heap.size, 0, none⟩), .pointer (some ⟨w.heap.size + 1, 0, none⟩), .slice none 0 0, .int .i64 0, u 7, undef, undef, undef, undef, u 0, u 1, u 2, u 3, u 4, u 5, u 6, undef, undef, undef, undef, undef, undef, undef, undef, undef, undef, undef, undef, undef, undef, undef, undef, undef, undef, undef, undef, undef, undef, undef, undef, undef, undef], []⟩) (fun _ => undef) (fun W => Hid (TrB w m A1 A2 c1 c2 ps ws W)) (cooR w m A1 A2 c1 c2 ps ws) (by kernel_rfl) (HM.out.on (Below.refl _ _).drew) (fun i v W W2 hi h hb => cooR_on w m A1 A2 c1 c2 ps ws i hi v W W2 h hb) (by decide +kernel) ?_ ?_
  · iterate 8 (refine all_succ ?_ ?_)
    · exact all_zero
    · intro u W hB _ hd _ K hK
      have HK := Lib.hid hK; clear hK
      refine wpOp_of rfl (by rfl) ?_
      obtain ⟨x0, x1, x2, x3, x4, x5, x6, x7, x8, x9, x10, x11⟩ := (MdBk.cells ⟨hB.out.b0, hB.out.b⟩)
      go_simp
      exact k_of (HK.out (.agg #[.int .i64 m.rings, .int .i64 m.give, .int .i64 m.plo, .int .i64 m.phi, .int .i64 m.wlo, .int .i64 m.whi, .int .i64 m.st, .int .i64 m.shrink, .int .i64 m.skin, .int .i64 m.fill, .int .i64 m.gap, .int .i64 m.deep]) _ rfl hB (Below.refl _ _)) (by kernel_rfl)
    · intro u W hB _ hd _ K hK
      have HK := Lib.hid hK; clear hK
      have e0 : u 0 = .agg #[.int .i64 m.rings, .int .i64 m.give, .int .i64 m.plo, .int .i64 m.phi, .int .i64 m.wlo, .int .i64 m.whi, .int .i64 m.st, .int .i64 m.shrink, .int .i64 m.skin, .int .i64 m.fill, .int .i64 m.gap, .int .i64 m.deep] := hd 0 (by decide +kernel)
      refine wpOp_of rfl (by rfl) ?_
      go_simp
      refine (check_any m _).mono ?_
      rintro e w' ⟨rfl, hb⟩
      exact k_of (HK.out (.int .i64 (checkM m)) _ rfl (hB.out.on hb) hb) (by rw [← u1_eq e0]; kernel_rfl)
    · intro u W hB _ hd _ K hK
      have HK := Lib.hid hK; clear hK
      refine wpOp_of rfl (by rfl) ?_
      obtain ⟨x0, x1, x2, x3, x4, x5, x6, x7, x8, x9, x10, x11⟩ := (MdBk.cells ⟨hB.out.b0, hB.out.b⟩)
      go_simp
      exact k_of (HK.out (.agg #[.int .i64 m.rings, .int .i64 m.give, .int .i64 m.plo, .int .i64 m.phi, .int .i64 m.wlo, .int .i64 m.whi, .int .i64 m.st, .int .i64 m.shrink, .int .i64 m.skin, .int .i64 m.fill, .int .i64 m.gap, .int .i64 m.deep]) _ rfl hB (Below.refl _ _)) (by kernel_rfl)
    · intro u W hB _ hd _ K hK
      have HK := Lib.hid hK; clear hK
      refine wpOp_of rfl (by rfl) ?_
      have x0 := hB.out.b1.cell 0; have x1 := hB.out.b1.cell 1
      go_simp
      exact k_of (HK.out (.agg #[.slice A1 ps.length c1, .slice A2 ws.length c2]) _ rfl hB (Below.refl _ _)) (by kernel_rfl)
    · intro u W hB _ hd _ K hK
      have HK := Lib.hid hK; clear hK
      have e2 : u 2 = .agg #[.int .i64 m.rings, .int .i64 m.give, .int .i64 m.plo, .int .i64 m.phi, .int .i64 m.wlo, .int .i64 m.whi, .int .i64 m.st, .int .i64 m.shrink, .int .i64 m.skin, .int .i64 m.fill, .int .i64 m.gap, .int .i64 m.deep] := hd 2 (by decide +kernel)
      have e3 : u 3 = .agg #[.slice A1 ps.length c1, .slice A2 ws.length c2] := hd 3 (by decide +kernel)
      refine wpOp_of rfl (by rfl) ?_
      go_simp
      refine (truth_any m hB.out.p hB.out.q).mono ?_
      rintro e w' ⟨rfl, hb⟩
      exact k_of (HK.out (.int .i64 (truthV m ps ws)) _ rfl (hB.out.on hb) hb) (by rw [← u1_eq e2, ← u1_eq e3]; kernel_rfl)
    · intro u W hB _ hd _ K hK
      have HK := Lib.hid hK; clear hK
      have e1 : u 1 = .int .i64 (checkM m) := hd 1 (by decide +kernel)
      have e4 : u 4 = .int .i64 (truthV m ps ws) := hd 4 (by decide +kernel)
      refine wpOp_of rfl (by rfl) ?_
      go_simp
      exact k_of (HK.out (.slice (some ⟨W.heap.size, 0, none⟩) 2 2) _ ⟨_, rfl, ints_blk (Blk.new _ _ _) rfl (by simp)⟩ (hB.out.on ((Below.refl _ W).alloc (Nat.le_refl _) _)) ((Below.refl _ W).alloc (Nat.le_refl _) _)) (by rw [← u1_eq e1, ← u1_eq e4]; kernel_rfl)
    · intro u W hB _ hd _ K hK
      have HK := Lib.hid hK; clear hK
      obtain ⟨b5, e5, k5⟩ : cooR w m A1 A2 c1 c2 ps ws 5 (u 5) W := hd 5 (by decide +kernel)
      refine wpOp_of rfl (by rfl) ?_
      go_simp
      refine (or_any (c := 2) k5).mono ?_
      rintro e w' ⟨rfl, hw'⟩
      subst hw'
      exact k_of (HK.out (.int .i64 (orE [checkM m, truthV m ps ws])) _ rfl hB (Below.refl _ _)) (by rw [← u1_eq e5]; kernel_rfl)
    · intro u W hB _ hd _ K hK
      have HK := Lib.hid hK; clear hK
      have e6 : u 6 = .int .i64 (orE [checkM m, truthV m ps ws]) := hd 6 (by decide +kernel)
      refine wpOp_of rfl (by rfl) ?_
      go_simp
      exact k_of (HK.out (.int .i64 (orE [checkM m, truthV m ps ws])) _ rfl hB (Below.refl _ _)) (by rw [← u1_eq e6]; kernel_rfl)
  · intro u W hB hd
    have e7 : u 7 = .int .i64 (orE [checkM m, truthV m ps ws]) := hd 7 (by decide)
    obtain ⟨x0, x1, x2, x3, x4, x5, x6, x7, x8, x9, x10, x11⟩ := (MdBk.cells ⟨hB.out.b0, hB.out.b⟩)
    have y0 := hB.out.b1.cell 0
    have y1 := hB.out.b1.cell 1
    have hs0 := hB.out.b0.lt
    have hs1 := hB.out.b1.lt
    by_cases hE : orE [checkM m, truthV m ps ws] = 0
    · obtain ⟨hok, hR⟩ := cool_ok hE
      rw [hE] at e7
      have HR := Lib.hid hR
      have HK := Lib.hid hok
      clear hR hok hE
      go_simp
      go_wp2_with fail
      have hrg := HK.out.ok.rings
      have hps8 : ps.length ≤ 8 := by rw [HK.out.len]; exact (kR_le HK.out.ok.toMdIn).2
      obtain ⟨W2, hW2⟩ : ∃ W2, W2 = (W.alloc (.cells #[.int .i64 m.rings, .int .i64 m.give, .int .i64 m.plo, .int .i64 m.phi, .int .i64 m.wlo, .int .i64 m.whi, .int .i64 m.st, .int .i64 m.shrink, .int .i64 m.skin, .int .i64 m.fill, .int .i64 m.gap, .int .i64 m.deep] 88)).alloc (.cells #[.int .i64 0, .int .i64 0, .int .i64 0, .int .i64 0, .int .i64 0, .int .i64 0, .int .i64 0, .int .i64 0] 90) := ⟨_, rfl⟩
      rw [← hW2]
      have hbW : Below W.heap.size W W2 := by rw [hW2]; exact ((Below.refl _ W).alloc (Nat.le_refl _) _).alloc (by simp) _
      have HX : Hid (Blk W2 (W.heap.size + 1) 90 #[.int .i64 0, .int .i64 0, .int .i64 0, .int .i64 0, .int .i64 0, .int .i64 0, .int .i64 0, .int .i64 0]) := by rw [hW2]; exact Blk.new1 W _ _ _
      have HV : Hid (MdBk w W.heap.size 88 m W2) := ⟨by rw [hW2]; exact (Blk.new W _ _).alloc _, hB.out.b.trans (hbW.mono hB.out.b.size)⟩
      have HZ := Lib.hid (hB.out.b.size)
      have HBW := Lib.hid hbW
      have HT := Lib.hid (hB.out.on hbW)
      have z0 := HT.out.b1.cell 0
      clear hbW hW2 x0 x1 x2 x3 x4 x5 x6 x7 x8 x9 x10 x11 y0 y1
      go_region_law (refine step_copy_splice (by rfl) _ _ _ _ (by rfl) 3 und_ints hszI (some ⟨W.heap.size + 1, 0, none⟩) A1 8 8 ps.length c1 (by rfl) (by rfl) (W.heap.size + 1) 0 [Value.int .i64 0, .int .i64 0, .int .i64 0, .int .i64 0, .int .i64 0, .int .i64 0, .int .i64 0, .int .i64 0] 90 HX.out (ps.map (Value.int .i64)) (by rw [List.length_map]; exact (Nat.min_eq_left hps8).symm) (fun hpos => ⟨rfl, ints_src (HT.out.p.on (Below.refl _ _).drew) (by simpa using hpos)⟩) (by simpa using hps8) (by simp [Value.oneCell']) (W.heap.size + 1) W2 (by first | exact Below.refl _ _ | exact (Below.refl _ _).drew) (Nat.le_refl _) ?_; intro w4 hg4 hb4)
      rw [splice_la ps hps8] at hg4
      have HC4 : Hid (CoI w m A2 c2 ws W.heap.size (W.heap.size + 1) (la ps) w4) :=
        ⟨⟨HV.out.bk.below hb4 (Nat.lt_succ_self _), HV.out.b.trans (hb4.mono (by have := HZ.out; omega))⟩, ⟨hg4.out⟩, (hb4.cell (p := ⟨w.heap.size + 1, 1, none⟩) (by show w.heap.size + 1 < W.heap.size + 1; omega)).trans (HT.out.b1.cell 1), RowAt.below hB.out.q.at_ (HBW.out.trans (hb4.mono (Nat.le_succ _))) (Nat.le_refl _), by have := HZ.out; omega, Nat.lt_succ_self _⟩
      have HSZ := Lib.hid (show w.heap.size + 1 < W.heap.size + 1 by omega)
      generalize hX : W.heap.size + 1 = X at *
      generalize hV : W.heap.size = V at *
      clear hg4 hb4 HX HV HT HBW HZ z0 e7 hd hB hs0 hs1 HM
      have b1 := HC4.out.b1
      have hl1 : w.heap.size + 1 < w4.heap.size := Nat.lt_trans HSZ.out HC4.out.bx.bk.lt
      have hok8 := (kR_le HK.out.ok.toMdIn)
      have hwl := HK.out.wl
      go_wp2_with fail
      go_loopw [30] (fun i W' => ∃ k : Nat, k ≤ ws.length ∧ i = .int .i64 k ∧ Hid (CoI w m A2 c2 ws V X (la (afterL m.give ps (ws.take k))) W')) (fun i _ => ws.length - (intOf i).toNat)
      case atStart => exact ⟨0, by omega, rfl, HC4⟩
      case round =>
        obtain ⟨k, hk, rfl, HC⟩ := hrel
        clear HC4 b1 hl1
        obtain ⟨x0, x1, x2, x3, x4, x5, x6, x7, x8, x9, x10, x11⟩ := HC.out.bv.cells
        have hlv := HC.out.bv.bk.lt
        have hlx := HC.out.bx.bk.lt
        by_cases hlt : k < ws.length
        · obtain ⟨x, hx⟩ : ∃ x, ws[k]? = some x := ⟨ws[k], List.getElem?_eq_getElem hlt⟩
          obtain ⟨bb, of, rfl, hbb, cx⟩ := ints_at HC.out.q hx
          have HN := Lib.hid (afterL_take (g := m.give) (l := ps) hx)
          have hin : ∀ y ∈ afterL m.give ps (ws.take k), 0 ≤ y ∧ y ≤ 2000 := afterL_in HK.out.ok.give (fun y hy => by
            have h1 := HK.out.q y (List.mem_of_mem_take hy); have h2 := HK.out.ok.wlo; have h3 := HK.out.ok.whi; omega) (fun y hy => by
            have h1 := HK.out.p y hy; have h2 := HK.out.ok.plo; have h3 := HK.out.ok.phi; omega)
          have hxin : 0 ≤ x ∧ x ≤ 2000 := by
            have h1 := HK.out.q x (List.mem_of_getElem? hx); have h2 := HK.out.ok.wlo; have h3 := HK.out.ok.whi; omega
          have HL := Lib.hid (fun W' : World => later_any (w := W') HK.out.ok.toMdIn (l := afterL m.give ps (ws.take k)) (by rw [afterL_length, HK.out.len]) hin hxin)
          obtain ⟨y0, y1, y2, y3, y4, y5, y6, y7⟩ := HC.out.bx.cells
          clear hx hin hxin
          go_wp2_with (first | (go_at_call 54; refine (HL.out _).mono ?_; rintro e w5 ⟨rfl, hb5⟩; rw [← HN.out]; have HC5 := Lib.hid (HC.out.on (Nat.lt_trans HSZ.out HC.out.bx.bk.lt) hb5); have hlx5 := HC5.out.bx.bk.lt; obtain ⟨z0, z1, z2, z3, z4, z5, z6, z7⟩ := HC5.out.bx.cells; obtain ⟨f0, f1, f2, f3, f4, f5, f6, f7⟩ := HC5.out.bx.frozen; clear hb5) | fail)
          have HC6 : Hid (CoI w m (some ⟨bb, of, none⟩) c2 ws V X (la (afterL m.give ps (ws.take (k + 1)))) (set8 w5 X (la (afterL m.give ps (ws.take (k + 1)))))) := HC5.out.puts HSZ.out _
          go_roundw
          case rel => exact ⟨k + 1, Nat.succ_le_of_lt hlt, by go_num, HC6⟩
          case measure => exact meas_one hlt
        · obtain rfl : k = ws.length := Nat.le_antisymm hk (Nat.le_of_not_lt hlt)
          have hn2 : ¬ ((ws.length : Int) < (ws.length : Int)) := by omega
          have e41 : m.rings = (kR m : Int) := (kR_eq HK.out.ok.toMdIn).symm
          rw [e41] at x0
          have hk8 : ((kR m : Nat) : Int) ≤ 8 := by have := hok8.2; omega
          have hal : Try.prog.arrayLen 90 = 8 := by kernel_rfl
          have hb8 : ((kR m : Nat) : Int) ≤ Try.prog.arrayLen 90 := by rw [hal]; exact hk8
          have hb0 : (0 : Int) ≤ ((kR m : Nat) : Int) := by omega
          have hlen : (afterL m.give ps ws).length = kR m := by rw [afterL_length, HK.out.len]
          have hbx := HC.out.bx
          rw [List.take_of_length_le (Nat.le_refl _)] at hbx
          have hcl := clone_any (c := 8) (hbx.ints (by rw [hlen]; exact hok8.2)) (by rw [hlen]; exact hok8.1) (by rw [hlen]; exact hok8.2)
          rw [hlen] at hcl
          have HCL := Lib.hid hcl
          clear hcl hbx hlen
          go_wp2_with (first | (go_at_call 55; refine HCL.out.mono ?_; rintro e w5 ⟨v, rfl, hv5, hb5⟩; have HV5 := Lib.hid hv5; have HB5 := Lib.hid (HC.out.bv.b.trans (hb5.mono HC.out.bv.b.size)); clear hv5 hb5) | fail)
          have hsz := HC.out.bv.b.size
          refine bodyPost_ret (v := .tuple #[v, .int .i64 0]) (by simp [results, Try.results20, go_sem]) rfl ⟨v, by rw [HR.out], by rw [HR.out]; exact own_base HV5.out hsz, HB5.out⟩
    · have HR := Lib.hid (cool_err hE)
      generalize orE [checkM m, truthV m ps ws] = E at *
      go_simp
      go_wp2_with fail
      refine bodyPost_ret (v := .tuple #[.slice none 0 0, .int .i64 E]) (by simp [results, Try.results20, go_sem]) rfl ⟨.slice none 0 0, by rw [HR.out], by rw [HR.out]; exact IntsOut.nil _ _, hB.out.b⟩
end Go.Proofs.Ytljbjcnfkbmjkaa
