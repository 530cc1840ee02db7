/- Layer mould, a part: regions of the law. No statement is proved here. -/
import Derived.Test.YtljbjcnfkbmjkaaGi
import Derived.Test.YtljbjcnfkbmjkaaGj
namespace Go.Proofs.Ytljbjcnfkbmjkaa
open Go.RowKit Go.Shelf

theorem sel2_on {a b : Bool} {M0 M1 M2 : World → Prop} {W W' : World} (h0 : M0 W → M0 W') (h1 : M1 W → M1 W') (h2 : M2 W → M2 W') (h : sel2 a b M0 M1 M2 W) : sel2 a b M0 M1 M2 W' := by
  cases a <;> cases b
  · exact h0 h
  · exact h2 h
  · exact h1 h
  · exact h2 h
theorem sel2_elim {a b : Bool} {M0 M1 M2 : World → Prop} {W : World} {C : Prop} (h0 : M0 W → C) (h1 : M1 W → C) (h2 : M2 W → C) (h : sel2 a b M0 M1 M2 W) : C := by
  cases a <;> cases b
  · exact h0 h
  · exact h2 h
  · exact h1 h
  · exact h2 h
section
variable {P : Program} {ops : Array Oper} {Q : Exit → Act → World → Prop} {md : Region.Mode} {n : Nat}
theorem wpAny_spec3 (hn : ops.size = n) (fr : (Nat → Value) → Act) (u0 : Nat → Value) (B : (Nat → Bool) → World → Prop) (R : Nat → Value → World → Prop)
    (E : Nat → Nat → Value → Value → Prop) (ln : List (Nat × Nat)) (hln : ∀ x ∈ ln, x.1 ∈ waits md ops x.2 ∧ x.2 < n ∧ x.1 ≠ x.2)
    (hd : ∀ i, i < n → ∀ j ∈ waits md ops i, j < i)
    (step : ∀ i, i < n → ∀ (L : Nat → Bool) (u : Nat → Value) (w : World), B L w → L i = false → (∀ j, j < n → L j = true → ∀ k ∈ waits md ops j, L k = true) → (∀ j ∈ waits md ops i, L j = true ∧ R j (u j) w) → (∀ j, j < n → L j = false → u j = u0 j) →
      wpOp P ops Q i (fun a' w' => ∃ v, a' = fr (u1 u i v) ∧ R i v w' ∧ B (setL L i) w' ∧ (∀ j v, j < n → L j = true → R j v w → R j v w') ∧ (∀ x ∈ ln, x.2 = i → E x.1 i (u x.1) v)) (fr u) w)
    (done : ∀ L u w, (∀ j, j < n → L j = true) → B L w → (∀ j, j < n → R j (u j) w) → (∀ x ∈ ln, E x.1 x.2 (u x.1) (u x.2)) → Q .normal (fr u) w) :
    ∀ (fuel : Nat) (listed : Array Bool) (u : Nat → Value) (w : World), listed.size = n → unl listed ≤ fuel → B (fun j => listed.getD j false) w → (∀ j, j < n → listed.getD j false = true → R j (u j) w) → (∀ j, j < n → listed.getD j false = true → ∀ k ∈ waits md ops j, listed.getD k false = true) → (∀ x ∈ ln, listed.getD x.2 false = true → E x.1 x.2 (u x.1) (u x.2)) → (∀ j, j < n → listed.getD j false = false → u j = u0 j) →
      wpAny P md ops Q fuel listed (fr u) w := by
  have hsame : ∀ (listed : Array Bool), listed.size = n → ∀ j, j < n → listed.getD j true = listed.getD j false := by
    intro listed hl j hj
    rw [Array.getD_eq_getD_getElem?, Array.getD_eq_getD_getElem?, Array.getElem?_eq_getElem (by omega)]; rfl
  have hnil : ∀ (listed : Array Bool), listed.size = n → Region.ready md ops listed = [] → ∀ j, j < n → listed.getD j false = true := by
    intro listed hl hr j
    induction j using Nat.strongRecOn with
    | _ j ih =>
      intro hj
      cases hb : listed.getD j false with
      | true => rfl
      | false =>
        have hmem : j ∈ Region.ready md ops listed := (ready_iff listed (by omega) j).2 ⟨by omega, by rw [hsame listed hl j hj, hb], fun k hk => ih k (hd j hj k hk) (by have := hd j hj k hk; omega)⟩
        rw [hr] at hmem; cases hmem
  intro fuel
  induction fuel with
  | zero =>
    intro listed u w hl hf hB hRl hC hE hU
    have hall : ∀ j, j < n → listed.getD j false = true := fun j hj => by rw [← hsame listed hl j hj]; exact unl_zero (by omega) (by omega)
    refine ⟨?_, done _ u w hall hB (fun j hj => hRl j hj (hall j hj)) (fun x hx => hE x hx (hall x.2 (hln x hx).2.1))⟩
    cases hr : Region.ready md ops listed with
    | nil => rfl
    | cons i rs =>
      have hmem : i ∈ Region.ready md ops listed := by rw [hr]; simp
      obtain ⟨h1, h2, -⟩ := (ready_iff listed (by omega) i).1 hmem
      rw [hsame listed hl i (by omega), hall i (by omega)] at h2; cases h2
  | succ fuel ih =>
    intro listed u w hl hf hB hRl hC hE hU
    refine ⟨fun hr => done _ u w (hnil listed hl hr) hB (fun j hj => hRl j hj (hnil listed hl hr j hj)) (fun x hx => hE x hx (hnil listed hl hr x.2 (hln x hx).2.1)), fun i hi => ?_⟩
    obtain ⟨h1, h2, h3⟩ := (ready_iff listed (by omega) i).1 hi
    have hin : i < n := by omega
    have h4 : listed.getD i false = false := by rw [← hsame listed hl i hin]; exact h2
    refine wpOp_mono ?_ (step i hin _ u w hB h4 hC (fun j hj => ⟨h3 j hj, hRl j (by have := hd i hin j hj; omega) (h3 j hj)⟩) hU)
    rintro a' w' ⟨v, rfl, hv, hB', hk, hEE⟩
    refine ih _ _ _ (by simpa using hl) (by have := unl_set (by omega) h2; omega) (by rw [getD_setL (by omega)]; exact hB') ?_ ?_ ?_ ?_
    · intro j hj hlj
      by_cases hji : j = i
      · subst hji; rw [u1_same]; exact hv
      · rw [u1_other _ _ hji]
        rw [getD_set, if_neg (by rintro ⟨h, -⟩; exact hji h)] at hlj
        exact hk j _ hj hlj (hRl j hj hlj)
    · intro j hj hlj k hk2
      have hk3 : listed.getD k false = true := by
        by_cases hji : j = i
        · subst hji; exact h3 k hk2
        · rw [getD_set, if_neg (by rintro ⟨h, -⟩; exact hji h)] at hlj
          exact hC j hj hlj k hk2
      rw [getD_set]
      split
      · rfl
      · exact hk3
    · intro x hx hlq
      obtain ⟨hpq, hqn, hpn⟩ := hln x hx
      by_cases hiq : x.2 = i
      · rw [hiq, u1_same, u1_other _ _ (by rw [← hiq]; exact hpn)]
        exact hEE x hx hiq
      · rw [getD_set, if_neg (by rintro ⟨h, -⟩; exact hiq h)] at hlq
        have hip : x.1 ≠ i := by
          intro h
          have := hC x.2 hqn hlq x.1 hpq
          rw [h, h4] at this; cases this
        rw [u1_other _ _ hip, u1_other _ _ hiq]
        exact hE x hx hlq
    · intro j hj hlj
      have hji : j ≠ i := by
        rintro rfl
        rw [getD_set, if_pos ⟨rfl, by omega⟩] at hlj; cases hlj
      rw [getD_set, if_neg (by rintro ⟨h, -⟩; exact hji h)] at hlj
      rw [u1_other _ _ hji]
      exact hU j hj hlj
theorem wp_region_spec3 {id : Nat} {a : Act} {w : World} (hm : P.follows .mixedOrders = true) (n : Nat) (hn : ops.size = n) (fr : (Nat → Value) → Act) (u0 : Nat → Value) (B : (Nat → Bool) → World → Prop) (R : Nat → Value → World → Prop)
    (E : Nat → Nat → Value → Value → Prop) (ln : List (Nat × Nat)) (hln : ∀ x ∈ ln, x.1 ∈ waits .any ops x.2 ∧ x.2 < n ∧ x.1 ≠ x.2)
    (ha : a = fr u0) (hB : B (fun _ => false) w.drew)
    (hd : ∀ i, i < n → ∀ j ∈ waits .any ops i, j < i)
    (step : ∀ i, i < n → ∀ (L : Nat → Bool) (u : Nat → Value) (w : World), B L w → L i = false → (∀ j, j < n → L j = true → ∀ k ∈ waits .any ops j, L k = true) → (∀ j ∈ waits .any ops i, L j = true ∧ R j (u j) w) → (∀ j, j < n → L j = false → u j = u0 j) →
      ∀ K : Act → World → Prop, (∀ v w', R i v w' → B (setL L i) w' → (∀ j v, j < n → L j = true → R j v w → R j v w') → (∀ x ∈ ln, x.2 = i → E x.1 i (u x.1) v) → K (fr (u1 u i v)) w') → wpOp P ops Q i K (fr u) w)
    (done : ∀ L u w, (∀ j, j < n → L j = true) → B L w → (∀ j, j < n → R j (u j) w) → (∀ x ∈ ln, E x.1 x.2 (u x.1) (u x.2)) → Q .normal (fr u) w) : (Code.region id ops true).wp P Q a w := by
  subst ha
  refine wp_region_any hm ?_
  have h0 : (fun j => (Array.replicate ops.size false).getD j false) = fun _ => false := by
    funext j
    rw [Array.getD_eq_getD_getElem?, Array.getElem?_replicate]
    split <;> rfl
  refine wpAny_spec3 hn fr u0 B R E ln hln hd (fun i hi L u w h1 h2 h3 h4 h9 => step i hi L u w h1 h2 h3 h4 h9 _ (fun v w' h5 h6 h7 h8 => ⟨v, rfl, h5, h6, h7, h8⟩)) done _ _ _ _ (by simpa using hn) ?_ (by rw [h0]; exact hB) ?_ ?_ ?_ (fun _ _ _ => rfl)
  · unfold unl
    exact Nat.le_trans List.countP_le_length (by simp)
  · intro j hj h
    rw [Array.getD_eq_getD_getElem?, Array.getElem?_replicate] at h
    split at h <;> simp at h
  · intro j hj h
    rw [Array.getD_eq_getD_getElem?, Array.getElem?_replicate] at h
    split at h <;> simp at h
  · intro x _ h
    rw [Array.getD_eq_getD_getElem?, Array.getElem?_replicate] at h
    split at h <;> simp at h
end
end Go.Proofs.Ytljbjcnfkbmjkaa

namespace Go.Proofs.Ytljbjcnfkbmjkaa
open Go.RowKit Go.Shelf

/-- The links: the two lists own no block together; what is assigned is what was made. -/
def moE : Nat → Nat → Value → Value → Prop
  | 6, 13, a, b => ∀ r, a.ownBlock = some r → b.ownBlock ≠ some r
  | _, _, a, b => b = a
/-- The mould, the numbers, the hollow: all of it below Q. -/
structure MoA (w : World) (m : Md) (Y0 Y1 Y2 : Int) (Bp : Option Addr) (l : List Int) (K Q : Nat) (x1 x2 x3 x4 : Int) (W : World) : Prop where
  bm : MdBk w w.heap.size 25 m W
  y : Blk W (w.heap.size + 1) 77 #[.int .u16 Y0, .int .u16 Y1, .int .u16 Y2]
  k : Blk W K 45 #[.int .i64 x1, .int .i64 x2, .int .i64 x3, .int .i64 x4]
  kq : K < Q
  hq : w.heap.size + 1 < Q
  li : IntsIn w Bp l
theorem MoA.below {w W W' : World} {m : Md} {Y0 Y1 Y2 : Int} {Bp : Option Addr} {l : List Int} {K Q : Nat} {x1 x2 x3 x4 : Int} (h : MoA w m Y0 Y1 Y2 Bp l K Q x1 x2 x3 x4 W) (hb : Below Q W W') : MoA w m Y0 Y1 Y2 Bp l K Q x1 x2 x3 x4 W' := by
  have h1 := h.kq
  have h2 := h.hq
  exact ⟨⟨h.bm.bk.below hb (by omega), h.bm.b.trans (hb.mono (by omega))⟩, h.y.below hb h2, h.k.below hb h1, h1, h2, h.li⟩
theorem MoA.on {w W W' : World} {m : Md} {Y0 Y1 Y2 : Int} {Bp : Option Addr} {l : List Int} {K Q : Nat} {x1 x2 x3 x4 : Int} (h : MoA w m Y0 Y1 Y2 Bp l K Q x1 x2 x3 x4 W) (hb : Below W.heap.size W W') : MoA w m Y0 Y1 Y2 Bp l K Q x1 x2 x3 x4 W' := ⟨h.bm.on hb, h.y.on hb, h.k.on hb, h.kq, h.hq, h.li⟩
/-- A row stays where another one grows. -/
theorem own_grow {B : Nat} {w w' : World} {v : Value} {l : List Int} {o : Option Nat} (h : IntsOut B w v l) (hg : w.grownBy w' o) (hne : ∀ r, v.ownBlock = some r → o ≠ some r) : IntsOut B w' v l := by
  refine ⟨h.1, ?_⟩
  rcases h.2 with h2 | ⟨g2, cap, cur, hv, hg2, hh, r⟩
  · exact .inl h2
  · refine .inr ⟨g2, cap, cur, hv, hg2, (hg.block g2 ?_ ?_).trans hh, r⟩
    · rcases Nat.lt_or_ge g2 w.heap.size with h' | h'
      · exact h'
      · rw [Array.getElem?_eq_none h'] at hh; cases hh
    · exact fun e => hne g2 (by rw [hv]; rfl) e.symm
end Go.Proofs.Ytljbjcnfkbmjkaa

namespace Go.Proofs.Ytljbjcnfkbmjkaa
open Go.RowKit Go.Shelf Go.Maps
attribute [local go_sem] Oper.semAt_some

/-- What each operation leaves. -/
def mo12R (v1 v2 : Value) (bb oo k nl d : Nat) (x : Int) (l1 l2 : List Int) (Q0 S0 : Nat) : Nat → Value → World → Prop
  | 0, v, _ => v = v1
  | 1, v, _ => v = .slice (some ⟨bb, oo, none⟩) nl d
  | 2, v, _ => v = .int .i64 (k : Int)
  | 3, v, _ => v = .pointer (some ⟨bb, oo + k, none⟩)
  | 4, v, _ => v = .int .i64 x
  | 5, v, W => ∃ g_5, v = .slice (some ⟨g_5, 0, none⟩) 1 1 ∧ Blk W g_5 3 #[.int .i64 x] ∧ S0 ≤ g_5
  | 6, v, W => ∃ g_6 cap_6, v = .slice (some ⟨g_6, 0, none⟩) (l1.length + 1) cap_6 ∧ IntsOut Q0 W (.slice (some ⟨g_6, 0, none⟩) (l1.length + 1) cap_6) (l1 ++ [x]) ∧ (∀ r, v2.ownBlock = some r → r ≠ g_6)
  | 7, v, _ => v = v2
  | 8, v, _ => v = .slice (some ⟨bb, oo, none⟩) nl d
  | 9, v, _ => v = .int .i64 (k : Int)
  | 10, v, _ => v = .pointer (some ⟨bb, oo + k, none⟩)
  | 11, v, _ => v = .int .i64 x
  | 12, v, W => ∃ g_12, v = .slice (some ⟨g_12, 0, none⟩) 1 1 ∧ Blk W g_12 3 #[.int .i64 x] ∧ S0 ≤ g_12
  | 13, v, W => ∃ g_13 cap_13, v = .slice (some ⟨g_13, 0, none⟩) (l2.length + 1) cap_13 ∧ IntsOut Q0 W (.slice (some ⟨g_13, 0, none⟩) (l2.length + 1) cap_13) (l2 ++ [x])
  | 14, v, W => ∃ g_6 cap_6, v = .slice (some ⟨g_6, 0, none⟩) (l1.length + 1) cap_6 ∧ IntsOut Q0 W (.slice (some ⟨g_6, 0, none⟩) (l1.length + 1) cap_6) (l1 ++ [x]) ∧ (∀ r, v2.ownBlock = some r → r ≠ g_6)
  | 15, v, W => ∃ g_13 cap_13, v = .slice (some ⟨g_13, 0, none⟩) (l2.length + 1) cap_13 ∧ IntsOut Q0 W (.slice (some ⟨g_13, 0, none⟩) (l2.length + 1) cap_13) (l2 ++ [x])
  | _, _, _ => True
theorem mo12R_on (v1 v2 : Value) (bb oo k nl d : Nat) (x : Int) (l1 l2 : List Int) (Q0 S0 : Nat) : ∀ i, i < 16 → ∀ v W W', mo12R v1 v2 bb oo k nl d x l1 l2 Q0 S0 i v W → Below W.heap.size W W' → mo12R v1 v2 bb oo k nl d x l1 l2 Q0 S0 i v W' := by
  iterate 16 (refine all_succ ?_ ?_)
  · exact all_zero
  · exact fun _ _ _ h _ => h
  · exact fun _ _ _ h _ => h
  · exact fun _ _ _ h _ => h
  · exact fun _ _ _ h _ => h
  · exact fun _ _ _ h _ => h
  · rintro v W W' ⟨g_5, e, h0, h1⟩ hb; exact ⟨g_5, e, h0.on hb, h1⟩
  · rintro v W W' ⟨g_6, cap_6, e, h0, h1⟩ hb; exact ⟨g_6, cap_6, e, (own_below h0 hb), h1⟩
  · exact fun _ _ _ h _ => h
  · exact fun _ _ _ h _ => h
  · exact fun _ _ _ h _ => h
  · exact fun _ _ _ h _ => h
  · exact fun _ _ _ h _ => h
  · rintro v W W' ⟨g_12, e, h0, h1⟩ hb; exact ⟨g_12, e, h0.on hb, h1⟩
  · rintro v W W' ⟨g_13, cap_13, e, h0⟩ hb; exact ⟨g_13, cap_13, e, (own_below h0 hb)⟩
  · rintro v W W' ⟨g_6, cap_6, e, h0, h1⟩ hb; exact ⟨g_6, cap_6, e, (own_below h0 hb), h1⟩
  · rintro v W W' ⟨g_13, cap_13, e, h0⟩ hb; exact ⟨g_13, cap_13, e, (own_below h0 hb)⟩
set_option maxRecDepth 100000 in
set_option maxHeartbeats 8000000 in
theorem mo12_region {w : World} {m : Md} {Y0 Y1 Y2 : Int} {l : List Int} {Kx : Nat} {x1 x2 x3 x4 : Int} {v1 v2 : Value} {bb oo k nl d : Nat} {x : Int} {l1 l2 : List Int} {Q0 S0 : Nat} (hx : l[k]? = some x) (hkn : (k : Int) < nl) (hl1 : l1.length < 1000000) (hl2 : l2.length < 1000000) (hQ : Q0 ≤ S0) (hv1 : ∀ r, v1.ownBlock = some r → r < S0) (hv2 : ∀ r, v2.ownBlock = some r → r < S0) (hap : ∀ r, v1.ownBlock = some r → v2.ownBlock ≠ some r) {Q : Exit → Act → World → Prop} {s0 s2 s3 s4 s5 s6 s7 s8 s9 s12 s14 s15 s16 s17 s18 s19 s20 s21 s22 s23 s24 s25 s26 s27 s28 s29 s30 s31 s32 s33 s34 s35 s36 s37 s38 s39 s40 s41 s42 s43 s44 s45 s46 s47 s48 s49 s50 s51 s52 s53 s54 s55 s56 s71 s72 s73 s74 s75 s76 s77 s78 s79 s80 s81 s82 s83 s84 s85 s86 s87 s88 s89 s90 s91 s92 s93 s94 s95 s96 s97 s98 s99 s100 s101 s102 s103 s104 s105 s106 s107 s108 s109 s110 s111 s112 s113 s114 s115 s116 s117 s118 s119 s120 s121 s122 s123 s124 s125 s126 s127 s128 s129 s130 s131 s132 s133 s134 s135 s136 s137 s138 s139 s140 s141 s142 s143 s144 s145 s146 s147 s148 s149 s150 s151 s152 s57 s58 s59 s60 s61 s62 s63 s64 s65 s66 s67 s68 s69 s70 : Value} {W0 : World} (HL : Hid ((fun W => (MoA w m Y0 Y1 Y2 (some ⟨bb, oo, none⟩) l Kx Q0 x1 x2 x3 x4 W ∧ IntsOut Q0 W v1 l1 ∧ IntsOut Q0 W v2 l2) ∧ S0 ≤ W.heap.size) W0))
    (HQ : Hid (∀ (u : Nat → Value) (v3 v4 : Value) (W : World), IntsOut Q0 W v3 (l1 ++ [x]) → IntsOut Q0 W v4 (l2 ++ [x]) → (∀ r, v3.ownBlock = some r → v4.ownBlock ≠ some r) → MoA w m Y0 Y1 Y2 (some ⟨bb, oo, none⟩) l Kx Q0 x1 x2 x3 x4 W → Q .normal ⟨#[s0, .slice (some ⟨bb, oo, none⟩) nl d, s2, s3, s4, s5, s6, s7, s8, s9, v3, v4, s12, .int .i64 (k : Int), s14, s15, s16, s17, s18, s19, s20, s21, s22, s23, s24, s25, s26, s27, s28, s29, s30, s31, s32, s33, s34, s35, s36, s37, s38, s39, s40, s41, s42, s43, s44, s45, s46, s47, s48, s49, s50, s51, s52, s53, s54, s55, s56, u 0, u 1, u 2, u 3, u 4, u 5, u 6, u 7, u 8, u 9, u 10, u 11, u 12, u 13, s71, s72, s73, s74, s75, s76, s77, s78, s79, s80, s81, s82, s83, s84, s85, s86, s87, s88, s89, s90, s91, s92, s93, s94, s95, s96, s97, s98, s99, s100, s101, s102, s103, s104, s105, s106, s107, s108, s109, s110, s111, s112, s113, s114, s115, s116, s117, s118, s119, s120, s121, s122, s123, s124, s125, s126, s127, s128, s129, s130, s131, s132, s133, s134, s135, s136, s137, s138, s139, s140, s141, s142, s143, s144, s145, s146, s147, s148, s149, s150, s151, s152], []⟩ W)) :
    Code.wp Try.prog ((Try.f15.body.bind (regionAt 12)).getD .skip) Q ⟨#[s0, .slice (some ⟨bb, oo, none⟩) nl d, s2, s3, s4, s5, s6, s7, s8, s9, v1, v2, s12, .int .i64 (k : Int), s14, s15, s16, s17, s18, s19, s20, s21, s22, s23, s24, s25, s26, s27, s28, s29, s30, s31, s32, s33, s34, s35, s36, s37, s38, s39, s40, s41, s42, s43, s44, s45, s46, s47, s48, s49, s50, s51, s52, s53, s54, s55, s56, s57, s58, s59, s60, s61, s62, s63, s64, s65, s66, s67, s68, s69, s70, s71, s72, s73, s74, s75, s76, s77, s78, s79, s80, s81, s82, s83, s84, s85, s86, s87, s88, s89, s90, s91, s92, s93, s94, s95, s96, s97, s98, s99, s100, s101, s102, s103, s104, s105, s106, s107, s108, s109, s110, s111, s112, s113, s114, s115, s116, s117, s118, s119, s120, s121, s122, s123, s124, s125, s126, s127, s128, s129, s130, s131, s132, s133, s134, s135, s136, s137, s138, s139, s140, s141, s142, s143, s144, s145, s146, s147, s148, s149, s150, s151, s152], []⟩ W0 := by
  conv => arg 2; whnf
  refine wp_region_spec3 (by kernel_rfl) 16 (by kernel_rfl) (fun u => ⟨#[s0, .slice (some ⟨bb, oo, none⟩) nl d, s2, s3, s4, s5, s6, s7, s8, s9, u 14, u 15, s12, .int .i64 (k : Int), s14, s15, s16, s17, s18, s19, s20, s21, s22, s23, s24, s25, s26, s27, s28, s29, s30, s31, s32, s33, s34, s35, s36, s37, s38, s39, s40, s41, s42, s43, s44, s45, s46, s47, s48, s49, s50, s51, s52, s53, s54, s55, s56, u 0, u 1, u 2, u 3, u 4, u 5, u 6, u 7, u 8, u 9, u 10, u 11, u 12, u 13, s71, s72, s73, s74, s75, s76, s77, s78, s79, s80, s81, s82, s83, s84, s85, s86, s87, s88, s89, s90, s91, s92, s93, s94, s95, s96, s97, s98, s99, s100, s101, s102, s103, s104, s105, s106, s107, s108, s109, s110, s111, s112, s113, s114, s115, s116, s117, s118, s119, s120, s121, s122, s123, s124, s125, s126, s127, s128, s129, s130, s131, s132, s133, s134, s135, s136, s137, s138, s139, s140, s141, s142, s143, s144, s145, s146, s147, s148, s149, s150, s151, s152], []⟩) (fun i => if i = 0 then s57 else if i = 1 then s58 else if i = 2 then s59 else if i = 3 then s60 else if i = 4 then s61 else if i = 5 then s62 else if i = 6 then s63 else if i = 7 then s64 else if i = 8 then s65 else if i = 9 then s66 else if i = 10 then s67 else if i = 11 then s68 else if i = 12 then s69 else if i = 13 then s70 else if i = 14 then v1 else if i = 15 then v2 else undef) (fun L W => Hid (sel2 (L 6) (L 13) ((fun W => (MoA w m Y0 Y1 Y2 (some ⟨bb, oo, none⟩) l Kx Q0 x1 x2 x3 x4 W ∧ IntsOut Q0 W v1 l1 ∧ IntsOut Q0 W v2 l2) ∧ S0 ≤ W.heap.size)) ((fun W => (MoA w m Y0 Y1 Y2 (some ⟨bb, oo, none⟩) l Kx Q0 x1 x2 x3 x4 W ∧ IntsOut Q0 W v2 l2) ∧ S0 ≤ W.heap.size)) ((fun W => MoA w m Y0 Y1 Y2 (some ⟨bb, oo, none⟩) l Kx Q0 x1 x2 x3 x4 W ∧ S0 ≤ W.heap.size)) W)) (mo12R v1 v2 bb oo k nl d x l1 l2 Q0 S0) moE [(6, 13), (6, 14), (13, 15)] (by decide +kernel) (by kernel_rfl) (⟨⟨HL.out.1.1.on (Below.refl _ _).drew, own_below HL.out.1.2.1 (Below.refl _ _).drew, own_below HL.out.1.2.2 (Below.refl _ _).drew⟩, HL.out.2⟩) (by decide +kernel) ?_ ?_
  · iterate 16 (refine all_succ ?_ ?_)
    · exact all_zero
    · intro L u W hB hi hC hd hU K hK
      have HK := Lib.hid hK; clear hK
      have hl14 : L 14 = false := by
        cases h : L 14 with
        | false => rfl
        | true => exact absurd (hC 14 (by decide) h 0 (by decide +kernel)) (by rw [hi]; decide)
      have e14 : u 14 = v1 := hU 14 (by decide) hl14
      refine wpOp_of rfl (by rfl) ?_
      go_simp
      exact k_of (HK.out (v1) _ rfl hB (fun _ _ _ _ h => h) (fun x hx he => by
        simp only [List.mem_cons, List.mem_nil_iff, or_false] at hx
        rcases hx with rfl | rfl | rfl <;> exact absurd he (by decide))) (by rw [← u1_eq e14]; kernel_rfl)
    · intro L u W hB hi hC hd hU K hK
      have HK := Lib.hid hK; clear hK
      refine wpOp_of rfl (by rfl) ?_
      go_simp
      exact k_of (HK.out (.slice (some ⟨bb, oo, none⟩) nl d) _ rfl hB (fun _ _ _ _ h => h) (fun x hx he => by
        simp only [List.mem_cons, List.mem_nil_iff, or_false] at hx
        rcases hx with rfl | rfl | rfl <;> exact absurd he (by decide))) (by kernel_rfl)
    · intro L u W hB hi hC hd hU K hK
      have HK := Lib.hid hK; clear hK
      refine wpOp_of rfl (by rfl) ?_
      go_simp
      exact k_of (HK.out (.int .i64 (k : Int)) _ rfl hB (fun _ _ _ _ h => h) (fun x hx he => by
        simp only [List.mem_cons, List.mem_nil_iff, or_false] at hx
        rcases hx with rfl | rfl | rfl <;> exact absurd he (by decide))) (by kernel_rfl)
    · intro L u W hB hi hC hd hU K hK
      have HK := Lib.hid hK; clear hK
      have e1 : u 1 = .slice (some ⟨bb, oo, none⟩) nl d := (hd 1 (by decide +kernel)).2
      have e2 : u 2 = .int .i64 (k : Int) := (hd 2 (by decide +kernel)).2
      refine wpOp_of rfl (by rfl) ?_
      go_simp
      exact k_of (HK.out (.pointer (some ⟨bb, oo + k, none⟩)) _ rfl hB (fun _ _ _ _ h => h) (fun x hx he => by
        simp only [List.mem_cons, List.mem_nil_iff, or_false] at hx
        rcases hx with rfl | rfl | rfl <;> exact absurd he (by decide))) (by rw [← u1_eq e1, ← u1_eq e2]; kernel_rfl)
    · intro L u W hB hi hC hd hU K hK
      have HK := Lib.hid hK; clear hK
      have hCm : (fun W => W.cell? ⟨bb, oo + k, none⟩ = some (.int .i64 x) ∧ S0 ≤ W.heap.size) W := sel2_elim (fun h => ⟨by obtain ⟨_, _, ee, _, dx⟩ := ints_at ((h.1.1.li).on h.1.1.bm.b).at_ hx; cases ee; exact dx, h.2⟩) (fun h => ⟨by obtain ⟨_, _, ee, _, dx⟩ := ints_at ((h.1.1.li).on h.1.1.bm.b).at_ hx; cases ee; exact dx, h.2⟩) (fun h => ⟨by obtain ⟨_, _, ee, _, dx⟩ := ints_at ((h.1.li).on h.1.bm.b).at_ hx; cases ee; exact dx, h.2⟩) hB.out
      have hN : ∀ W', Below W.heap.size W W' → Hid (sel2 (setL L 4 6) (setL L 4 13) ((fun W => (MoA w m Y0 Y1 Y2 (some ⟨bb, oo, none⟩) l Kx Q0 x1 x2 x3 x4 W ∧ IntsOut Q0 W v1 l1 ∧ IntsOut Q0 W v2 l2) ∧ S0 ≤ W.heap.size)) ((fun W => (MoA w m Y0 Y1 Y2 (some ⟨bb, oo, none⟩) l Kx Q0 x1 x2 x3 x4 W ∧ IntsOut Q0 W v2 l2) ∧ S0 ≤ W.heap.size)) ((fun W => MoA w m Y0 Y1 Y2 (some ⟨bb, oo, none⟩) l Kx Q0 x1 x2 x3 x4 W ∧ S0 ≤ W.heap.size)) W') := fun W' hb => sel2_on (fun h => ⟨⟨h.1.1.on hb, own_below h.1.2.1 hb, own_below h.1.2.2 hb⟩, Nat.le_trans h.2 hb.size⟩) (fun h => ⟨⟨h.1.1.on hb, own_below h.1.2 hb⟩, Nat.le_trans h.2 hb.size⟩) (fun h => ⟨h.1.on hb, Nat.le_trans h.2 hb.size⟩) hB.out
      have e3 : u 3 = .pointer (some ⟨bb, oo + k, none⟩) := (hd 3 (by decide +kernel)).2
      refine wpOp_of rfl (by rfl) ?_
      have dx := hCm.1
      go_simp
      exact k_of (HK.out (.int .i64 x) _ rfl (hN _ (Below.refl _ _)) (fun _ _ _ _ h => h) (fun x hx he => by
        simp only [List.mem_cons, List.mem_nil_iff, or_false] at hx
        rcases hx with rfl | rfl | rfl <;> exact absurd he (by decide))) (by rw [← u1_eq e3]; kernel_rfl)
    · intro L u W hB hi hC hd hU K hK
      have HK := Lib.hid hK; clear hK
      have hCm : (fun W => W.cell? ⟨bb, oo + k, none⟩ = some (.int .i64 x) ∧ S0 ≤ W.heap.size) W := sel2_elim (fun h => ⟨by obtain ⟨_, _, ee, _, dx⟩ := ints_at ((h.1.1.li).on h.1.1.bm.b).at_ hx; cases ee; exact dx, h.2⟩) (fun h => ⟨by obtain ⟨_, _, ee, _, dx⟩ := ints_at ((h.1.1.li).on h.1.1.bm.b).at_ hx; cases ee; exact dx, h.2⟩) (fun h => ⟨by obtain ⟨_, _, ee, _, dx⟩ := ints_at ((h.1.li).on h.1.bm.b).at_ hx; cases ee; exact dx, h.2⟩) hB.out
      have hN : ∀ W', Below W.heap.size W W' → Hid (sel2 (setL L 5 6) (setL L 5 13) ((fun W => (MoA w m Y0 Y1 Y2 (some ⟨bb, oo, none⟩) l Kx Q0 x1 x2 x3 x4 W ∧ IntsOut Q0 W v1 l1 ∧ IntsOut Q0 W v2 l2) ∧ S0 ≤ W.heap.size)) ((fun W => (MoA w m Y0 Y1 Y2 (some ⟨bb, oo, none⟩) l Kx Q0 x1 x2 x3 x4 W ∧ IntsOut Q0 W v2 l2) ∧ S0 ≤ W.heap.size)) ((fun W => MoA w m Y0 Y1 Y2 (some ⟨bb, oo, none⟩) l Kx Q0 x1 x2 x3 x4 W ∧ S0 ≤ W.heap.size)) W') := fun W' hb => sel2_on (fun h => ⟨⟨h.1.1.on hb, own_below h.1.2.1 hb, own_below h.1.2.2 hb⟩, Nat.le_trans h.2 hb.size⟩) (fun h => ⟨⟨h.1.1.on hb, own_below h.1.2 hb⟩, Nat.le_trans h.2 hb.size⟩) (fun h => ⟨h.1.on hb, Nat.le_trans h.2 hb.size⟩) hB.out
      have e4 : u 4 = .int .i64 x := (hd 4 (by decide +kernel)).2
      refine wpOp_of rfl (by rfl) ?_
      go_simp
      have hb : Below W.heap.size W (W.alloc (.cells #[.int .i64 x] 3)) := (Below.refl _ W).alloc (Nat.le_refl _) _
      exact k_of (HK.out (.slice (some ⟨W.heap.size, 0, none⟩) 1 1) _ ⟨W.heap.size, rfl, Blk.new W _ _, hCm.2⟩ (hN _ hb) (fun j v hj _ hR => mo12R_on v1 v2 bb oo k nl d x l1 l2 Q0 S0 j hj v _ _ hR hb) (fun x hx he => by
              simp only [List.mem_cons, List.mem_nil_iff, or_false] at hx
              rcases hx with rfl | rfl | rfl <;> exact absurd he (by decide))) (by rw [← u1_eq e4]; kernel_rfl)
    · intro L u W hB hi hC hd hU K hK
      have HK := Lib.hid hK; clear hK
      have h6 : L 6 = false := hi
      have h13 : L 13 = false := by
        cases h : L 13 with
        | false => rfl
        | true => exact absurd (hC 13 (by decide) h 6 (by decide +kernel)) (by rw [hi]; decide)
      have hM : (fun W => (MoA w m Y0 Y1 Y2 (some ⟨bb, oo, none⟩) l Kx Q0 x1 x2 x3 x4 W ∧ IntsOut Q0 W v1 l1 ∧ IntsOut Q0 W v2 l2) ∧ S0 ≤ W.heap.size) W := by
        have h := hB.out
        rw [h6, h13] at h
        exact h
      have hN : ∀ W', (fun W => (MoA w m Y0 Y1 Y2 (some ⟨bb, oo, none⟩) l Kx Q0 x1 x2 x3 x4 W ∧ IntsOut Q0 W v2 l2) ∧ S0 ≤ W.heap.size) W' → Hid (sel2 (setL L 6 6) (setL L 6 13) ((fun W => (MoA w m Y0 Y1 Y2 (some ⟨bb, oo, none⟩) l Kx Q0 x1 x2 x3 x4 W ∧ IntsOut Q0 W v1 l1 ∧ IntsOut Q0 W v2 l2) ∧ S0 ≤ W.heap.size)) ((fun W => (MoA w m Y0 Y1 Y2 (some ⟨bb, oo, none⟩) l Kx Q0 x1 x2 x3 x4 W ∧ IntsOut Q0 W v2 l2) ∧ S0 ≤ W.heap.size)) ((fun W => MoA w m Y0 Y1 Y2 (some ⟨bb, oo, none⟩) l Kx Q0 x1 x2 x3 x4 W ∧ S0 ≤ W.heap.size)) W') := fun W' h => by
        show Hid (sel2 true (L 13) ((fun W => (MoA w m Y0 Y1 Y2 (some ⟨bb, oo, none⟩) l Kx Q0 x1 x2 x3 x4 W ∧ IntsOut Q0 W v1 l1 ∧ IntsOut Q0 W v2 l2) ∧ S0 ≤ W.heap.size)) ((fun W => (MoA w m Y0 Y1 Y2 (some ⟨bb, oo, none⟩) l Kx Q0 x1 x2 x3 x4 W ∧ IntsOut Q0 W v2 l2) ∧ S0 ≤ W.heap.size)) ((fun W => MoA w m Y0 Y1 Y2 (some ⟨bb, oo, none⟩) l Kx Q0 x1 x2 x3 x4 W ∧ S0 ≤ W.heap.size)) W')
        rw [h13]
        exact h
      clear hB
      have hB := Lib.hid hM
      clear hM
      have e0 : u 0 = v1 := (hd 0 (by decide +kernel)).2
      obtain ⟨g_5, e5, f5_0, f5_1⟩ : mo12R v1 v2 bb oo k nl d x l1 l2 Q0 S0 5 (u 5) W := (hd 5 (by decide +kernel)).2
      refine wpOp_of rfl (by rfl) ?_
      refine app_wp rfl _ _ rfl e0 hB.out.1.2.1 x e5 f5_0 hl1 (Nat.le_trans hQ hB.out.2) ?_
      intro g cap w4 r1 r2 r3 r4
      have hkeep : ∀ j, j < 16 → ∀ v, L j = true → mo12R v1 v2 bb oo k nl d x l1 l2 Q0 S0 j v W → mo12R v1 v2 bb oo k nl d x l1 l2 Q0 S0 j v w4 := by
        iterate 16 (refine all_succ ?_ ?_)
        · exact all_zero
        · exact fun _ _ h => h
        · exact fun _ _ h => h
        · exact fun _ _ h => h
        · exact fun _ _ h => h
        · exact fun _ _ h => h
        · rintro v _ ⟨g, e, h1, h2⟩; exact ⟨g, e, h1.grow r3 (fun e => by have := hv1 g e; omega), h2⟩
        · intro v h; rw [hi] at h; cases h
        · exact fun _ _ h => h
        · exact fun _ _ h => h
        · exact fun _ _ h => h
        · exact fun _ _ h => h
        · exact fun _ _ h => h
        · rintro v _ ⟨g, e, h1, h2⟩; exact ⟨g, e, h1.grow r3 (fun e => by have := hv1 g e; omega), h2⟩
        · intro v h; rw [h13] at h; cases h
        · intro v h; exact absurd (hC 14 (by decide) h 6 (by decide +kernel)) (by rw [hi]; decide)
        · intro v h; rw [show L 15 = false from by
            cases h2 : L 15 with
            | false => rfl
            | true => exact absurd (hC 15 (by decide) h2 13 (by decide +kernel)) (by rw [h13]; decide)] at h; cases h
      exact k_of (HK.out (.slice (some ⟨g, 0, none⟩) (l1.length + 1) cap) _ ⟨g, cap, rfl, r1, fun r hr hg => by
        rcases r4 with h | h
        · exact hap g h (by rw [← hg]; exact hr)
        · have := hv2 r hr; have := hB.out.2; omega⟩ (hN _ ⟨⟨hB.out.1.1.below r2 , own_grow hB.out.1.2.2 r3 (fun r hr he => hap r he hr)⟩, Nat.le_trans hB.out.2 r2.size⟩) (fun j v hj h1 h2 => hkeep j hj v h1 h2) (fun x hx he => by
                simp only [List.mem_cons, List.mem_nil_iff, or_false] at hx
                rcases hx with rfl | rfl | rfl <;> exact absurd he (by decide))) (by rw [← u1_eq e0, ← u1_eq e5]; kernel_rfl)
    · intro L u W hB hi hC hd hU K hK
      have HK := Lib.hid hK; clear hK
      have hl15 : L 15 = false := by
        cases h : L 15 with
        | false => rfl
        | true => exact absurd (hC 15 (by decide) h 7 (by decide +kernel)) (by rw [hi]; decide)
      have e15 : u 15 = v2 := hU 15 (by decide) hl15
      refine wpOp_of rfl (by rfl) ?_
      go_simp
      exact k_of (HK.out (v2) _ rfl hB (fun _ _ _ _ h => h) (fun x hx he => by
        simp only [List.mem_cons, List.mem_nil_iff, or_false] at hx
        rcases hx with rfl | rfl | rfl <;> exact absurd he (by decide))) (by rw [← u1_eq e15]; kernel_rfl)
    · intro L u W hB hi hC hd hU K hK
      have HK := Lib.hid hK; clear hK
      refine wpOp_of rfl (by rfl) ?_
      go_simp
      exact k_of (HK.out (.slice (some ⟨bb, oo, none⟩) nl d) _ rfl hB (fun _ _ _ _ h => h) (fun x hx he => by
        simp only [List.mem_cons, List.mem_nil_iff, or_false] at hx
        rcases hx with rfl | rfl | rfl <;> exact absurd he (by decide))) (by kernel_rfl)
    · intro L u W hB hi hC hd hU K hK
      have HK := Lib.hid hK; clear hK
      refine wpOp_of rfl (by rfl) ?_
      go_simp
      exact k_of (HK.out (.int .i64 (k : Int)) _ rfl hB (fun _ _ _ _ h => h) (fun x hx he => by
        simp only [List.mem_cons, List.mem_nil_iff, or_false] at hx
        rcases hx with rfl | rfl | rfl <;> exact absurd he (by decide))) (by kernel_rfl)
    · intro L u W hB hi hC hd hU K hK
      have HK := Lib.hid hK; clear hK
      have e8 : u 8 = .slice (some ⟨bb, oo, none⟩) nl d := (hd 8 (by decide +kernel)).2
      have e9 : u 9 = .int .i64 (k : Int) := (hd 9 (by decide +kernel)).2
      refine wpOp_of rfl (by rfl) ?_
      go_simp
      exact k_of (HK.out (.pointer (some ⟨bb, oo + k, none⟩)) _ rfl hB (fun _ _ _ _ h => h) (fun x hx he => by
        simp only [List.mem_cons, List.mem_nil_iff, or_false] at hx
        rcases hx with rfl | rfl | rfl <;> exact absurd he (by decide))) (by rw [← u1_eq e8, ← u1_eq e9]; kernel_rfl)
    · intro L u W hB hi hC hd hU K hK
      have HK := Lib.hid hK; clear hK
      have hCm : (fun W => W.cell? ⟨bb, oo + k, none⟩ = some (.int .i64 x) ∧ S0 ≤ W.heap.size) W := sel2_elim (fun h => ⟨by obtain ⟨_, _, ee, _, dx⟩ := ints_at ((h.1.1.li).on h.1.1.bm.b).at_ hx; cases ee; exact dx, h.2⟩) (fun h => ⟨by obtain ⟨_, _, ee, _, dx⟩ := ints_at ((h.1.1.li).on h.1.1.bm.b).at_ hx; cases ee; exact dx, h.2⟩) (fun h => ⟨by obtain ⟨_, _, ee, _, dx⟩ := ints_at ((h.1.li).on h.1.bm.b).at_ hx; cases ee; exact dx, h.2⟩) hB.out
      have hN : ∀ W', Below W.heap.size W W' → Hid (sel2 (setL L 11 6) (setL L 11 13) ((fun W => (MoA w m Y0 Y1 Y2 (some ⟨bb, oo, none⟩) l Kx Q0 x1 x2 x3 x4 W ∧ IntsOut Q0 W v1 l1 ∧ IntsOut Q0 W v2 l2) ∧ S0 ≤ W.heap.size)) ((fun W => (MoA w m Y0 Y1 Y2 (some ⟨bb, oo, none⟩) l Kx Q0 x1 x2 x3 x4 W ∧ IntsOut Q0 W v2 l2) ∧ S0 ≤ W.heap.size)) ((fun W => MoA w m Y0 Y1 Y2 (some ⟨bb, oo, none⟩) l Kx Q0 x1 x2 x3 x4 W ∧ S0 ≤ W.heap.size)) W') := fun W' hb => sel2_on (fun h => ⟨⟨h.1.1.on hb, own_below h.1.2.1 hb, own_below h.1.2.2 hb⟩, Nat.le_trans h.2 hb.size⟩) (fun h => ⟨⟨h.1.1.on hb, own_below h.1.2 hb⟩, Nat.le_trans h.2 hb.size⟩) (fun h => ⟨h.1.on hb, Nat.le_trans h.2 hb.size⟩) hB.out
      have e10 : u 10 = .pointer (some ⟨bb, oo + k, none⟩) := (hd 10 (by decide +kernel)).2
      refine wpOp_of rfl (by rfl) ?_
      have dx := hCm.1
      go_simp
      exact k_of (HK.out (.int .i64 x) _ rfl (hN _ (Below.refl _ _)) (fun _ _ _ _ h => h) (fun x hx he => by
        simp only [List.mem_cons, List.mem_nil_iff, or_false] at hx
        rcases hx with rfl | rfl | rfl <;> exact absurd he (by decide))) (by rw [← u1_eq e10]; kernel_rfl)
    · intro L u W hB hi hC hd hU K hK
      have HK := Lib.hid hK; clear hK
      have hCm : (fun W => W.cell? ⟨bb, oo + k, none⟩ = some (.int .i64 x) ∧ S0 ≤ W.heap.size) W := sel2_elim (fun h => ⟨by obtain ⟨_, _, ee, _, dx⟩ := ints_at ((h.1.1.li).on h.1.1.bm.b).at_ hx; cases ee; exact dx, h.2⟩) (fun h => ⟨by obtain ⟨_, _, ee, _, dx⟩ := ints_at ((h.1.1.li).on h.1.1.bm.b).at_ hx; cases ee; exact dx, h.2⟩) (fun h => ⟨by obtain ⟨_, _, ee, _, dx⟩ := ints_at ((h.1.li).on h.1.bm.b).at_ hx; cases ee; exact dx, h.2⟩) hB.out
      have hN : ∀ W', Below W.heap.size W W' → Hid (sel2 (setL L 12 6) (setL L 12 13) ((fun W => (MoA w m Y0 Y1 Y2 (some ⟨bb, oo, none⟩) l Kx Q0 x1 x2 x3 x4 W ∧ IntsOut Q0 W v1 l1 ∧ IntsOut Q0 W v2 l2) ∧ S0 ≤ W.heap.size)) ((fun W => (MoA w m Y0 Y1 Y2 (some ⟨bb, oo, none⟩) l Kx Q0 x1 x2 x3 x4 W ∧ IntsOut Q0 W v2 l2) ∧ S0 ≤ W.heap.size)) ((fun W => MoA w m Y0 Y1 Y2 (some ⟨bb, oo, none⟩) l Kx Q0 x1 x2 x3 x4 W ∧ S0 ≤ W.heap.size)) W') := fun W' hb => sel2_on (fun h => ⟨⟨h.1.1.on hb, own_below h.1.2.1 hb, own_below h.1.2.2 hb⟩, Nat.le_trans h.2 hb.size⟩) (fun h => ⟨⟨h.1.1.on hb, own_below h.1.2 hb⟩, Nat.le_trans h.2 hb.size⟩) (fun h => ⟨h.1.on hb, Nat.le_trans h.2 hb.size⟩) hB.out
      have e11 : u 11 = .int .i64 x := (hd 11 (by decide +kernel)).2
      refine wpOp_of rfl (by rfl) ?_
      go_simp
      have hb : Below W.heap.size W (W.alloc (.cells #[.int .i64 x] 3)) := (Below.refl _ W).alloc (Nat.le_refl _) _
      exact k_of (HK.out (.slice (some ⟨W.heap.size, 0, none⟩) 1 1) _ ⟨W.heap.size, rfl, Blk.new W _ _, hCm.2⟩ (hN _ hb) (fun j v hj _ hR => mo12R_on v1 v2 bb oo k nl d x l1 l2 Q0 S0 j hj v _ _ hR hb) (fun x hx he => by
              simp only [List.mem_cons, List.mem_nil_iff, or_false] at hx
              rcases hx with rfl | rfl | rfl <;> exact absurd he (by decide))) (by rw [← u1_eq e11]; kernel_rfl)
    · intro L u W hB hi hC hd hU K hK
      have HK := Lib.hid hK; clear hK
      have h6 : L 6 = true := (hd 6 (by decide +kernel)).1
      have h13 : L 13 = false := hi
      have hM : (fun W => (MoA w m Y0 Y1 Y2 (some ⟨bb, oo, none⟩) l Kx Q0 x1 x2 x3 x4 W ∧ IntsOut Q0 W v2 l2) ∧ S0 ≤ W.heap.size) W := by
        have h := hB.out
        rw [h6, h13] at h
        exact h
      have hN : ∀ W', (fun W => MoA w m Y0 Y1 Y2 (some ⟨bb, oo, none⟩) l Kx Q0 x1 x2 x3 x4 W ∧ S0 ≤ W.heap.size) W' → Hid (sel2 (setL L 13 6) (setL L 13 13) ((fun W => (MoA w m Y0 Y1 Y2 (some ⟨bb, oo, none⟩) l Kx Q0 x1 x2 x3 x4 W ∧ IntsOut Q0 W v1 l1 ∧ IntsOut Q0 W v2 l2) ∧ S0 ≤ W.heap.size)) ((fun W => (MoA w m Y0 Y1 Y2 (some ⟨bb, oo, none⟩) l Kx Q0 x1 x2 x3 x4 W ∧ IntsOut Q0 W v2 l2) ∧ S0 ≤ W.heap.size)) ((fun W => MoA w m Y0 Y1 Y2 (some ⟨bb, oo, none⟩) l Kx Q0 x1 x2 x3 x4 W ∧ S0 ≤ W.heap.size)) W') := fun W' h => by
        show Hid (sel2 (L 6) true ((fun W => (MoA w m Y0 Y1 Y2 (some ⟨bb, oo, none⟩) l Kx Q0 x1 x2 x3 x4 W ∧ IntsOut Q0 W v1 l1 ∧ IntsOut Q0 W v2 l2) ∧ S0 ≤ W.heap.size)) ((fun W => (MoA w m Y0 Y1 Y2 (some ⟨bb, oo, none⟩) l Kx Q0 x1 x2 x3 x4 W ∧ IntsOut Q0 W v2 l2) ∧ S0 ≤ W.heap.size)) ((fun W => MoA w m Y0 Y1 Y2 (some ⟨bb, oo, none⟩) l Kx Q0 x1 x2 x3 x4 W ∧ S0 ≤ W.heap.size)) W')
        rw [h6]
        exact h
      clear hB
      have hB := Lib.hid hM
      clear hM
      have e7 : u 7 = v2 := (hd 7 (by decide +kernel)).2
      obtain ⟨g_12, e12, f12_0, f12_1⟩ : mo12R v1 v2 bb oo k nl d x l1 l2 Q0 S0 12 (u 12) W := (hd 12 (by decide +kernel)).2
      obtain ⟨g_6, cap_6, e6, f6_0, f6_1⟩ : mo12R v1 v2 bb oo k nl d x l1 l2 Q0 S0 6 (u 6) W := (hd 6 (by decide +kernel)).2
      refine wpOp_of rfl (by rfl) ?_
      refine app_wp rfl _ _ rfl e7 hB.out.1.2 x e12 f12_0 hl2 (Nat.le_trans hQ hB.out.2) ?_
      intro g cap w4 r1 r2 r3 r4
      have hkeep : ∀ j, j < 16 → ∀ v, L j = true → mo12R v1 v2 bb oo k nl d x l1 l2 Q0 S0 j v W → mo12R v1 v2 bb oo k nl d x l1 l2 Q0 S0 j v w4 := by
        iterate 16 (refine all_succ ?_ ?_)
        · exact all_zero
        · exact fun _ _ h => h
        · exact fun _ _ h => h
        · exact fun _ _ h => h
        · exact fun _ _ h => h
        · exact fun _ _ h => h
        · rintro v _ ⟨g, e, h1, h2⟩; exact ⟨g, e, h1.grow r3 (fun e => by have := hv2 g e; omega), h2⟩
        · rintro v _ ⟨g, cap, e, h1, h2⟩; exact ⟨g, cap, e, own_grow h1 r3 (fun r hr he => h2 r he (by cases hr; rfl)), h2⟩
        · exact fun _ _ h => h
        · exact fun _ _ h => h
        · exact fun _ _ h => h
        · exact fun _ _ h => h
        · exact fun _ _ h => h
        · rintro v _ ⟨g, e, h1, h2⟩; exact ⟨g, e, h1.grow r3 (fun e => by have := hv2 g e; omega), h2⟩
        · intro v h; rw [hi] at h; cases h
        · intro v h; exact absurd (hC 14 (by decide) h 13 (by decide +kernel)) (by rw [hi]; decide)
        · intro v h; exact absurd (hC 15 (by decide) h 13 (by decide +kernel)) (by rw [hi]; decide)
      exact k_of (HK.out (.slice (some ⟨g, 0, none⟩) (l2.length + 1) cap) _ ⟨g, cap, rfl, r1⟩ (hN _ ⟨hB.out.1.1.below r2, Nat.le_trans hB.out.2 r2.size⟩) (fun j v hj h1 h2 => hkeep j hj v h1 h2) (fun x hx he => by
                simp only [List.mem_cons, List.mem_nil_iff, or_false] at hx
                rcases hx with rfl | rfl | rfl
                · intro r hr hg
                  have k1 : some g_6 = some r := by rw [e6] at hr; exact hr
                  have k2 : some g = some r := hg
                  have k3 : g_6 = r := Option.some.inj k1
                  have k4 : g = r := Option.some.inj k2
                  rcases r4 with h | h
                  · exact f6_1 r (by rw [h, k4]) k3.symm
                  · have k5 := (World.ownsRow.lt f6_0 g_6 rfl).2
                    omega
                · exact absurd he (by decide)
                · exact absurd he (by decide))) (by rw [← u1_eq e7, ← u1_eq e12]; kernel_rfl)
    · intro L u W hB hi hC hd hU K hK
      have HK := Lib.hid hK; clear hK
      obtain ⟨g_6, cap_6, e6, f6_0, f6_1⟩ : mo12R v1 v2 bb oo k nl d x l1 l2 Q0 S0 6 (u 6) W := (hd 6 (by decide +kernel)).2
      refine wpOp_of rfl (by rfl) ?_
      go_simp
      exact k_of (HK.out (.slice (some ⟨g_6, 0, none⟩) (l1.length + 1) cap_6) _ ⟨g_6, cap_6, rfl, f6_0, f6_1⟩ hB (fun _ _ _ _ h => h) (fun x hx he => by
        simp only [List.mem_cons, List.mem_nil_iff, or_false] at hx
        rcases hx with rfl | rfl | rfl
        · exact absurd he (by decide)
        · exact e6.symm
        · exact absurd he (by decide))) (by rw [← u1_eq e6]; kernel_rfl)
    · intro L u W hB hi hC hd hU K hK
      have HK := Lib.hid hK; clear hK
      obtain ⟨g_13, cap_13, e13, f13_0⟩ : mo12R v1 v2 bb oo k nl d x l1 l2 Q0 S0 13 (u 13) W := (hd 13 (by decide +kernel)).2
      refine wpOp_of rfl (by rfl) ?_
      go_simp
      exact k_of (HK.out (.slice (some ⟨g_13, 0, none⟩) (l2.length + 1) cap_13) _ ⟨g_13, cap_13, rfl, f13_0⟩ hB (fun _ _ _ _ h => h) (fun x hx he => by
        simp only [List.mem_cons, List.mem_nil_iff, or_false] at hx
        rcases hx with rfl | rfl | rfl
        · exact absurd he (by decide)
        · exact absurd he (by decide)
        · exact e13.symm)) (by rw [← u1_eq e13]; kernel_rfl)
  · intro L u W hL hB hd hE
    have hM : (fun W => MoA w m Y0 Y1 Y2 (some ⟨bb, oo, none⟩) l Kx Q0 x1 x2 x3 x4 W ∧ S0 ≤ W.heap.size) W := by
      have h := hB.out
      rw [hL 6 (by decide), hL 13 (by decide)] at h
      exact h
    obtain ⟨g6, cap6, e6, f6, _⟩ : mo12R v1 v2 bb oo k nl d x l1 l2 Q0 S0 6 (u 6) W := hd 6 (by decide)
    obtain ⟨g13, cap13, e13, f13⟩ : mo12R v1 v2 bb oo k nl d x l1 l2 Q0 S0 13 (u 13) W := hd 13 (by decide)
    have h1 : ∀ r, (u 6).ownBlock = some r → (u 13).ownBlock ≠ some r := hE (6, 13) (by simp)
    have h2 : u 14 = u 6 := hE (6, 14) (by simp)
    have h3 : u 15 = u 13 := hE (13, 15) (by simp)
    exact HQ.out u (u 14) (u 15) W (by rw [h2, e6]; exact f6) (by rw [h3, e13]; exact f13) (by rw [h2, h3]; exact h1) hM.1
end Go.Proofs.Ytljbjcnfkbmjkaa

namespace Go.Proofs.Ytljbjcnfkbmjkaa
open Go.RowKit Go.Shelf

/-- .. and both lists, which own no block together. -/
structure MoR (w : World) (m : Md) (Y0 Y1 Y2 : Int) (Bp : Option Addr) (l : List Int) (K Q : Nat) (x1 x2 x3 x4 : Int) (v1 : Value) (l1 : List Int) (v2 : Value) (l2 : List Int) (W : World) : Prop where
  a : MoA w m Y0 Y1 Y2 Bp l K Q x1 x2 x3 x4 W
  o1 : IntsOut Q W v1 l1
  o2 : IntsOut Q W v2 l2
  ap : ∀ r, v1.ownBlock = some r → v2.ownBlock ≠ some r
section
variable {w W W' : World} {m : Md} {Y0 Y1 Y2 : Int} {Bp : Option Addr} {l : List Int} {K Q : Nat} {x1 x2 x3 x4 : Int} {v1 v2 : Value} {l1 l2 : List Int}
theorem MoR.on (h : MoR w m Y0 Y1 Y2 Bp l K Q x1 x2 x3 x4 v1 l1 v2 l2 W) (hb : Below W.heap.size W W') : MoR w m Y0 Y1 Y2 Bp l K Q x1 x2 x3 x4 v1 l1 v2 l2 W' := ⟨h.a.on hb, own_below h.o1 hb, own_below h.o2 hb, h.ap⟩
theorem own_cell3 {g n c k : Nat} {x : Int} (h : IntsOut Q W (.slice (some ⟨g, 0, none⟩) n c) l) (hx : l[k]? = some x) : W.cell? ⟨g, k, none⟩ = some (.int .i64 x) ∧ W.frozen? ⟨g, k, none⟩ = false ∧ g < W.heap.size := by
  have hr := h.reads.2.1
  obtain ⟨b, o, e, hb, hc⟩ := ints_at hr hx
  cases e
  refine ⟨by simpa using hc, ?_, hb⟩
  rcases h.2 with ⟨hv, _⟩ | ⟨g', cap, cur, hv, _, hh, _⟩
  · cases hv
  · cases hv
    simp [World.frozen?, hh]
theorem own_cell {g n c k : Nat} {x : Int} (h : IntsOut Q W (.slice (some ⟨g, 0, none⟩) n c) l) (hx : l[k]? = some x) : W.cell? ⟨g, k, none⟩ = some (.int .i64 x) := (own_cell3 h hx).1
/-- A number of the list is changed in its place. -/
theorem own_put {g n c k : Nat} {x z : Int} (h : IntsOut Q W (.slice (some ⟨g, 0, none⟩) n c) l) (hx : l[k]? = some x) : IntsOut Q (W.setCell ⟨g, k, none⟩ (.int .i64 z)) (.slice (some ⟨g, 0, none⟩) n c) (l.set k z) := by
  have hk : k < l.length := (List.getElem?_eq_some_iff.1 hx).1
  obtain ⟨h1, h2⟩ := h
  refine ⟨by simp, ?_⟩
  rcases h2 with ⟨hv, _⟩ | ⟨g', cap, cur, hv, hg, hh, hle, hcap, hsz, hxs⟩
  · cases hv
  · cases hv
    refine .inr ⟨g, c, cur.setIfInBounds k (.int .i64 z), by rw [List.length_set], hg, ?_, by simpa using hle, hcap, by simpa using hsz, ?_⟩
    · simp [World.setCell, Array.getElem?_modify, hh]
    · rw [Array.toList_setIfInBounds, List.take_set, List.length_set, hxs, List.map_set]
theorem own_block {v : Value} (h : IntsOut Q W v l) (h0 : 0 < l.length) : ∃ g c, v = .slice (some ⟨g, 0, none⟩) l.length c ∧ Q ≤ g := by
  rcases h.2 with ⟨_, h1⟩ | ⟨g, cap, cur, hv, hg, _⟩
  · omega
  · exact ⟨g, cap, hv, hg⟩
theorem MoR.put {g n c k : Nat} {x z : Int} (h : MoR w m Y0 Y1 Y2 Bp l K Q x1 x2 x3 x4 v1 l1 (.slice (some ⟨g, 0, none⟩) n c) l2 W) (hx : l2[k]? = some x) : MoR w m Y0 Y1 Y2 Bp l K Q x1 x2 x3 x4 v1 l1 (.slice (some ⟨g, 0, none⟩) n c) (l2.set k z) (W.setCell ⟨g, k, none⟩ (.int .i64 z)) := by
  have hQ : Q ≤ g := (World.ownsRow.lt h.o2 g rfl).1
  refine ⟨h.a.below (below_set (Below.refl Q W) hQ), ?_, own_put h.o2 hx, h.ap⟩
  exact own_grow h.o1 (grown_set W g k (.int .i64 z)) (fun r hr he => h.ap r hr (by rw [← he]; rfl))
end
/-- With a topping more the hollow is nowhere deeper. -/
theorem more_le {m : Md} {l a b : List Int} {n : Int} {x1 x2 x3 x4 a1 a2 a3 a4 : Int} (hx : HolOk m l x1 x2 x3 x4) (hn : 0 ≤ n) (hl : l = a ++ b) (ha : ∀ x ∈ a, x ≤ n) (hy : hollR m (a ++ n :: b) = (((a1, a2), (a3, a4)), 0)) : ¬ (x1 < a1) ∧ ¬ (x2 < a2) := by
  rcases holl_cases hy with ⟨h1, _⟩ | ⟨_, ho⟩
  · exact absurd rfl h1
  · obtain ⟨c, hc⟩ : ∃ c, wh m false = c := ⟨_, rfl⟩
    obtain ⟨d, hd⟩ : ∃ d, wh m true = d := ⟨_, rfl⟩
    have e1 := hx.e1
    have e2 := hx.e2
    have e3 := ho.e1
    have e4 := ho.e2
    rw [hc] at e1 e3
    rw [hd] at e2 e4
    subst hl
    have h1 := holl_le (pour_more hx.ok.toMdIn (w := c) (b := b) hn ha)
    have h2 := holl_le (pour_more hx.ok.toMdIn (w := d) (b := b) hn ha)
    omega
theorem later_le {m : Md} {l l2 : List Int} {x1 x2 x3 x4 a1 a2 a3 a4 : Int} (hx : HolOk m l x1 x2 x3 x4) (hlen : l.length = l2.length) (hle : ∀ (i : Nat) (a b : Int), l[i]? = some a → l2[i]? = some b → a ≤ b) (hy : hollR m l2 = (((a1, a2), (a3, a4)), 0)) : ¬ (x1 < a1) ∧ ¬ (x2 < a2) := by
  rcases holl_cases hy with ⟨h1, _⟩ | ⟨_, ho⟩
  · exact absurd rfl h1
  · obtain ⟨c, hc⟩ : ∃ c, wh m false = c := ⟨_, rfl⟩
    obtain ⟨d, hd⟩ : ∃ d, wh m true = d := ⟨_, rfl⟩
    have e1 := hx.e1
    have e2 := hx.e2
    have e3 := ho.e1
    have e4 := ho.e2
    rw [hc] at e1 e3
    rw [hd] at e2 e4
    have h1 := holl_le (pour_later hx.ok.toMdIn (w := c) hlen hle)
    have h2 := holl_le (pour_later hx.ok.toMdIn (w := d) hlen hle)
    omega
theorem set_le {l : List Int} {k : Nat} {x z : Int} (hx : l[k]? = some x) (hz : x ≤ z) : ∀ (i : Nat) (a b : Int), l[i]? = some a → (l.set k z)[i]? = some b → a ≤ b := by
  intro i a b ha hb
  rw [List.getElem?_set] at hb
  split at hb
  · rename_i h
    subst h
    rw [hx] at ha
    cases ha
    split at hb
    · cases hb; exact hz
    · cases hb
  · rw [ha] at hb
    cases hb
    exact Int.le_refl _
/-- What the first list is, so far. -/
structure InsI (l l1 : List Int) (n : Int) (pt : Bool) (k : Nat) : Prop where
  f : pt = false → l1 = l.take k ∧ ∀ x ∈ l.take k, x ≤ n
  t : pt = true → ∃ a b, l.take k = a ++ b ∧ l1 = a ++ n :: b ∧ ∀ x ∈ a, x ≤ n
theorem InsI.start (l : List Int) (n : Int) : InsI l [] n false 0 := ⟨fun _ => ⟨by simp, fun x hx => by simp at hx⟩, fun h => by cases h⟩
theorem InsI.stay {l l1 : List Int} {n x : Int} {k : Nat} (h : InsI l l1 n false k) (hx : l[k]? = some x) (hxn : x ≤ n) : InsI l (l1 ++ [x]) n false (k + 1) := by
  obtain ⟨h1, h2⟩ := h.f rfl
  have e : l.take (k + 1) = l.take k ++ [x] := by rw [List.take_add_one, hx]; rfl
  exact ⟨fun _ => ⟨by rw [e, h1], fun y hy => by
    rw [e] at hy
    rcases List.mem_append.1 hy with hy | hy
    · exact h2 y hy
    · simp at hy; omega⟩, fun h => by cases h⟩
theorem InsI.put {l l1 : List Int} {n x : Int} {k : Nat} (h : InsI l l1 n false k) (hx : l[k]? = some x) : InsI l (l1 ++ [n] ++ [x]) n true (k + 1) := by
  obtain ⟨h1, h2⟩ := h.f rfl
  have e : l.take (k + 1) = l.take k ++ [x] := by rw [List.take_add_one, hx]; rfl
  exact ⟨(fun h => by cases h), fun _ => ⟨l.take k, [x], e, by rw [h1]; simp, h2⟩⟩
theorem InsI.more {l l1 : List Int} {n x : Int} {k : Nat} (h : InsI l l1 n true k) (hx : l[k]? = some x) : InsI l (l1 ++ [x]) n true (k + 1) := by
  obtain ⟨a, b, h1, h2, h3⟩ := h.t rfl
  have e : l.take (k + 1) = l.take k ++ [x] := by rw [List.take_add_one, hx]; rfl
  exact ⟨(fun h => by cases h), fun _ => ⟨a, b ++ [x], by rw [e, h1]; simp, by rw [h2]; simp, h3⟩⟩
theorem InsI.len {l l1 : List Int} {n : Int} {pt : Bool} {k : Nat} (h : InsI l l1 n pt k) : l1.length ≤ l.length + 1 := by
  have h0 : (l.take k).length ≤ l.length := by rw [List.length_take]; omega
  cases pt with
  | false => rw [(h.f rfl).1]; omega
  | true =>
    obtain ⟨a, b, h1, h2, _⟩ := h.t rfl
    rw [h2]
    rw [h1] at h0
    simp at h0 ⊢
    omega
theorem InsI.end_ {l l1 : List Int} {n : Int} (h : InsI l l1 n true l.length) : ∃ a b, l = a ++ b ∧ l1 = a ++ n :: b ∧ ∀ x ∈ a, x ≤ n := by
  obtain ⟨a, b, h1, h2, h3⟩ := h.t rfl
  rw [List.take_length] at h1
  exact ⟨a, b, h1, h2, h3⟩
theorem InsI.last {l l1 : List Int} {n : Int} (h : InsI l l1 n false l.length) : ∃ a b, l = a ++ b ∧ l1 ++ [n] = a ++ n :: b ∧ ∀ x ∈ a, x ≤ n := by
  obtain ⟨h1, h2⟩ := h.f rfl
  rw [List.take_length] at h1 h2
  exact ⟨l, [], by simp, by rw [h1], h2⟩
end Go.Proofs.Ytljbjcnfkbmjkaa

namespace Go.Proofs.Ytljbjcnfkbmjkaa
open Go.RowKit Go.Shelf Go.Maps
attribute [local go_sem] Oper.semAt_some

/-- What each operation leaves. -/
def mo17R (w : World) (g2 k nl cp2 : Nat) (x Y2 : Int) : Nat → Value → World → Prop
  | 0, v, _ => v = .slice (some ⟨g2, 0, none⟩) nl cp2
  | 1, v, _ => v = .int .i64 (k : Int)
  | 2, v, _ => v = .slice (some ⟨g2, 0, none⟩) nl cp2
  | 3, v, _ => v = .int .i64 (k : Int)
  | 4, v, _ => v = .pointer (some ⟨g2, k, none⟩)
  | 5, v, _ => v = .int .i64 x
  | 6, v, _ => v = .pointer (some ⟨w.heap.size + 1, 2, none⟩)
  | 7, v, _ => v = .int .u16 Y2
  | 8, v, _ => v = .int .i64 Y2
  | 9, v, _ => v = .int .i64 (Y2 % 30)
  | 10, v, _ => v = .int .i64 (x + Y2 % 30)
  | 11, v, _ => v = .pointer (some ⟨g2, k, none⟩)
  | 12, _, _ => True
  | _, _, _ => True
theorem mo17R_on (w : World) (g2 k nl cp2 : Nat) (x Y2 : Int) : ∀ i, i < 13 → ∀ v W W', mo17R w g2 k nl cp2 x Y2 i v W → Below W.heap.size W W' → mo17R w g2 k nl cp2 x Y2 i v W' := by
  iterate 13 (refine all_succ ?_ ?_)
  · exact all_zero
  · exact fun _ _ _ h _ => h
  · exact fun _ _ _ h _ => h
  · exact fun _ _ _ h _ => h
  · exact fun _ _ _ h _ => h
  · exact fun _ _ _ h _ => h
  · exact fun _ _ _ h _ => h
  · exact fun _ _ _ h _ => h
  · exact fun _ _ _ h _ => h
  · exact fun _ _ _ h _ => h
  · exact fun _ _ _ h _ => h
  · exact fun _ _ _ h _ => h
  · exact fun _ _ _ h _ => h
  · exact fun _ _ _ h _ => h
set_option maxRecDepth 100000 in
set_option maxHeartbeats 8000000 in
theorem mo17_region {w : World} {m : Md} {Y0 Y1 Y2 : Int} {Bp : Option Addr} {l : List Int} {Kx : Nat} {x1 x2 x3 x4 : Int} {v1 : Value} {g2 k nl cp2 : Nat} {x : Int} {l1 l2 : List Int} {Q0 : Nat} (hx : l2[k]? = some x) (hkn : (k : Int) < nl) (hx0 : 0 ≤ x ∧ x ≤ 600) (hY : 0 ≤ Y2 ∧ Y2 ≤ 65535) {Q : Exit → Act → World → Prop} {s0 s1 s2 s3 s4 s6 s7 s8 s9 s10 s12 s13 s15 s16 s17 s18 s19 s20 s21 s22 s23 s24 s25 s26 s27 s28 s29 s30 s31 s32 s33 s34 s35 s36 s37 s38 s39 s40 s41 s42 s43 s44 s45 s46 s47 s48 s49 s50 s51 s52 s53 s54 s55 s56 s57 s58 s59 s60 s61 s62 s63 s64 s65 s66 s67 s68 s69 s70 s71 s72 s73 s74 s75 s76 s77 s78 s79 s80 s81 s82 s83 s84 s85 s98 s99 s100 s101 s102 s103 s104 s105 s106 s107 s108 s109 s110 s111 s112 s113 s114 s115 s116 s117 s118 s119 s120 s121 s122 s123 s124 s125 s126 s127 s128 s129 s130 s131 s132 s133 s134 s135 s136 s137 s138 s139 s140 s141 s142 s143 s144 s145 s146 s147 s148 s149 s150 s151 s152 : Value} {W0 : World} (HL : Hid ((MoR w m Y0 Y1 Y2 Bp l Kx Q0 x1 x2 x3 x4 v1 l1 (.slice (some ⟨g2, 0, none⟩) nl cp2) l2) W0))
    (HQ : Hid (∀ (u : Nat → Value) (W : World), (MoR w m Y0 Y1 Y2 Bp l Kx Q0 x1 x2 x3 x4 v1 l1 (.slice (some ⟨g2, 0, none⟩) nl cp2) (l2.set k (x + Y2 % 30))) W → Q .normal ⟨#[s0, s1, s2, s3, s4, .pointer (some ⟨w.heap.size + 1, 0, none⟩), s6, s7, s8, s9, s10, .slice (some ⟨g2, 0, none⟩) nl cp2, s12, s13, .int .i64 (k : Int), s15, s16, s17, s18, s19, s20, s21, s22, s23, s24, s25, s26, s27, s28, s29, s30, s31, s32, s33, s34, s35, s36, s37, s38, s39, s40, s41, s42, s43, s44, s45, s46, s47, s48, s49, s50, s51, s52, s53, s54, s55, s56, s57, s58, s59, s60, s61, s62, s63, s64, s65, s66, s67, s68, s69, s70, s71, s72, s73, s74, s75, s76, s77, s78, s79, s80, s81, s82, s83, s84, s85, u 0, u 1, u 2, u 3, u 4, u 5, u 6, u 7, u 8, u 9, u 10, u 11, s98, s99, s100, s101, s102, s103, s104, s105, s106, s107, s108, s109, s110, s111, s112, s113, s114, s115, s116, s117, s118, s119, s120, s121, s122, s123, s124, s125, s126, s127, s128, s129, s130, s131, s132, s133, s134, s135, s136, s137, s138, s139, s140, s141, s142, s143, s144, s145, s146, s147, s148, s149, s150, s151, s152], []⟩ W)) :
    Code.wp Try.prog ((Try.f15.body.bind (regionAt 17)).getD .skip) Q ⟨#[s0, s1, s2, s3, s4, .pointer (some ⟨w.heap.size + 1, 0, none⟩), s6, s7, s8, s9, s10, .slice (some ⟨g2, 0, none⟩) nl cp2, s12, s13, .int .i64 (k : Int), s15, s16, s17, s18, s19, s20, s21, s22, s23, s24, s25, s26, s27, s28, s29, s30, s31, s32, s33, s34, s35, s36, s37, s38, s39, s40, s41, s42, s43, s44, s45, s46, s47, s48, s49, s50, s51, s52, s53, s54, s55, s56, s57, s58, s59, s60, s61, s62, s63, s64, s65, s66, s67, s68, s69, s70, s71, s72, s73, s74, s75, s76, s77, s78, s79, s80, s81, s82, s83, s84, s85, undef, undef, undef, undef, undef, undef, undef, undef, undef, undef, undef, undef, s98, s99, s100, s101, s102, s103, s104, s105, s106, s107, s108, s109, s110, s111, s112, s113, s114, s115, s116, s117, s118, s119, s120, s121, s122, s123, s124, s125, s126, s127, s128, s129, s130, s131, s132, s133, s134, s135, s136, s137, s138, s139, s140, s141, s142, s143, s144, s145, s146, s147, s148, s149, s150, s151, s152], []⟩ W0 := by
  conv => arg 2; whnf
  refine wp_region_spec2 (by kernel_rfl) 13 (by kernel_rfl) (fun u => ⟨#[s0, s1, s2, s3, s4, .pointer (some ⟨w.heap.size + 1, 0, none⟩), s6, s7, s8, s9, s10, .slice (some ⟨g2, 0, none⟩) nl cp2, s12, s13, .int .i64 (k : Int), s15, s16, s17, s18, s19, s20, s21, s22, s23, s24, s25, s26, s27, s28, s29, s30, s31, s32, s33, s34, s35, s36, s37, s38, s39, s40, s41, s42, s43, s44, s45, s46, s47, s48, s49, s50, s51, s52, s53, s54, s55, s56, s57, s58, s59, s60, s61, s62, s63, s64, s65, s66, s67, s68, s69, s70, s71, s72, s73, s74, s75, s76, s77, s78, s79, s80, s81, s82, s83, s84, s85, u 0, u 1, u 2, u 3, u 4, u 5, u 6, u 7, u 8, u 9, u 10, u 11, s98, s99, s100, s101, s102, s103, s104, s105, s106, s107, s108, s109, s110, s111, s112, s113, s114, s115, s116, s117, s118, s119, s120, s121, s122, s123, s124, s125, s126, s127, s128, s129, s130, s131, s132, s133, s134, s135, s136, s137, s138, s139, s140, s141, s142, s143, s144, s145, s146, s147, s148, s149, s150, s151, s152], []⟩) (fun i => undef) (fun L W => Hid (sel1 (L 12) ((MoR w m Y0 Y1 Y2 Bp l Kx Q0 x1 x2 x3 x4 v1 l1 (.slice (some ⟨g2, 0, none⟩) nl cp2) l2)) ((MoR w m Y0 Y1 Y2 Bp l Kx Q0 x1 x2 x3 x4 v1 l1 (.slice (some ⟨g2, 0, none⟩) nl cp2) (l2.set k (x + Y2 % 30)))) W)) (mo17R w g2 k nl cp2 x Y2) (by kernel_rfl) ((fun (W : World) (W' : World) (h : (MoR w m Y0 Y1 Y2 Bp l Kx Q0 x1 x2 x3 x4 v1 l1 (.slice (some ⟨g2, 0, none⟩) nl cp2) l2) W) (hb : Below W.heap.size W W') => h.on hb) _ _ HL.out (Below.refl _ _).drew) (by decide +kernel) ?_ ?_
  · iterate 13 (refine all_succ ?_ ?_)
    · exact all_zero
    · intro L u W hB hi hC hd K hK
      have HK := Lib.hid hK; clear hK
      refine wpOp_of rfl (by rfl) ?_
      go_simp
      exact k_of (HK.out (.slice (some ⟨g2, 0, none⟩) nl cp2) _ rfl hB (fun _ _ _ _ h => h)) (by kernel_rfl)
    · intro L u W hB hi hC hd K hK
      have HK := Lib.hid hK; clear hK
      refine wpOp_of rfl (by rfl) ?_
      go_simp
      exact k_of (HK.out (.int .i64 (k : Int)) _ rfl hB (fun _ _ _ _ h => h)) (by kernel_rfl)
    · intro L u W hB hi hC hd K hK
      have HK := Lib.hid hK; clear hK
      refine wpOp_of rfl (by rfl) ?_
      go_simp
      exact k_of (HK.out (.slice (some ⟨g2, 0, none⟩) nl cp2) _ rfl hB (fun _ _ _ _ h => h)) (by kernel_rfl)
    · intro L u W hB hi hC hd K hK
      have HK := Lib.hid hK; clear hK
      refine wpOp_of rfl (by rfl) ?_
      go_simp
      exact k_of (HK.out (.int .i64 (k : Int)) _ rfl hB (fun _ _ _ _ h => h)) (by kernel_rfl)
    · intro L u W hB hi hC hd K hK
      have HK := Lib.hid hK; clear hK
      have e2 : u 2 = .slice (some ⟨g2, 0, none⟩) nl cp2 := (hd 2 (by decide +kernel)).2
      have e3 : u 3 = .int .i64 (k : Int) := (hd 3 (by decide +kernel)).2
      refine wpOp_of rfl (by rfl) ?_
      go_simp
      exact k_of (HK.out (.pointer (some ⟨g2, k, none⟩)) _ rfl hB (fun _ _ _ _ h => h)) (by rw [← u1_eq e2, ← u1_eq e3]; kernel_rfl)
    · intro L u W hB hi hC hd K hK
      have HK := Lib.hid hK; clear hK
      have h12 : L 12 = false := by
        cases h : L 12 with
        | false => rfl
        | true => exact absurd (hC 12 (by decide) h 5 (by decide +kernel)) (by rw [hi]; decide)
      have hM : (MoR w m Y0 Y1 Y2 Bp l Kx Q0 x1 x2 x3 x4 v1 l1 (.slice (some ⟨g2, 0, none⟩) nl cp2) l2) W := by
        have h := hB.out
        rw [h12] at h
        exact h
      have hN : ∀ W', (MoR w m Y0 Y1 Y2 Bp l Kx Q0 x1 x2 x3 x4 v1 l1 (.slice (some ⟨g2, 0, none⟩) nl cp2) l2) W' → Hid (sel1 (setL L 5 12) ((MoR w m Y0 Y1 Y2 Bp l Kx Q0 x1 x2 x3 x4 v1 l1 (.slice (some ⟨g2, 0, none⟩) nl cp2) l2)) ((MoR w m Y0 Y1 Y2 Bp l Kx Q0 x1 x2 x3 x4 v1 l1 (.slice (some ⟨g2, 0, none⟩) nl cp2) (l2.set k (x + Y2 % 30)))) W') := fun W' h => by
        show Hid (sel1 (L 12) ((MoR w m Y0 Y1 Y2 Bp l Kx Q0 x1 x2 x3 x4 v1 l1 (.slice (some ⟨g2, 0, none⟩) nl cp2) l2)) ((MoR w m Y0 Y1 Y2 Bp l Kx Q0 x1 x2 x3 x4 v1 l1 (.slice (some ⟨g2, 0, none⟩) nl cp2) (l2.set k (x + Y2 % 30)))) W')
        rw [h12]
        exact h
      clear hB
      have hB := Lib.hid hM
      clear hM
      have e4 : u 4 = .pointer (some ⟨g2, k, none⟩) := (hd 4 (by decide +kernel)).2
      refine wpOp_of rfl (by rfl) ?_
      have dx := own_cell hB.out.o2 hx
      go_simp
      exact k_of (HK.out (.int .i64 x) _ rfl (hN _ hB.out) (fun _ _ _ _ h => h)) (by rw [← u1_eq e4]; kernel_rfl)
    · intro L u W hB hi hC hd K hK
      have HK := Lib.hid hK; clear hK
      refine wpOp_of rfl (by rfl) ?_
      go_simp
      exact k_of (HK.out (.pointer (some ⟨w.heap.size + 1, 2, none⟩)) _ rfl hB (fun _ _ _ _ h => h)) (by kernel_rfl)
    · intro L u W hB hi hC hd K hK
      have HK := Lib.hid hK; clear hK
      have h12 : L 12 = false := by
        cases h : L 12 with
        | false => rfl
        | true => exact absurd (hC 12 (by decide) h 7 (by decide +kernel)) (by rw [hi]; decide)
      have hM : (MoR w m Y0 Y1 Y2 Bp l Kx Q0 x1 x2 x3 x4 v1 l1 (.slice (some ⟨g2, 0, none⟩) nl cp2) l2) W := by
        have h := hB.out
        rw [h12] at h
        exact h
      have hN : ∀ W', (MoR w m Y0 Y1 Y2 Bp l Kx Q0 x1 x2 x3 x4 v1 l1 (.slice (some ⟨g2, 0, none⟩) nl cp2) l2) W' → Hid (sel1 (setL L 7 12) ((MoR w m Y0 Y1 Y2 Bp l Kx Q0 x1 x2 x3 x4 v1 l1 (.slice (some ⟨g2, 0, none⟩) nl cp2) l2)) ((MoR w m Y0 Y1 Y2 Bp l Kx Q0 x1 x2 x3 x4 v1 l1 (.slice (some ⟨g2, 0, none⟩) nl cp2) (l2.set k (x + Y2 % 30)))) W') := fun W' h => by
        show Hid (sel1 (L 12) ((MoR w m Y0 Y1 Y2 Bp l Kx Q0 x1 x2 x3 x4 v1 l1 (.slice (some ⟨g2, 0, none⟩) nl cp2) l2)) ((MoR w m Y0 Y1 Y2 Bp l Kx Q0 x1 x2 x3 x4 v1 l1 (.slice (some ⟨g2, 0, none⟩) nl cp2) (l2.set k (x + Y2 % 30)))) W')
        rw [h12]
        exact h
      clear hB
      have hB := Lib.hid hM
      clear hM
      have e6 : u 6 = .pointer (some ⟨w.heap.size + 1, 2, none⟩) := (hd 6 (by decide +kernel)).2
      refine wpOp_of rfl (by rfl) ?_
      have d2 := hB.out.a.y.cell 2
      go_simp
      exact k_of (HK.out (.int .u16 Y2) _ rfl (hN _ hB.out) (fun _ _ _ _ h => h)) (by rw [← u1_eq e6]; kernel_rfl)
    · intro L u W hB hi hC hd K hK
      have HK := Lib.hid hK; clear hK
      have h12 : L 12 = false := by
        cases h : L 12 with
        | false => rfl
        | true => exact absurd (hC 12 (by decide) h 8 (by decide +kernel)) (by rw [hi]; decide)
      have hM : (MoR w m Y0 Y1 Y2 Bp l Kx Q0 x1 x2 x3 x4 v1 l1 (.slice (some ⟨g2, 0, none⟩) nl cp2) l2) W := by
        have h := hB.out
        rw [h12] at h
        exact h
      have hN : ∀ W', (MoR w m Y0 Y1 Y2 Bp l Kx Q0 x1 x2 x3 x4 v1 l1 (.slice (some ⟨g2, 0, none⟩) nl cp2) l2) W' → Hid (sel1 (setL L 8 12) ((MoR w m Y0 Y1 Y2 Bp l Kx Q0 x1 x2 x3 x4 v1 l1 (.slice (some ⟨g2, 0, none⟩) nl cp2) l2)) ((MoR w m Y0 Y1 Y2 Bp l Kx Q0 x1 x2 x3 x4 v1 l1 (.slice (some ⟨g2, 0, none⟩) nl cp2) (l2.set k (x + Y2 % 30)))) W') := fun W' h => by
        show Hid (sel1 (L 12) ((MoR w m Y0 Y1 Y2 Bp l Kx Q0 x1 x2 x3 x4 v1 l1 (.slice (some ⟨g2, 0, none⟩) nl cp2) l2)) ((MoR w m Y0 Y1 Y2 Bp l Kx Q0 x1 x2 x3 x4 v1 l1 (.slice (some ⟨g2, 0, none⟩) nl cp2) (l2.set k (x + Y2 % 30)))) W')
        rw [h12]
        exact h
      clear hB
      have hB := Lib.hid hM
      clear hM
      have e7 : u 7 = .int .u16 Y2 := (hd 7 (by decide +kernel)).2
      refine wpOp_of rfl (by rfl) ?_
      have hw : IntKind.i64.wrap Y2 = Y2 := IntWalk.i64_in _ (by omega)
      go_simp
      exact k_of (HK.out (.int .i64 Y2) _ rfl (hN _ hB.out) (fun _ _ _ _ h => h)) (by rw [← u1_eq e7]; kernel_rfl)
    · intro L u W hB hi hC hd K hK
      have HK := Lib.hid hK; clear hK
      have h12 : L 12 = false := by
        cases h : L 12 with
        | false => rfl
        | true => exact absurd (hC 12 (by decide) h 9 (by decide +kernel)) (by rw [hi]; decide)
      have hM : (MoR w m Y0 Y1 Y2 Bp l Kx Q0 x1 x2 x3 x4 v1 l1 (.slice (some ⟨g2, 0, none⟩) nl cp2) l2) W := by
        have h := hB.out
        rw [h12] at h
        exact h
      have hN : ∀ W', (MoR w m Y0 Y1 Y2 Bp l Kx Q0 x1 x2 x3 x4 v1 l1 (.slice (some ⟨g2, 0, none⟩) nl cp2) l2) W' → Hid (sel1 (setL L 9 12) ((MoR w m Y0 Y1 Y2 Bp l Kx Q0 x1 x2 x3 x4 v1 l1 (.slice (some ⟨g2, 0, none⟩) nl cp2) l2)) ((MoR w m Y0 Y1 Y2 Bp l Kx Q0 x1 x2 x3 x4 v1 l1 (.slice (some ⟨g2, 0, none⟩) nl cp2) (l2.set k (x + Y2 % 30)))) W') := fun W' h => by
        show Hid (sel1 (L 12) ((MoR w m Y0 Y1 Y2 Bp l Kx Q0 x1 x2 x3 x4 v1 l1 (.slice (some ⟨g2, 0, none⟩) nl cp2) l2)) ((MoR w m Y0 Y1 Y2 Bp l Kx Q0 x1 x2 x3 x4 v1 l1 (.slice (some ⟨g2, 0, none⟩) nl cp2) (l2.set k (x + Y2 % 30)))) W')
        rw [h12]
        exact h
      clear hB
      have hB := Lib.hid hM
      clear hM
      have e8 : u 8 = .int .i64 Y2 := (hd 8 (by decide +kernel)).2
      refine wpOp_of rfl (by rfl) ?_
      have hw : Y2.tmod 30 = Y2 % 30 := Int.tmod_eq_emod_of_nonneg hY.1
      go_simp
      exact k_of (HK.out (.int .i64 (Y2 % 30)) _ rfl (hN _ hB.out) (fun _ _ _ _ h => h)) (by rw [← u1_eq e8]; kernel_rfl)
    · intro L u W hB hi hC hd K hK
      have HK := Lib.hid hK; clear hK
      have h12 : L 12 = false := by
        cases h : L 12 with
        | false => rfl
        | true => exact absurd (hC 12 (by decide) h 10 (by decide +kernel)) (by rw [hi]; decide)
      have hM : (MoR w m Y0 Y1 Y2 Bp l Kx Q0 x1 x2 x3 x4 v1 l1 (.slice (some ⟨g2, 0, none⟩) nl cp2) l2) W := by
        have h := hB.out
        rw [h12] at h
        exact h
      have hN : ∀ W', (MoR w m Y0 Y1 Y2 Bp l Kx Q0 x1 x2 x3 x4 v1 l1 (.slice (some ⟨g2, 0, none⟩) nl cp2) l2) W' → Hid (sel1 (setL L 10 12) ((MoR w m Y0 Y1 Y2 Bp l Kx Q0 x1 x2 x3 x4 v1 l1 (.slice (some ⟨g2, 0, none⟩) nl cp2) l2)) ((MoR w m Y0 Y1 Y2 Bp l Kx Q0 x1 x2 x3 x4 v1 l1 (.slice (some ⟨g2, 0, none⟩) nl cp2) (l2.set k (x + Y2 % 30)))) W') := fun W' h => by
        show Hid (sel1 (L 12) ((MoR w m Y0 Y1 Y2 Bp l Kx Q0 x1 x2 x3 x4 v1 l1 (.slice (some ⟨g2, 0, none⟩) nl cp2) l2)) ((MoR w m Y0 Y1 Y2 Bp l Kx Q0 x1 x2 x3 x4 v1 l1 (.slice (some ⟨g2, 0, none⟩) nl cp2) (l2.set k (x + Y2 % 30)))) W')
        rw [h12]
        exact h
      clear hB
      have hB := Lib.hid hM
      clear hM
      have e5 : u 5 = .int .i64 x := (hd 5 (by decide +kernel)).2
      have e9 : u 9 = .int .i64 (Y2 % 30) := (hd 9 (by decide +kernel)).2
      refine wpOp_of rfl (by rfl) ?_
      have hw : IntKind.i64.wrap (x + Y2 % 30) = x + Y2 % 30 := IntWalk.i64_in _ (by omega)
      go_simp
      exact k_of (HK.out (.int .i64 (x + Y2 % 30)) _ rfl (hN _ hB.out) (fun _ _ _ _ h => h)) (by rw [← u1_eq e5, ← u1_eq e9]; kernel_rfl)
    · intro L u W hB hi hC hd K hK
      have HK := Lib.hid hK; clear hK
      have e0 : u 0 = .slice (some ⟨g2, 0, none⟩) nl cp2 := (hd 0 (by decide +kernel)).2
      have e1 : u 1 = .int .i64 (k : Int) := (hd 1 (by decide +kernel)).2
      refine wpOp_of rfl (by rfl) ?_
      go_simp
      exact k_of (HK.out (.pointer (some ⟨g2, k, none⟩)) _ rfl hB (fun _ _ _ _ h => h)) (by rw [← u1_eq e0, ← u1_eq e1]; kernel_rfl)
    · intro L u W hB hi hC hd K hK
      have HK := Lib.hid hK; clear hK
      have h12 : L 12 = false := hi
      have hM : (MoR w m Y0 Y1 Y2 Bp l Kx Q0 x1 x2 x3 x4 v1 l1 (.slice (some ⟨g2, 0, none⟩) nl cp2) l2) W := by
        have h := hB.out
        rw [h12] at h
        exact h
      have hN : ∀ W', (MoR w m Y0 Y1 Y2 Bp l Kx Q0 x1 x2 x3 x4 v1 l1 (.slice (some ⟨g2, 0, none⟩) nl cp2) (l2.set k (x + Y2 % 30))) W' → Hid (sel1 (setL L 12 12) ((MoR w m Y0 Y1 Y2 Bp l Kx Q0 x1 x2 x3 x4 v1 l1 (.slice (some ⟨g2, 0, none⟩) nl cp2) l2)) ((MoR w m Y0 Y1 Y2 Bp l Kx Q0 x1 x2 x3 x4 v1 l1 (.slice (some ⟨g2, 0, none⟩) nl cp2) (l2.set k (x + Y2 % 30)))) W') := fun W' h => by
        show Hid (sel1 true ((MoR w m Y0 Y1 Y2 Bp l Kx Q0 x1 x2 x3 x4 v1 l1 (.slice (some ⟨g2, 0, none⟩) nl cp2) l2)) ((MoR w m Y0 Y1 Y2 Bp l Kx Q0 x1 x2 x3 x4 v1 l1 (.slice (some ⟨g2, 0, none⟩) nl cp2) (l2.set k (x + Y2 % 30)))) W')
        exact h
      clear hB
      have hB := Lib.hid hM
      clear hM
      have e11 : u 11 = .pointer (some ⟨g2, k, none⟩) := (hd 11 (by decide +kernel)).2
      have e10 : u 10 = .int .i64 (x + Y2 % 30) := (hd 10 (by decide +kernel)).2
      refine wpOp_of rfl (by rfl) ?_
      obtain ⟨dx, fx, lx⟩ := own_cell3 hB.out.o2 hx
      go_simp
      exact k_of (HK.out undef _ trivial (hN _ (hB.out.put hx)) (fun j v hj h1 h2 => by
        have hkeep : ∀ j, j < 13 → ∀ v, mo17R w g2 k nl cp2 x Y2 j v W → mo17R w g2 k nl cp2 x Y2 j v (W.setCell ⟨g2, k, none⟩ (.int .i64 (x + Y2 % 30))) := by
          iterate 13 (refine all_succ ?_ ?_)
          · exact all_zero
          all_goals exact fun _ h => h
        exact hkeep j hj v h2)) (by rw [← u1_eq e11, ← u1_eq e10]; kernel_rfl)
  · intro L u W hL hB hd
    have hM : (MoR w m Y0 Y1 Y2 Bp l Kx Q0 x1 x2 x3 x4 v1 l1 (.slice (some ⟨g2, 0, none⟩) nl cp2) (l2.set k (x + Y2 % 30))) W := by
      have h := hB.out
      rw [hL 12 (by decide)] at h
      exact h
    exact k_of (HQ.out u W hM) (rfl)
end Go.Proofs.Ytljbjcnfkbmjkaa
