/- mould.truthError: contract. -/
import Derived.Test.YtljbjcnfkbmjkaaMdh
namespace Go.Proofs.Ytljbjcnfkbmjkaa
open Go.RowKit Go.Shelf

/-- The error of a truth, of any mould. -/
def truthV (m : Md) (ps ws : List Int) : Int := if (ps.length : Int) ≠ m.rings ∨ 600 < ws.length then 3 else orE [rangeE m.plo m.phi ps, rangeE m.wlo m.whi ws]
theorem truthV_eq {m : Md} (hm : MdIn m) (ps ws : List Int) : truthV m ps ws = truthE m ps ws := by
  unfold truthV truthE
  have h := kR_eq hm
  by_cases h1 : ps.length ≠ kR m ∨ 600 < ws.length
  · rw [if_pos h1, if_pos (by omega)]
  · rw [if_neg h1, if_neg (by omega)]
    unfold rangeE
    cases ps.all (fun x => inB x m.plo m.phi) <;> cases ws.all (fun x => inB x m.wlo m.whi) <;> simp [orE]
structure TrB (w : World) (m : Md) (A1 A2 : Option Addr) (c1 c2 : Nat) (ps ws : List Int) (W : World) : Prop where
  b0 : Blk W w.heap.size 25 #[.int .i64 m.rings, .int .i64 m.give, .int .i64 m.plo, .int .i64 m.phi, .int .i64 m.wlo, .int .i64 m.whi, .int .i64 m.st, .int .i64 m.shrink, .int .i64 m.skin, .int .i64 m.fill, .int .i64 m.gap, .int .i64 m.deep]
  b1 : Blk W (w.heap.size + 1) 28 #[.slice A1 ps.length c1, .slice A2 ws.length c2]
  p : IntsIn W A1 ps
  q : IntsIn W A2 ws
  b : Below w.heap.size w W
theorem TrB.on {w W W' : World} {m : Md} {A1 A2 : Option Addr} {c1 c2 : Nat} {ps ws : List Int} (h : TrB w m A1 A2 c1 c2 ps ws W) (hb : Below W.heap.size W W') : TrB w m A1 A2 c1 c2 ps ws W' :=
  ⟨h.b0.on hb, h.b1.on hb, h.p.on hb, h.q.on hb, h.b.trans (hb.mono h.b.size)⟩
/-- What each operation of the region leaves. -/
def truR (w : World) (m : Md) (A1 A2 : Option Addr) (c1 c2 : Nat) (ps ws : List Int) : Nat → Value → World → Prop
  | 0, v, _ => v = .pointer (some ⟨w.heap.size, 2, none⟩)
  | 1, v, _ => v = .pointer (some ⟨w.heap.size, 2, none⟩)
  | 2, v, _ => v = .int .i64 m.plo
  | 3, v, _ => v = .pointer (some ⟨w.heap.size, 2, none⟩)
  | 4, v, _ => v = .pointer (some ⟨w.heap.size, 3, none⟩)
  | 5, v, _ => v = .int .i64 m.phi
  | 6, v, _ => v = .pointer (some ⟨w.heap.size + 1, 0, none⟩)
  | 7, v, _ => v = .slice A1 ps.length c1
  | 8, v, _ => v = .int .i64 (rangeE m.plo m.phi ps)
  | 9, v, _ => v = .pointer (some ⟨w.heap.size, 4, none⟩)
  | 10, v, _ => v = .pointer (some ⟨w.heap.size, 4, none⟩)
  | 11, v, _ => v = .int .i64 m.wlo
  | 12, v, _ => v = .pointer (some ⟨w.heap.size, 4, none⟩)
  | 13, v, _ => v = .pointer (some ⟨w.heap.size, 5, none⟩)
  | 14, v, _ => v = .int .i64 m.whi
  | 15, v, _ => v = .pointer (some ⟨w.heap.size + 1, 1, none⟩)
  | 16, v, _ => v = .slice A2 ws.length c2
  | 17, v, _ => v = .int .i64 (rangeE m.wlo m.whi ws)
  | 18, v, W => ∃ b, v = .slice (some ⟨b, 0, none⟩) 2 2 ∧ IntsIn W (some ⟨b, 0, none⟩) [rangeE m.plo m.phi ps, rangeE m.wlo m.whi ws]
  | 19, v, _ => v = .int .i64 (orE [rangeE m.plo m.phi ps, rangeE m.wlo m.whi ws])
  | 20, v, _ => v = .int .i64 (orE [rangeE m.plo m.phi ps, rangeE m.wlo m.whi ws])
  | _, _, _ => True
theorem truR_on (w : World) (m : Md) (A1 A2 : Option Addr) (c1 c2 : Nat) (ps ws : List Int) : ∀ i, i < 21 → ∀ v W W', truR w m A1 A2 c1 c2 ps ws i v W → Below W.heap.size W W' → truR w m A1 A2 c1 c2 ps ws i v W' := by
  iterate 21 (refine all_succ ?_ ?_)
  · exact all_zero
  · exact fun _ _ _ h _ => h
  · exact fun _ _ _ h _ => h
  · exact fun _ _ _ h _ => h
  · exact fun _ _ _ h _ => h
  · exact fun _ _ _ h _ => h
  · exact fun _ _ _ h _ => h
  · exact fun _ _ _ h _ => h
  · exact fun _ _ _ h _ => h
  · exact fun _ _ _ h _ => h
  · exact fun _ _ _ h _ => h
  · exact fun _ _ _ h _ => h
  · exact fun _ _ _ h _ => h
  · exact fun _ _ _ h _ => h
  · exact fun _ _ _ h _ => h
  · exact fun _ _ _ h _ => h
  · exact fun _ _ _ h _ => h
  · exact fun _ _ _ h _ => h
  · exact fun _ _ _ h _ => h
  · rintro v W W' ⟨b, e, h⟩ hb; exact ⟨b, e, h.on hb⟩
  · exact fun _ _ _ h _ => h
  · exact fun _ _ _ h _ => h

set_option maxRecDepth 100000 in
set_option maxHeartbeats 8000000 in
theorem truth_any {w : World} (m : Md) {A1 A2 : Option Addr} {c1 c2 : Nat} {ps ws : List Int} (hp : IntsIn w A1 ps) (hq : IntsIn w A2 ws) :
    Calls Try.prog 53 #[.agg #[.int .i64 m.rings, .int .i64 m.give, .int .i64 m.plo, .int .i64 m.phi, .int .i64 m.wlo, .int .i64 m.whi, .int .i64 m.st, .int .i64 m.shrink, .int .i64 m.skin, .int .i64 m.fill, .int .i64 m.gap, .int .i64 m.deep], .agg #[.slice A1 ps.length c1, .slice A2 ws.length c2]] w fun e w' => e = .returned (.int .i64 (truthV m ps ws)) ∧ Below w.heap.size w w' := by
  have HM : Hid (TrB w m A1 A2 c1 c2 ps ws ((w.alloc (.cells #[.int .i64 m.rings, .int .i64 m.give, .int .i64 m.plo, .int .i64 m.phi, .int .i64 m.wlo, .int .i64 m.whi, .int .i64 m.st, .int .i64 m.shrink, .int .i64 m.skin, .int .i64 m.fill, .int .i64 m.gap, .int .i64 m.deep] 25)).alloc (.cells #[.slice A1 ps.length c1, .slice A2 ws.length c2] 28))) := by
    have hb0 : Below w.heap.size w ((w.alloc (.cells #[.int .i64 m.rings, .int .i64 m.give, .int .i64 m.plo, .int .i64 m.phi, .int .i64 m.wlo, .int .i64 m.whi, .int .i64 m.st, .int .i64 m.shrink, .int .i64 m.skin, .int .i64 m.fill, .int .i64 m.gap, .int .i64 m.deep] 25)).alloc (.cells #[.slice A1 ps.length c1, .slice A2 ws.length c2] 28)) := ((Below.refl _ w).alloc (Nat.le_refl _) _).alloc (by simp) _
    exact ⟨(Blk.new w _ _).alloc _, Blk.new1 w _ _ _, hp.on hb0, hq.on hb0, hb0⟩
  clear hp hq
  by_cases h1 : (ps.length : Int) = m.rings
  · by_cases h2 : 600 < (ws.length : Int)
    · have HE := Lib.hid (show truthV m ps ws = 3 by unfold truthV; rw [if_pos (by omega)])
      go_enter Try.func53, Try.ntmps53
      go_wp2_with fail
      go_ret
      exact ⟨ret_i64 HE.out.symm, HM.out.b⟩
    · have HE := Lib.hid (show truthV m ps ws = orE [rangeE m.plo m.phi ps, rangeE m.wlo m.whi ws] by unfold truthV; rw [if_neg (by omega)])
      go_enter Try.func53, Try.ntmps53
      go_wp2_with fail
      refine wp_region_spec (by kernel_rfl) 21 (by kernel_rfl) (fun u => ⟨#[.agg #[.int .i64 m.rings, .int .i64 m.give, .int .i64 m.plo, .int .i64 m.phi, .int .i64 m.wlo, .int .i64 m.whi, .int .i64 m.st, .int .i64 m.shrink, .int .i64 m.skin, .int .i64 m.fill, .int .i64 m.gap, .int .i64 m.deep], .agg #[.slice A1 ps.length c1, .slice A2 ws.length c2], .pointer (some ⟨w.heap.size, 0, none⟩), .pointer (some ⟨w.heap.size + 1, 0, none⟩), u 20, .pointer (some ⟨w.heap.size + 1, 0, none⟩), .slice A1 ps.length c1, .int .i64 m.rings, .pointer (some ⟨w.heap.size, 0, none⟩), .int .i64 m.rings, .bool false, .bool false, .pointer (some ⟨w.heap.size + 1, 1, none⟩), .slice A2 ws.length c2, .int .i64 ws.length, .bool false, .bool false, u 0, u 1, u 2, u 3, u 4, u 5, u 6, u 7, u 8, u 9, u 10, u 11, u 12, u 13, u 14, u 15, u 16, u 17, u 18, u 19], []⟩) (fun i => if i = 20 then .int .i64 0 else undef) (fun W => Hid (TrB w m A1 A2 c1 c2 ps ws W)) (truR w m A1 A2 c1 c2 ps ws) (by kernel_rfl) (HM.out.on (Below.refl _ _).drew) (fun i v W W2 hi h hb => truR_on w m A1 A2 c1 c2 ps ws i hi v W W2 h hb) (by decide +kernel) ?_ ?_
      · iterate 21 (refine all_succ ?_ ?_)
        · exact all_zero
        · intro u W hB _ hd _ K hK
          have HK := Lib.hid hK; clear hK
          refine wpOp_of rfl (by rfl) ?_
          go_simp
          exact k_of (HK.out (.pointer (some ⟨w.heap.size, 2, none⟩)) _ rfl hB (Below.refl _ _)) (by kernel_rfl)
        · intro u W hB _ hd _ K hK
          have HK := Lib.hid hK; clear hK
          have e0 : u 0 = .pointer (some ⟨w.heap.size, 2, none⟩) := hd 0 (by decide +kernel)
          refine wpOp_of rfl (by rfl) ?_
          go_simp
          exact k_of (HK.out (.pointer (some ⟨w.heap.size, 2, none⟩)) _ rfl hB (Below.refl _ _)) (by rw [← u1_eq e0]; kernel_rfl)
        · intro u W hB _ hd _ K hK
          have HK := Lib.hid hK; clear hK
          have e1 : u 1 = .pointer (some ⟨w.heap.size, 2, none⟩) := hd 1 (by decide +kernel)
          refine wpOp_of rfl (by rfl) ?_
          have HC := Lib.hid hB; obtain ⟨c0, c1x, c2x, c3, c4, c5, c6, c7, c8, c9, c10, c11⟩ := (MdBk.cells ⟨hB.out.b0, hB.out.b⟩); have d0 := hB.out.b1.cell 0; have d1 := hB.out.b1.cell 1; clear HC
          go_simp
          exact k_of (HK.out (.int .i64 m.plo) _ rfl hB (Below.refl _ _)) (by rw [← u1_eq e1]; kernel_rfl)
        · intro u W hB _ hd _ K hK
          have HK := Lib.hid hK; clear hK
          refine wpOp_of rfl (by rfl) ?_
          go_simp
          exact k_of (HK.out (.pointer (some ⟨w.heap.size, 2, none⟩)) _ rfl hB (Below.refl _ _)) (by kernel_rfl)
        · intro u W hB _ hd _ K hK
          have HK := Lib.hid hK; clear hK
          have e3 : u 3 = .pointer (some ⟨w.heap.size, 2, none⟩) := hd 3 (by decide +kernel)
          refine wpOp_of rfl (by rfl) ?_
          go_simp
          exact k_of (HK.out (.pointer (some ⟨w.heap.size, 3, none⟩)) _ rfl hB (Below.refl _ _)) (by rw [← u1_eq e3]; kernel_rfl)
        · intro u W hB _ hd _ K hK
          have HK := Lib.hid hK; clear hK
          have e4 : u 4 = .pointer (some ⟨w.heap.size, 3, none⟩) := hd 4 (by decide +kernel)
          refine wpOp_of rfl (by rfl) ?_
          have HC := Lib.hid hB; obtain ⟨c0, c1x, c2x, c3, c4, c5, c6, c7, c8, c9, c10, c11⟩ := (MdBk.cells ⟨hB.out.b0, hB.out.b⟩); have d0 := hB.out.b1.cell 0; have d1 := hB.out.b1.cell 1; clear HC
          go_simp
          exact k_of (HK.out (.int .i64 m.phi) _ rfl hB (Below.refl _ _)) (by rw [← u1_eq e4]; kernel_rfl)
        · intro u W hB _ hd _ K hK
          have HK := Lib.hid hK; clear hK
          refine wpOp_of rfl (by rfl) ?_
          go_simp
          exact k_of (HK.out (.pointer (some ⟨w.heap.size + 1, 0, none⟩)) _ rfl hB (Below.refl _ _)) (by kernel_rfl)
        · intro u W hB _ hd _ K hK
          have HK := Lib.hid hK; clear hK
          have e6 : u 6 = .pointer (some ⟨w.heap.size + 1, 0, none⟩) := hd 6 (by decide +kernel)
          refine wpOp_of rfl (by rfl) ?_
          have HC := Lib.hid hB; obtain ⟨c0, c1x, c2x, c3, c4, c5, c6, c7, c8, c9, c10, c11⟩ := (MdBk.cells ⟨hB.out.b0, hB.out.b⟩); have d0 := hB.out.b1.cell 0; have d1 := hB.out.b1.cell 1; clear HC
          go_simp
          exact k_of (HK.out (.slice A1 ps.length c1) _ rfl hB (Below.refl _ _)) (by rw [← u1_eq e6]; kernel_rfl)
        · intro u W hB _ hd _ K hK
          have HK := Lib.hid hK; clear hK
          have e2 : u 2 = .int .i64 m.plo := hd 2 (by decide +kernel)
          have e5 : u 5 = .int .i64 m.phi := hd 5 (by decide +kernel)
          have e7 : u 7 = .slice A1 ps.length c1 := hd 7 (by decide +kernel)
          refine wpOp_of rfl (by rfl) ?_
          go_simp
          refine (range_any (c := c1) m.plo m.phi hB.out.p).mono ?_
          rintro e w' ⟨rfl, hw'⟩
          subst hw'
          exact k_of (HK.out (.int .i64 (rangeE m.plo m.phi ps)) _ rfl hB (Below.refl _ _)) (by rw [← u1_eq e2, ← u1_eq e5, ← u1_eq e7]; kernel_rfl)
        · intro u W hB _ hd _ K hK
          have HK := Lib.hid hK; clear hK
          refine wpOp_of rfl (by rfl) ?_
          go_simp
          exact k_of (HK.out (.pointer (some ⟨w.heap.size, 4, none⟩)) _ rfl hB (Below.refl _ _)) (by kernel_rfl)
        · intro u W hB _ hd _ K hK
          have HK := Lib.hid hK; clear hK
          have e9 : u 9 = .pointer (some ⟨w.heap.size, 4, none⟩) := hd 9 (by decide +kernel)
          refine wpOp_of rfl (by rfl) ?_
          go_simp
          exact k_of (HK.out (.pointer (some ⟨w.heap.size, 4, none⟩)) _ rfl hB (Below.refl _ _)) (by rw [← u1_eq e9]; kernel_rfl)
        · intro u W hB _ hd _ K hK
          have HK := Lib.hid hK; clear hK
          have e10 : u 10 = .pointer (some ⟨w.heap.size, 4, none⟩) := hd 10 (by decide +kernel)
          refine wpOp_of rfl (by rfl) ?_
          have HC := Lib.hid hB; obtain ⟨c0, c1x, c2x, c3, c4, c5, c6, c7, c8, c9, c10, c11⟩ := (MdBk.cells ⟨hB.out.b0, hB.out.b⟩); have d0 := hB.out.b1.cell 0; have d1 := hB.out.b1.cell 1; clear HC
          go_simp
          exact k_of (HK.out (.int .i64 m.wlo) _ rfl hB (Below.refl _ _)) (by rw [← u1_eq e10]; kernel_rfl)
        · intro u W hB _ hd _ K hK
          have HK := Lib.hid hK; clear hK
          refine wpOp_of rfl (by rfl) ?_
          go_simp
          exact k_of (HK.out (.pointer (some ⟨w.heap.size, 4, none⟩)) _ rfl hB (Below.refl _ _)) (by kernel_rfl)
        · intro u W hB _ hd _ K hK
          have HK := Lib.hid hK; clear hK
          have e12 : u 12 = .pointer (some ⟨w.heap.size, 4, none⟩) := hd 12 (by decide +kernel)
          refine wpOp_of rfl (by rfl) ?_
          go_simp
          exact k_of (HK.out (.pointer (some ⟨w.heap.size, 5, none⟩)) _ rfl hB (Below.refl _ _)) (by rw [← u1_eq e12]; kernel_rfl)
        · intro u W hB _ hd _ K hK
          have HK := Lib.hid hK; clear hK
          have e13 : u 13 = .pointer (some ⟨w.heap.size, 5, none⟩) := hd 13 (by decide +kernel)
          refine wpOp_of rfl (by rfl) ?_
          have HC := Lib.hid hB; obtain ⟨c0, c1x, c2x, c3, c4, c5, c6, c7, c8, c9, c10, c11⟩ := (MdBk.cells ⟨hB.out.b0, hB.out.b⟩); have d0 := hB.out.b1.cell 0; have d1 := hB.out.b1.cell 1; clear HC
          go_simp
          exact k_of (HK.out (.int .i64 m.whi) _ rfl hB (Below.refl _ _)) (by rw [← u1_eq e13]; kernel_rfl)
        · intro u W hB _ hd _ K hK
          have HK := Lib.hid hK; clear hK
          refine wpOp_of rfl (by rfl) ?_
          go_simp
          exact k_of (HK.out (.pointer (some ⟨w.heap.size + 1, 1, none⟩)) _ rfl hB (Below.refl _ _)) (by kernel_rfl)
        · intro u W hB _ hd _ K hK
          have HK := Lib.hid hK; clear hK
          have e15 : u 15 = .pointer (some ⟨w.heap.size + 1, 1, none⟩) := hd 15 (by decide +kernel)
          refine wpOp_of rfl (by rfl) ?_
          have HC := Lib.hid hB; obtain ⟨c0, c1x, c2x, c3, c4, c5, c6, c7, c8, c9, c10, c11⟩ := (MdBk.cells ⟨hB.out.b0, hB.out.b⟩); have d0 := hB.out.b1.cell 0; have d1 := hB.out.b1.cell 1; clear HC
          go_simp
          exact k_of (HK.out (.slice A2 ws.length c2) _ rfl hB (Below.refl _ _)) (by rw [← u1_eq e15]; kernel_rfl)
        · intro u W hB _ hd _ K hK
          have HK := Lib.hid hK; clear hK
          have e11 : u 11 = .int .i64 m.wlo := hd 11 (by decide +kernel)
          have e14 : u 14 = .int .i64 m.whi := hd 14 (by decide +kernel)
          have e16 : u 16 = .slice A2 ws.length c2 := hd 16 (by decide +kernel)
          refine wpOp_of rfl (by rfl) ?_
          go_simp
          refine (range_any (c := c2) m.wlo m.whi hB.out.q).mono ?_
          rintro e w' ⟨rfl, hw'⟩
          subst hw'
          exact k_of (HK.out (.int .i64 (rangeE m.wlo m.whi ws)) _ rfl hB (Below.refl _ _)) (by rw [← u1_eq e11, ← u1_eq e14, ← u1_eq e16]; kernel_rfl)
        · intro u W hB _ hd _ K hK
          have HK := Lib.hid hK; clear hK
          have e8 : u 8 = .int .i64 (rangeE m.plo m.phi ps) := hd 8 (by decide +kernel)
          have e17 : u 17 = .int .i64 (rangeE m.wlo m.whi ws) := hd 17 (by decide +kernel)
          refine wpOp_of rfl (by rfl) ?_
          go_simp
          exact k_of (HK.out (.slice (some ⟨W.heap.size, 0, none⟩) 2 2) _ ⟨_, rfl, ints_blk (Blk.new _ _ _) rfl (by simp)⟩ (hB.out.on ((Below.refl _ W).alloc (Nat.le_refl _) _)) ((Below.refl _ W).alloc (Nat.le_refl _) _)) (by rw [← u1_eq e8, ← u1_eq e17]; kernel_rfl)
        · intro u W hB _ hd _ K hK
          have HK := Lib.hid hK; clear hK
          obtain ⟨b18, e18, k18⟩ : truR w m A1 A2 c1 c2 ps ws 18 (u 18) W := hd 18 (by decide +kernel)
          refine wpOp_of rfl (by rfl) ?_
          go_simp
          refine (or_any (c := 2) k18).mono ?_
          rintro e w' ⟨rfl, hw'⟩
          subst hw'
          exact k_of (HK.out (.int .i64 (orE [rangeE m.plo m.phi ps, rangeE m.wlo m.whi ws])) _ rfl hB (Below.refl _ _)) (by rw [← u1_eq e18]; kernel_rfl)
        · intro u W hB _ hd _ K hK
          have HK := Lib.hid hK; clear hK
          have e19 : u 19 = .int .i64 (orE [rangeE m.plo m.phi ps, rangeE m.wlo m.whi ws]) := hd 19 (by decide +kernel)
          refine wpOp_of rfl (by rfl) ?_
          go_simp
          exact k_of (HK.out (.int .i64 (orE [rangeE m.plo m.phi ps, rangeE m.wlo m.whi ws])) _ rfl hB (Below.refl _ _)) (by rw [← u1_eq e19]; kernel_rfl)
      · intro u W hB hd
        have e20 : u 20 = .int .i64 (orE [rangeE m.plo m.phi ps, rangeE m.wlo m.whi ws]) := hd 20 (by decide)
        go_simp
        go_wp2_with fail
        go_ret
        exact ⟨ret_i64 HE.out.symm, hB.out.b⟩
  · have HE := Lib.hid (show truthV m ps ws = 3 by unfold truthV; rw [if_pos (.inl h1)])
    go_enter Try.func53, Try.ntmps53
    go_wp2_with fail
    go_ret
    exact ⟨ret_i64 HE.out.symm, HM.out.b⟩
end Go.Proofs.Ytljbjcnfkbmjkaa
