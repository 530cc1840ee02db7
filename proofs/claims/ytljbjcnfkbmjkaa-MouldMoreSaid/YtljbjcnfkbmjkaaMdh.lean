/- mould.Check: contract. -/
import Derived.Test.YtljbjcnfkbmjkaaGc
import Derived.Test.YtljbjcnfkbmjkaaMdr
namespace Go.Proofs.Ytljbjcnfkbmjkaa
open Go.RowKit Go.Shelf

theorem spans_blk2 {W : World} {g : Nat} {T : TypeId} {a b c d : Int} (h : Blk W g T #[.int .i64 a, .int .i64 b, .int .i64 c, .int .i64 d]) : SpansIn W (some ⟨g, 0, none⟩) [(a, b), (c, d)] :=
  ⟨fun _ => ⟨g, 0, rfl, h.lt, fun i x hi j hj => by
    rw [h.cell]
    match i, hi with
    | 0, hi => simp at hi; subst hi; match j, hj with
      | 0, _ => rfl
      | 1, _ => rfl
    | 1, hi => simp at hi; subst hi; match j, hj with
      | 0, _ => rfl
      | 1, _ => rfl⟩, by simp⟩
theorem orE_check (m : Md) : orE [rangeE 1 8 [m.rings], rangeE 1 500 [m.give], rangeE 0 2000 [m.plo, m.phi, m.wlo, m.whi, m.st], rangeE 0 200 [m.shrink], rangeE 0 m.rings [m.skin], rangeE 1 100000 [m.fill], rangeE 1 60 [m.gap], rangeE 0 100000 [m.deep], orderE [(m.plo, m.phi), (m.wlo, m.whi)]] = checkM m := by
  unfold checkM mdInB
  simp only [orderE, rangeE, List.all_cons, List.all_nil, Bool.and_true, List.any_cons, List.any_nil, Bool.or_false, emptyB, Bool.or_eq_true, decide_eq_true_eq]
  cases inB m.rings 1 8 <;> cases inB m.give 1 500 <;> cases inB m.shrink 0 200 <;> cases inB m.skin 0 m.rings <;> cases inB m.fill 1 100000 <;> cases inB m.gap 1 60 <;> cases inB m.deep 0 100000 <;> simp [orE]
  all_goals cases inB m.plo 0 2000 <;> cases inB m.phi 0 2000 <;> cases inB m.wlo 0 2000 <;> cases inB m.whi 0 2000 <;> cases inB m.st 0 2000 <;> simp
/-- What each operation of the region leaves. -/
def chkR (w : World) (m : Md) : Nat → Value → World → Prop
  | 0, v, _ => v = .pointer (some ⟨w.heap.size, 0, none⟩)
  | 1, v, _ => v = .int .i64 m.rings
  | 2, v, W => ∃ b, v = .slice (some ⟨b, 0, none⟩) 1 1 ∧ IntsIn W (some ⟨b, 0, none⟩) [m.rings]
  | 3, v, _ => v = .int .i64 (rangeE 1 8 [m.rings])
  | 4, v, _ => v = .pointer (some ⟨w.heap.size, 1, none⟩)
  | 5, v, _ => v = .int .i64 m.give
  | 6, v, W => ∃ b, v = .slice (some ⟨b, 0, none⟩) 1 1 ∧ IntsIn W (some ⟨b, 0, none⟩) [m.give]
  | 7, v, _ => v = .int .i64 (rangeE 1 500 [m.give])
  | 8, v, _ => v = .pointer (some ⟨w.heap.size, 2, none⟩)
  | 9, v, _ => v = .pointer (some ⟨w.heap.size, 2, none⟩)
  | 10, v, _ => v = .int .i64 m.plo
  | 11, v, _ => v = .pointer (some ⟨w.heap.size, 2, none⟩)
  | 12, v, _ => v = .pointer (some ⟨w.heap.size, 3, none⟩)
  | 13, v, _ => v = .int .i64 m.phi
  | 14, v, _ => v = .pointer (some ⟨w.heap.size, 4, none⟩)
  | 15, v, _ => v = .pointer (some ⟨w.heap.size, 4, none⟩)
  | 16, v, _ => v = .int .i64 m.wlo
  | 17, v, _ => v = .pointer (some ⟨w.heap.size, 4, none⟩)
  | 18, v, _ => v = .pointer (some ⟨w.heap.size, 5, none⟩)
  | 19, v, _ => v = .int .i64 m.whi
  | 20, v, _ => v = .pointer (some ⟨w.heap.size, 6, none⟩)
  | 21, v, _ => v = .int .i64 m.st
  | 22, v, W => ∃ b, v = .slice (some ⟨b, 0, none⟩) 5 5 ∧ IntsIn W (some ⟨b, 0, none⟩) [m.plo, m.phi, m.wlo, m.whi, m.st]
  | 23, v, _ => v = .int .i64 (rangeE 0 2000 [m.plo, m.phi, m.wlo, m.whi, m.st])
  | 24, v, _ => v = .pointer (some ⟨w.heap.size, 7, none⟩)
  | 25, v, _ => v = .int .i64 m.shrink
  | 26, v, W => ∃ b, v = .slice (some ⟨b, 0, none⟩) 1 1 ∧ IntsIn W (some ⟨b, 0, none⟩) [m.shrink]
  | 27, v, _ => v = .int .i64 (rangeE 0 200 [m.shrink])
  | 28, v, _ => v = .pointer (some ⟨w.heap.size, 0, none⟩)
  | 29, v, _ => v = .int .i64 m.rings
  | 30, v, _ => v = .pointer (some ⟨w.heap.size, 8, none⟩)
  | 31, v, _ => v = .int .i64 m.skin
  | 32, v, W => ∃ b, v = .slice (some ⟨b, 0, none⟩) 1 1 ∧ IntsIn W (some ⟨b, 0, none⟩) [m.skin]
  | 33, v, _ => v = .int .i64 (rangeE 0 m.rings [m.skin])
  | 34, v, _ => v = .pointer (some ⟨w.heap.size, 9, none⟩)
  | 35, v, _ => v = .int .i64 m.fill
  | 36, v, W => ∃ b, v = .slice (some ⟨b, 0, none⟩) 1 1 ∧ IntsIn W (some ⟨b, 0, none⟩) [m.fill]
  | 37, v, _ => v = .int .i64 (rangeE 1 100000 [m.fill])
  | 38, v, _ => v = .pointer (some ⟨w.heap.size, 10, none⟩)
  | 39, v, _ => v = .int .i64 m.gap
  | 40, v, W => ∃ b, v = .slice (some ⟨b, 0, none⟩) 1 1 ∧ IntsIn W (some ⟨b, 0, none⟩) [m.gap]
  | 41, v, _ => v = .int .i64 (rangeE 1 60 [m.gap])
  | 42, v, _ => v = .pointer (some ⟨w.heap.size, 11, none⟩)
  | 43, v, _ => v = .int .i64 m.deep
  | 44, v, W => ∃ b, v = .slice (some ⟨b, 0, none⟩) 1 1 ∧ IntsIn W (some ⟨b, 0, none⟩) [m.deep]
  | 45, v, _ => v = .int .i64 (rangeE 0 100000 [m.deep])
  | 46, v, _ => v = .pointer (some ⟨w.heap.size, 2, none⟩)
  | 47, v, _ => v = .agg #[.int .i64 m.plo, .int .i64 m.phi]
  | 48, v, _ => v = .pointer (some ⟨w.heap.size, 4, none⟩)
  | 49, v, _ => v = .agg #[.int .i64 m.wlo, .int .i64 m.whi]
  | 50, v, W => ∃ b, v = .slice (some ⟨b, 0, none⟩) 2 2 ∧ SpansIn W (some ⟨b, 0, none⟩) [(m.plo, m.phi), (m.wlo, m.whi)]
  | 51, v, _ => v = .int .i64 (orderE [(m.plo, m.phi), (m.wlo, m.whi)])
  | 52, v, W => ∃ b, v = .slice (some ⟨b, 0, none⟩) 9 9 ∧ IntsIn W (some ⟨b, 0, none⟩) [rangeE 1 8 [m.rings], rangeE 1 500 [m.give], rangeE 0 2000 [m.plo, m.phi, m.wlo, m.whi, m.st], rangeE 0 200 [m.shrink], rangeE 0 m.rings [m.skin], rangeE 1 100000 [m.fill], rangeE 1 60 [m.gap], rangeE 0 100000 [m.deep], orderE [(m.plo, m.phi), (m.wlo, m.whi)]]
  | 53, v, _ => v = .int .i64 (checkM m)
  | 54, v, _ => v = .int .i64 (checkM m)
  | _, _, _ => True
theorem chkR_on (w : World) (m : Md) : ∀ i, i < 55 → ∀ v W W', chkR w m i v W → Below W.heap.size W W' → chkR w m i v W' := by
  iterate 55 (refine all_succ ?_ ?_)
  · exact all_zero
  · exact fun _ _ _ h _ => h
  · exact fun _ _ _ h _ => h
  · rintro v W W' ⟨b, e, h⟩ hb; exact ⟨b, e, h.on hb⟩
  · exact fun _ _ _ h _ => h
  · exact fun _ _ _ h _ => h
  · exact fun _ _ _ h _ => h
  · rintro v W W' ⟨b, e, h⟩ hb; exact ⟨b, e, h.on hb⟩
  · exact fun _ _ _ h _ => h
  · exact fun _ _ _ h _ => h
  · exact fun _ _ _ h _ => h
  · exact fun _ _ _ h _ => h
  · exact fun _ _ _ h _ => h
  · exact fun _ _ _ h _ => h
  · exact fun _ _ _ h _ => h
  · exact fun _ _ _ h _ => h
  · exact fun _ _ _ h _ => h
  · exact fun _ _ _ h _ => h
  · exact fun _ _ _ h _ => h
  · exact fun _ _ _ h _ => h
  · exact fun _ _ _ h _ => h
  · exact fun _ _ _ h _ => h
  · exact fun _ _ _ h _ => h
  · rintro v W W' ⟨b, e, h⟩ hb; exact ⟨b, e, h.on hb⟩
  · exact fun _ _ _ h _ => h
  · exact fun _ _ _ h _ => h
  · exact fun _ _ _ h _ => h
  · rintro v W W' ⟨b, e, h⟩ hb; exact ⟨b, e, h.on hb⟩
  · exact fun _ _ _ h _ => h
  · exact fun _ _ _ h _ => h
  · exact fun _ _ _ h _ => h
  · exact fun _ _ _ h _ => h
  · exact fun _ _ _ h _ => h
  · rintro v W W' ⟨b, e, h⟩ hb; exact ⟨b, e, h.on hb⟩
  · exact fun _ _ _ h _ => h
  · exact fun _ _ _ h _ => h
  · exact fun _ _ _ h _ => h
  · rintro v W W' ⟨b, e, h⟩ hb; exact ⟨b, e, h.on hb⟩
  · exact fun _ _ _ h _ => h
  · exact fun _ _ _ h _ => h
  · exact fun _ _ _ h _ => h
  · rintro v W W' ⟨b, e, h⟩ hb; exact ⟨b, e, h.on hb⟩
  · exact fun _ _ _ h _ => h
  · exact fun _ _ _ h _ => h
  · exact fun _ _ _ h _ => h
  · rintro v W W' ⟨b, e, h⟩ hb; exact ⟨b, e, h.on hb⟩
  · exact fun _ _ _ h _ => h
  · exact fun _ _ _ h _ => h
  · exact fun _ _ _ h _ => h
  · exact fun _ _ _ h _ => h
  · exact fun _ _ _ h _ => h
  · rintro v W W' ⟨b, e, h⟩ hb; exact ⟨b, e, h.on hb⟩
  · exact fun _ _ _ h _ => h
  · rintro v W W' ⟨b, e, h⟩ hb; exact ⟨b, e, h.on hb⟩
  · exact fun _ _ _ h _ => h
  · exact fun _ _ _ h _ => h

set_option maxRecDepth 100000 in
set_option maxHeartbeats 8000000 in
theorem check_any (m : Md) (w : World) :
    Calls Try.prog 18 #[.agg #[.int .i64 m.rings, .int .i64 m.give, .int .i64 m.plo, .int .i64 m.phi, .int .i64 m.wlo, .int .i64 m.whi, .int .i64 m.st, .int .i64 m.shrink, .int .i64 m.skin, .int .i64 m.fill, .int .i64 m.gap, .int .i64 m.deep]] w fun e w' => e = .returned (.int .i64 (checkM m)) ∧ Below w.heap.size w w' := by
  have HM := Lib.hid (MdBk.new w 25 m)
  go_enter Try.func18, Try.ntmps18
  go_wp2_with fail
  refine wp_region_spec (by kernel_rfl) 55 (by kernel_rfl) (fun u => ⟨#[.agg #[.int .i64 m.rings, .int .i64 m.give, .int .i64 m.plo, .int .i64 m.phi, .int .i64 m.wlo, .int .i64 m.whi, .int .i64 m.st, .int .i64 m.shrink, .int .i64 m.skin, .int .i64 m.fill, .int .i64 m.gap, .int .i64 m.deep], .pointer (some ⟨w.heap.size, 0, none⟩), u 54, u 0, u 1, u 2, u 3, u 4, u 5, u 6, u 7, u 8, u 9, u 10, u 11, u 12, u 13, u 14, u 15, u 16, u 17, u 18, u 19, u 20, u 21, u 22, u 23, u 24, u 25, u 26, u 27, u 28, u 29, u 30, u 31, u 32, u 33, u 34, u 35, u 36, u 37, u 38, u 39, u 40, u 41, u 42, u 43, u 44, u 45, u 46, u 47, u 48, u 49, u 50, u 51, u 52, u 53], []⟩) (fun i => if i = 54 then .int .i64 0 else undef) (fun W => Hid (MdBk w w.heap.size 25 m W)) (chkR w m) (by kernel_rfl) (HM.out.on (Below.refl _ _).drew) (fun i v W W2 hi h hb => chkR_on w m i hi v W W2 h hb) (by decide +kernel) ?_ ?_
  · iterate 55 (refine all_succ ?_ ?_)
    · exact all_zero
    · intro u W hB _ hd _ K hK
      have HK := Lib.hid hK; clear hK
      refine wpOp_of rfl (by rfl) ?_
      go_simp
      exact k_of (HK.out (.pointer (some ⟨w.heap.size, 0, none⟩)) _ rfl hB (Below.refl _ _)) (by kernel_rfl)
    · intro u W hB _ hd _ K hK
      have HK := Lib.hid hK; clear hK
      have e0 : u 0 = .pointer (some ⟨w.heap.size, 0, none⟩) := hd 0 (by decide +kernel)
      refine wpOp_of rfl (by rfl) ?_
      obtain ⟨c0, c1, c2, c3, c4, c5, c6, c7, c8, c9, c10, c11⟩ := hB.out.cells
      go_simp
      exact k_of (HK.out (.int .i64 m.rings) _ rfl hB (Below.refl _ _)) (by rw [← u1_eq e0]; kernel_rfl)
    · intro u W hB _ hd _ K hK
      have HK := Lib.hid hK; clear hK
      have e1 : u 1 = .int .i64 m.rings := hd 1 (by decide +kernel)
      refine wpOp_of rfl (by rfl) ?_
      go_simp
      exact k_of (HK.out (.slice (some ⟨W.heap.size, 0, none⟩) 1 1) _ ⟨_, rfl, ints_blk (Blk.new _ _ _) rfl (by simp)⟩ (hB.out.on ((Below.refl _ W).alloc (Nat.le_refl _) _)) ((Below.refl _ W).alloc (Nat.le_refl _) _)) (by rw [← u1_eq e1]; kernel_rfl)
    · intro u W hB _ hd _ K hK
      have HK := Lib.hid hK; clear hK
      obtain ⟨b2, e2, k2⟩ : chkR w m 2 (u 2) W := hd 2 (by decide +kernel)
      refine wpOp_of rfl (by rfl) ?_
      go_simp
      refine (range_any (c := 1) 1 8 k2).mono ?_
      rintro e w' ⟨rfl, hw'⟩
      subst hw'
      exact k_of (HK.out (.int .i64 (rangeE 1 8 [m.rings])) _ rfl hB (Below.refl _ _)) (by rw [← u1_eq e2]; kernel_rfl)
    · intro u W hB _ hd _ K hK
      have HK := Lib.hid hK; clear hK
      refine wpOp_of rfl (by rfl) ?_
      go_simp
      exact k_of (HK.out (.pointer (some ⟨w.heap.size, 1, none⟩)) _ rfl hB (Below.refl _ _)) (by kernel_rfl)
    · intro u W hB _ hd _ K hK
      have HK := Lib.hid hK; clear hK
      have e4 : u 4 = .pointer (some ⟨w.heap.size, 1, none⟩) := hd 4 (by decide +kernel)
      refine wpOp_of rfl (by rfl) ?_
      obtain ⟨c0, c1, c2, c3, c4, c5, c6, c7, c8, c9, c10, c11⟩ := hB.out.cells
      go_simp
      exact k_of (HK.out (.int .i64 m.give) _ rfl hB (Below.refl _ _)) (by rw [← u1_eq e4]; kernel_rfl)
    · intro u W hB _ hd _ K hK
      have HK := Lib.hid hK; clear hK
      have e5 : u 5 = .int .i64 m.give := hd 5 (by decide +kernel)
      refine wpOp_of rfl (by rfl) ?_
      go_simp
      exact k_of (HK.out (.slice (some ⟨W.heap.size, 0, none⟩) 1 1) _ ⟨_, rfl, ints_blk (Blk.new _ _ _) rfl (by simp)⟩ (hB.out.on ((Below.refl _ W).alloc (Nat.le_refl _) _)) ((Below.refl _ W).alloc (Nat.le_refl _) _)) (by rw [← u1_eq e5]; kernel_rfl)
    · intro u W hB _ hd _ K hK
      have HK := Lib.hid hK; clear hK
      obtain ⟨b6, e6, k6⟩ : chkR w m 6 (u 6) W := hd 6 (by decide +kernel)
      refine wpOp_of rfl (by rfl) ?_
      go_simp
      refine (range_any (c := 1) 1 500 k6).mono ?_
      rintro e w' ⟨rfl, hw'⟩
      subst hw'
      exact k_of (HK.out (.int .i64 (rangeE 1 500 [m.give])) _ rfl hB (Below.refl _ _)) (by rw [← u1_eq e6]; kernel_rfl)
    · intro u W hB _ hd _ K hK
      have HK := Lib.hid hK; clear hK
      refine wpOp_of rfl (by rfl) ?_
      go_simp
      exact k_of (HK.out (.pointer (some ⟨w.heap.size, 2, none⟩)) _ rfl hB (Below.refl _ _)) (by kernel_rfl)
    · intro u W hB _ hd _ K hK
      have HK := Lib.hid hK; clear hK
      have e8 : u 8 = .pointer (some ⟨w.heap.size, 2, none⟩) := hd 8 (by decide +kernel)
      refine wpOp_of rfl (by rfl) ?_
      go_simp
      exact k_of (HK.out (.pointer (some ⟨w.heap.size, 2, none⟩)) _ rfl hB (Below.refl _ _)) (by rw [← u1_eq e8]; kernel_rfl)
    · intro u W hB _ hd _ K hK
      have HK := Lib.hid hK; clear hK
      have e9 : u 9 = .pointer (some ⟨w.heap.size, 2, none⟩) := hd 9 (by decide +kernel)
      refine wpOp_of rfl (by rfl) ?_
      obtain ⟨c0, c1, c2, c3, c4, c5, c6, c7, c8, c9, c10, c11⟩ := hB.out.cells
      go_simp
      exact k_of (HK.out (.int .i64 m.plo) _ rfl hB (Below.refl _ _)) (by rw [← u1_eq e9]; kernel_rfl)
    · intro u W hB _ hd _ K hK
      have HK := Lib.hid hK; clear hK
      refine wpOp_of rfl (by rfl) ?_
      go_simp
      exact k_of (HK.out (.pointer (some ⟨w.heap.size, 2, none⟩)) _ rfl hB (Below.refl _ _)) (by kernel_rfl)
    · intro u W hB _ hd _ K hK
      have HK := Lib.hid hK; clear hK
      have e11 : u 11 = .pointer (some ⟨w.heap.size, 2, none⟩) := hd 11 (by decide +kernel)
      refine wpOp_of rfl (by rfl) ?_
      go_simp
      exact k_of (HK.out (.pointer (some ⟨w.heap.size, 3, none⟩)) _ rfl hB (Below.refl _ _)) (by rw [← u1_eq e11]; kernel_rfl)
    · intro u W hB _ hd _ K hK
      have HK := Lib.hid hK; clear hK
      have e12 : u 12 = .pointer (some ⟨w.heap.size, 3, none⟩) := hd 12 (by decide +kernel)
      refine wpOp_of rfl (by rfl) ?_
      obtain ⟨c0, c1, c2, c3, c4, c5, c6, c7, c8, c9, c10, c11⟩ := hB.out.cells
      go_simp
      exact k_of (HK.out (.int .i64 m.phi) _ rfl hB (Below.refl _ _)) (by rw [← u1_eq e12]; kernel_rfl)
    · intro u W hB _ hd _ K hK
      have HK := Lib.hid hK; clear hK
      refine wpOp_of rfl (by rfl) ?_
      go_simp
      exact k_of (HK.out (.pointer (some ⟨w.heap.size, 4, none⟩)) _ rfl hB (Below.refl _ _)) (by kernel_rfl)
    · intro u W hB _ hd _ K hK
      have HK := Lib.hid hK; clear hK
      have e14 : u 14 = .pointer (some ⟨w.heap.size, 4, none⟩) := hd 14 (by decide +kernel)
      refine wpOp_of rfl (by rfl) ?_
      go_simp
      exact k_of (HK.out (.pointer (some ⟨w.heap.size, 4, none⟩)) _ rfl hB (Below.refl _ _)) (by rw [← u1_eq e14]; kernel_rfl)
    · intro u W hB _ hd _ K hK
      have HK := Lib.hid hK; clear hK
      have e15 : u 15 = .pointer (some ⟨w.heap.size, 4, none⟩) := hd 15 (by decide +kernel)
      refine wpOp_of rfl (by rfl) ?_
      obtain ⟨c0, c1, c2, c3, c4, c5, c6, c7, c8, c9, c10, c11⟩ := hB.out.cells
      go_simp
      exact k_of (HK.out (.int .i64 m.wlo) _ rfl hB (Below.refl _ _)) (by rw [← u1_eq e15]; kernel_rfl)
    · intro u W hB _ hd _ K hK
      have HK := Lib.hid hK; clear hK
      refine wpOp_of rfl (by rfl) ?_
      go_simp
      exact k_of (HK.out (.pointer (some ⟨w.heap.size, 4, none⟩)) _ rfl hB (Below.refl _ _)) (by kernel_rfl)
    · intro u W hB _ hd _ K hK
      have HK := Lib.hid hK; clear hK
      have e17 : u 17 = .pointer (some ⟨w.heap.size, 4, none⟩) := hd 17 (by decide +kernel)
      refine wpOp_of rfl (by rfl) ?_
      go_simp
      exact k_of (HK.out (.pointer (some ⟨w.heap.size, 5, none⟩)) _ rfl hB (Below.refl _ _)) (by rw [← u1_eq e17]; kernel_rfl)
    · intro u W hB _ hd _ K hK
      have HK := Lib.hid hK; clear hK
      have e18 : u 18 = .pointer (some ⟨w.heap.size, 5, none⟩) := hd 18 (by decide +kernel)
      refine wpOp_of rfl (by rfl) ?_
      obtain ⟨c0, c1, c2, c3, c4, c5, c6, c7, c8, c9, c10, c11⟩ := hB.out.cells
      go_simp
      exact k_of (HK.out (.int .i64 m.whi) _ rfl hB (Below.refl _ _)) (by rw [← u1_eq e18]; kernel_rfl)
    · intro u W hB _ hd _ K hK
      have HK := Lib.hid hK; clear hK
      refine wpOp_of rfl (by rfl) ?_
      go_simp
      exact k_of (HK.out (.pointer (some ⟨w.heap.size, 6, none⟩)) _ rfl hB (Below.refl _ _)) (by kernel_rfl)
    · intro u W hB _ hd _ K hK
      have HK := Lib.hid hK; clear hK
      have e20 : u 20 = .pointer (some ⟨w.heap.size, 6, none⟩) := hd 20 (by decide +kernel)
      refine wpOp_of rfl (by rfl) ?_
      obtain ⟨c0, c1, c2, c3, c4, c5, c6, c7, c8, c9, c10, c11⟩ := hB.out.cells
      go_simp
      exact k_of (HK.out (.int .i64 m.st) _ rfl hB (Below.refl _ _)) (by rw [← u1_eq e20]; kernel_rfl)
    · intro u W hB _ hd _ K hK
      have HK := Lib.hid hK; clear hK
      have e10 : u 10 = .int .i64 m.plo := hd 10 (by decide +kernel)
      have e13 : u 13 = .int .i64 m.phi := hd 13 (by decide +kernel)
      have e16 : u 16 = .int .i64 m.wlo := hd 16 (by decide +kernel)
      have e19 : u 19 = .int .i64 m.whi := hd 19 (by decide +kernel)
      have e21 : u 21 = .int .i64 m.st := hd 21 (by decide +kernel)
      refine wpOp_of rfl (by rfl) ?_
      go_simp
      exact k_of (HK.out (.slice (some ⟨W.heap.size, 0, none⟩) 5 5) _ ⟨_, rfl, ints_blk (Blk.new _ _ _) rfl (by simp)⟩ (hB.out.on ((Below.refl _ W).alloc (Nat.le_refl _) _)) ((Below.refl _ W).alloc (Nat.le_refl _) _)) (by rw [← u1_eq e10, ← u1_eq e13, ← u1_eq e16, ← u1_eq e19, ← u1_eq e21]; kernel_rfl)
    · intro u W hB _ hd _ K hK
      have HK := Lib.hid hK; clear hK
      obtain ⟨b22, e22, k22⟩ : chkR w m 22 (u 22) W := hd 22 (by decide +kernel)
      refine wpOp_of rfl (by rfl) ?_
      go_simp
      refine (range_any (c := 5) 0 2000 k22).mono ?_
      rintro e w' ⟨rfl, hw'⟩
      subst hw'
      exact k_of (HK.out (.int .i64 (rangeE 0 2000 [m.plo, m.phi, m.wlo, m.whi, m.st])) _ rfl hB (Below.refl _ _)) (by rw [← u1_eq e22]; kernel_rfl)
    · intro u W hB _ hd _ K hK
      have HK := Lib.hid hK; clear hK
      refine wpOp_of rfl (by rfl) ?_
      go_simp
      exact k_of (HK.out (.pointer (some ⟨w.heap.size, 7, none⟩)) _ rfl hB (Below.refl _ _)) (by kernel_rfl)
    · intro u W hB _ hd _ K hK
      have HK := Lib.hid hK; clear hK
      have e24 : u 24 = .pointer (some ⟨w.heap.size, 7, none⟩) := hd 24 (by decide +kernel)
      refine wpOp_of rfl (by rfl) ?_
      obtain ⟨c0, c1, c2, c3, c4, c5, c6, c7, c8, c9, c10, c11⟩ := hB.out.cells
      go_simp
      exact k_of (HK.out (.int .i64 m.shrink) _ rfl hB (Below.refl _ _)) (by rw [← u1_eq e24]; kernel_rfl)
    · intro u W hB _ hd _ K hK
      have HK := Lib.hid hK; clear hK
      have e25 : u 25 = .int .i64 m.shrink := hd 25 (by decide +kernel)
      refine wpOp_of rfl (by rfl) ?_
      go_simp
      exact k_of (HK.out (.slice (some ⟨W.heap.size, 0, none⟩) 1 1) _ ⟨_, rfl, ints_blk (Blk.new _ _ _) rfl (by simp)⟩ (hB.out.on ((Below.refl _ W).alloc (Nat.le_refl _) _)) ((Below.refl _ W).alloc (Nat.le_refl _) _)) (by rw [← u1_eq e25]; kernel_rfl)
    · intro u W hB _ hd _ K hK
      have HK := Lib.hid hK; clear hK
      obtain ⟨b26, e26, k26⟩ : chkR w m 26 (u 26) W := hd 26 (by decide +kernel)
      refine wpOp_of rfl (by rfl) ?_
      go_simp
      refine (range_any (c := 1) 0 200 k26).mono ?_
      rintro e w' ⟨rfl, hw'⟩
      subst hw'
      exact k_of (HK.out (.int .i64 (rangeE 0 200 [m.shrink])) _ rfl hB (Below.refl _ _)) (by rw [← u1_eq e26]; kernel_rfl)
    · intro u W hB _ hd _ K hK
      have HK := Lib.hid hK; clear hK
      refine wpOp_of rfl (by rfl) ?_
      go_simp
      exact k_of (HK.out (.pointer (some ⟨w.heap.size, 0, none⟩)) _ rfl hB (Below.refl _ _)) (by kernel_rfl)
    · intro u W hB _ hd _ K hK
      have HK := Lib.hid hK; clear hK
      have e28 : u 28 = .pointer (some ⟨w.heap.size, 0, none⟩) := hd 28 (by decide +kernel)
      refine wpOp_of rfl (by rfl) ?_
      obtain ⟨c0, c1, c2, c3, c4, c5, c6, c7, c8, c9, c10, c11⟩ := hB.out.cells
      go_simp
      exact k_of (HK.out (.int .i64 m.rings) _ rfl hB (Below.refl _ _)) (by rw [← u1_eq e28]; kernel_rfl)
    · intro u W hB _ hd _ K hK
      have HK := Lib.hid hK; clear hK
      refine wpOp_of rfl (by rfl) ?_
      go_simp
      exact k_of (HK.out (.pointer (some ⟨w.heap.size, 8, none⟩)) _ rfl hB (Below.refl _ _)) (by kernel_rfl)
    · intro u W hB _ hd _ K hK
      have HK := Lib.hid hK; clear hK
      have e30 : u 30 = .pointer (some ⟨w.heap.size, 8, none⟩) := hd 30 (by decide +kernel)
      refine wpOp_of rfl (by rfl) ?_
      obtain ⟨c0, c1, c2, c3, c4, c5, c6, c7, c8, c9, c10, c11⟩ := hB.out.cells
      go_simp
      exact k_of (HK.out (.int .i64 m.skin) _ rfl hB (Below.refl _ _)) (by rw [← u1_eq e30]; kernel_rfl)
    · intro u W hB _ hd _ K hK
      have HK := Lib.hid hK; clear hK
      have e31 : u 31 = .int .i64 m.skin := hd 31 (by decide +kernel)
      refine wpOp_of rfl (by rfl) ?_
      go_simp
      exact k_of (HK.out (.slice (some ⟨W.heap.size, 0, none⟩) 1 1) _ ⟨_, rfl, ints_blk (Blk.new _ _ _) rfl (by simp)⟩ (hB.out.on ((Below.refl _ W).alloc (Nat.le_refl _) _)) ((Below.refl _ W).alloc (Nat.le_refl _) _)) (by rw [← u1_eq e31]; kernel_rfl)
    · intro u W hB _ hd _ K hK
      have HK := Lib.hid hK; clear hK
      obtain ⟨b32, e32, k32⟩ : chkR w m 32 (u 32) W := hd 32 (by decide +kernel)
      have e29 : u 29 = .int .i64 m.rings := hd 29 (by decide +kernel)
      refine wpOp_of rfl (by rfl) ?_
      go_simp
      refine (range_any (c := 1) 0 m.rings k32).mono ?_
      rintro e w' ⟨rfl, hw'⟩
      subst hw'
      exact k_of (HK.out (.int .i64 (rangeE 0 m.rings [m.skin])) _ rfl hB (Below.refl _ _)) (by rw [← u1_eq e32, ← u1_eq e29]; kernel_rfl)
    · intro u W hB _ hd _ K hK
      have HK := Lib.hid hK; clear hK
      refine wpOp_of rfl (by rfl) ?_
      go_simp
      exact k_of (HK.out (.pointer (some ⟨w.heap.size, 9, none⟩)) _ rfl hB (Below.refl _ _)) (by kernel_rfl)
    · intro u W hB _ hd _ K hK
      have HK := Lib.hid hK; clear hK
      have e34 : u 34 = .pointer (some ⟨w.heap.size, 9, none⟩) := hd 34 (by decide +kernel)
      refine wpOp_of rfl (by rfl) ?_
      obtain ⟨c0, c1, c2, c3, c4, c5, c6, c7, c8, c9, c10, c11⟩ := hB.out.cells
      go_simp
      exact k_of (HK.out (.int .i64 m.fill) _ rfl hB (Below.refl _ _)) (by rw [← u1_eq e34]; kernel_rfl)
    · intro u W hB _ hd _ K hK
      have HK := Lib.hid hK; clear hK
      have e35 : u 35 = .int .i64 m.fill := hd 35 (by decide +kernel)
      refine wpOp_of rfl (by rfl) ?_
      go_simp
      exact k_of (HK.out (.slice (some ⟨W.heap.size, 0, none⟩) 1 1) _ ⟨_, rfl, ints_blk (Blk.new _ _ _) rfl (by simp)⟩ (hB.out.on ((Below.refl _ W).alloc (Nat.le_refl _) _)) ((Below.refl _ W).alloc (Nat.le_refl _) _)) (by rw [← u1_eq e35]; kernel_rfl)
    · intro u W hB _ hd _ K hK
      have HK := Lib.hid hK; clear hK
      obtain ⟨b36, e36, k36⟩ : chkR w m 36 (u 36) W := hd 36 (by decide +kernel)
      refine wpOp_of rfl (by rfl) ?_
      go_simp
      refine (range_any (c := 1) 1 100000 k36).mono ?_
      rintro e w' ⟨rfl, hw'⟩
      subst hw'
      exact k_of (HK.out (.int .i64 (rangeE 1 100000 [m.fill])) _ rfl hB (Below.refl _ _)) (by rw [← u1_eq e36]; kernel_rfl)
    · intro u W hB _ hd _ K hK
      have HK := Lib.hid hK; clear hK
      refine wpOp_of rfl (by rfl) ?_
      go_simp
      exact k_of (HK.out (.pointer (some ⟨w.heap.size, 10, none⟩)) _ rfl hB (Below.refl _ _)) (by kernel_rfl)
    · intro u W hB _ hd _ K hK
      have HK := Lib.hid hK; clear hK
      have e38 : u 38 = .pointer (some ⟨w.heap.size, 10, none⟩) := hd 38 (by decide +kernel)
      refine wpOp_of rfl (by rfl) ?_
      obtain ⟨c0, c1, c2, c3, c4, c5, c6, c7, c8, c9, c10, c11⟩ := hB.out.cells
      go_simp
      exact k_of (HK.out (.int .i64 m.gap) _ rfl hB (Below.refl _ _)) (by rw [← u1_eq e38]; kernel_rfl)
    · intro u W hB _ hd _ K hK
      have HK := Lib.hid hK; clear hK
      have e39 : u 39 = .int .i64 m.gap := hd 39 (by decide +kernel)
      refine wpOp_of rfl (by rfl) ?_
      go_simp
      exact k_of (HK.out (.slice (some ⟨W.heap.size, 0, none⟩) 1 1) _ ⟨_, rfl, ints_blk (Blk.new _ _ _) rfl (by simp)⟩ (hB.out.on ((Below.refl _ W).alloc (Nat.le_refl _) _)) ((Below.refl _ W).alloc (Nat.le_refl _) _)) (by rw [← u1_eq e39]; kernel_rfl)
    · intro u W hB _ hd _ K hK
      have HK := Lib.hid hK; clear hK
      obtain ⟨b40, e40, k40⟩ : chkR w m 40 (u 40) W := hd 40 (by decide +kernel)
      refine wpOp_of rfl (by rfl) ?_
      go_simp
      refine (range_any (c := 1) 1 60 k40).mono ?_
      rintro e w' ⟨rfl, hw'⟩
      subst hw'
      exact k_of (HK.out (.int .i64 (rangeE 1 60 [m.gap])) _ rfl hB (Below.refl _ _)) (by rw [← u1_eq e40]; kernel_rfl)
    · intro u W hB _ hd _ K hK
      have HK := Lib.hid hK; clear hK
      refine wpOp_of rfl (by rfl) ?_
      go_simp
      exact k_of (HK.out (.pointer (some ⟨w.heap.size, 11, none⟩)) _ rfl hB (Below.refl _ _)) (by kernel_rfl)
    · intro u W hB _ hd _ K hK
      have HK := Lib.hid hK; clear hK
      have e42 : u 42 = .pointer (some ⟨w.heap.size, 11, none⟩) := hd 42 (by decide +kernel)
      refine wpOp_of rfl (by rfl) ?_
      obtain ⟨c0, c1, c2, c3, c4, c5, c6, c7, c8, c9, c10, c11⟩ := hB.out.cells
      go_simp
      exact k_of (HK.out (.int .i64 m.deep) _ rfl hB (Below.refl _ _)) (by rw [← u1_eq e42]; kernel_rfl)
    · intro u W hB _ hd _ K hK
      have HK := Lib.hid hK; clear hK
      have e43 : u 43 = .int .i64 m.deep := hd 43 (by decide +kernel)
      refine wpOp_of rfl (by rfl) ?_
      go_simp
      exact k_of (HK.out (.slice (some ⟨W.heap.size, 0, none⟩) 1 1) _ ⟨_, rfl, ints_blk (Blk.new _ _ _) rfl (by simp)⟩ (hB.out.on ((Below.refl _ W).alloc (Nat.le_refl _) _)) ((Below.refl _ W).alloc (Nat.le_refl _) _)) (by rw [← u1_eq e43]; kernel_rfl)
    · intro u W hB _ hd _ K hK
      have HK := Lib.hid hK; clear hK
      obtain ⟨b44, e44, k44⟩ : chkR w m 44 (u 44) W := hd 44 (by decide +kernel)
      refine wpOp_of rfl (by rfl) ?_
      go_simp
      refine (range_any (c := 1) 0 100000 k44).mono ?_
      rintro e w' ⟨rfl, hw'⟩
      subst hw'
      exact k_of (HK.out (.int .i64 (rangeE 0 100000 [m.deep])) _ rfl hB (Below.refl _ _)) (by rw [← u1_eq e44]; kernel_rfl)
    · intro u W hB _ hd _ K hK
      have HK := Lib.hid hK; clear hK
      refine wpOp_of rfl (by rfl) ?_
      go_simp
      exact k_of (HK.out (.pointer (some ⟨w.heap.size, 2, none⟩)) _ rfl hB (Below.refl _ _)) (by kernel_rfl)
    · intro u W hB _ hd _ K hK
      have HK := Lib.hid hK; clear hK
      have e46 : u 46 = .pointer (some ⟨w.heap.size, 2, none⟩) := hd 46 (by decide +kernel)
      refine wpOp_of rfl (by rfl) ?_
      obtain ⟨c0, c1, c2, c3, c4, c5, c6, c7, c8, c9, c10, c11⟩ := hB.out.cells
      go_simp
      exact k_of (HK.out (.agg #[.int .i64 m.plo, .int .i64 m.phi]) _ rfl hB (Below.refl _ _)) (by rw [← u1_eq e46]; kernel_rfl)
    · intro u W hB _ hd _ K hK
      have HK := Lib.hid hK; clear hK
      refine wpOp_of rfl (by rfl) ?_
      go_simp
      exact k_of (HK.out (.pointer (some ⟨w.heap.size, 4, none⟩)) _ rfl hB (Below.refl _ _)) (by kernel_rfl)
    · intro u W hB _ hd _ K hK
      have HK := Lib.hid hK; clear hK
      have e48 : u 48 = .pointer (some ⟨w.heap.size, 4, none⟩) := hd 48 (by decide +kernel)
      refine wpOp_of rfl (by rfl) ?_
      obtain ⟨c0, c1, c2, c3, c4, c5, c6, c7, c8, c9, c10, c11⟩ := hB.out.cells
      go_simp
      exact k_of (HK.out (.agg #[.int .i64 m.wlo, .int .i64 m.whi]) _ rfl hB (Below.refl _ _)) (by rw [← u1_eq e48]; kernel_rfl)
    · intro u W hB _ hd _ K hK
      have HK := Lib.hid hK; clear hK
      have e47 : u 47 = .agg #[.int .i64 m.plo, .int .i64 m.phi] := hd 47 (by decide +kernel)
      have e49 : u 49 = .agg #[.int .i64 m.wlo, .int .i64 m.whi] := hd 49 (by decide +kernel)
      refine wpOp_of rfl (by rfl) ?_
      go_simp
      exact k_of (HK.out (.slice (some ⟨W.heap.size, 0, none⟩) 2 2) _ ⟨_, rfl, spans_blk2 (Blk.new _ _ _)⟩ (hB.out.on ((Below.refl _ W).alloc (Nat.le_refl _) _)) ((Below.refl _ W).alloc (Nat.le_refl _) _)) (by rw [← u1_eq e47, ← u1_eq e49]; kernel_rfl)
    · intro u W hB _ hd _ K hK
      have HK := Lib.hid hK; clear hK
      obtain ⟨b50, e50, k50⟩ : chkR w m 50 (u 50) W := hd 50 (by decide +kernel)
      refine wpOp_of rfl (by rfl) ?_
      go_simp
      refine (order_any (c := 2) k50).mono ?_
      rintro e w' ⟨rfl, hb⟩
      exact k_of (HK.out (.int .i64 (orderE [(m.plo, m.phi), (m.wlo, m.whi)])) _ rfl (hB.out.on hb) hb) (by rw [← u1_eq e50]; kernel_rfl)
    · intro u W hB _ hd _ K hK
      have HK := Lib.hid hK; clear hK
      have e3 : u 3 = .int .i64 (rangeE 1 8 [m.rings]) := hd 3 (by decide +kernel)
      have e7 : u 7 = .int .i64 (rangeE 1 500 [m.give]) := hd 7 (by decide +kernel)
      have e23 : u 23 = .int .i64 (rangeE 0 2000 [m.plo, m.phi, m.wlo, m.whi, m.st]) := hd 23 (by decide +kernel)
      have e27 : u 27 = .int .i64 (rangeE 0 200 [m.shrink]) := hd 27 (by decide +kernel)
      have e33 : u 33 = .int .i64 (rangeE 0 m.rings [m.skin]) := hd 33 (by decide +kernel)
      have e37 : u 37 = .int .i64 (rangeE 1 100000 [m.fill]) := hd 37 (by decide +kernel)
      have e41 : u 41 = .int .i64 (rangeE 1 60 [m.gap]) := hd 41 (by decide +kernel)
      have e45 : u 45 = .int .i64 (rangeE 0 100000 [m.deep]) := hd 45 (by decide +kernel)
      have e51 : u 51 = .int .i64 (orderE [(m.plo, m.phi), (m.wlo, m.whi)]) := hd 51 (by decide +kernel)
      refine wpOp_of rfl (by rfl) ?_
      go_simp
      exact k_of (HK.out (.slice (some ⟨W.heap.size, 0, none⟩) 9 9) _ ⟨_, rfl, ints_blk (Blk.new _ _ _) rfl (by simp)⟩ (hB.out.on ((Below.refl _ W).alloc (Nat.le_refl _) _)) ((Below.refl _ W).alloc (Nat.le_refl _) _)) (by rw [← u1_eq e3, ← u1_eq e7, ← u1_eq e23, ← u1_eq e27, ← u1_eq e33, ← u1_eq e37, ← u1_eq e41, ← u1_eq e45, ← u1_eq e51]; kernel_rfl)
    · intro u W hB _ hd _ K hK
      have HK := Lib.hid hK; clear hK
      obtain ⟨b52, e52, k52⟩ : chkR w m 52 (u 52) W := hd 52 (by decide +kernel)
      refine wpOp_of rfl (by rfl) ?_
      go_simp
      refine (or_any (c := 9) k52).mono ?_
      rintro e w' ⟨rfl, hw'⟩
      subst hw'
      rw [orE_check]
      exact k_of (HK.out (.int .i64 (checkM m)) _ rfl hB (Below.refl _ _)) (by rw [← u1_eq e52]; kernel_rfl)
    · intro u W hB _ hd _ K hK
      have HK := Lib.hid hK; clear hK
      have e53 : u 53 = .int .i64 (checkM m) := hd 53 (by decide +kernel)
      refine wpOp_of rfl (by rfl) ?_
      go_simp
      exact k_of (HK.out (.int .i64 (checkM m)) _ rfl hB (Below.refl _ _)) (by rw [← u1_eq e53]; kernel_rfl)
  · intro u W hB hd
    have e54 : u 54 = .int .i64 (checkM m) := hd 54 (by decide)
    go_simp
    go_wp2_with fail
    go_ret
    exact ⟨rfl, hB.out.b⟩
end Go.Proofs.Ytljbjcnfkbmjkaa
