/- mould.Warm: contract. -/
import Derived.Test.YtljbjcnfkbmjkaaGn
namespace Go.Proofs.Ytljbjcnfkbmjkaa
open Go.RowKit Go.Shelf Go.Maps
attribute [local go_sem] Oper.semAt_some

structure WmB (w : World) (m : Md) (n : Int) (W : World) : Prop where
  b0 : MdBk w w.heap.size 25 m W
  b1 : Blk W (w.heap.size + 1) 3 #[.int .i64 n]
theorem WmB.on {w W W' : World} {m : Md} {n : Int} (h : WmB w m n W) (hb : Below W.heap.size W W') : WmB w m n W' := ⟨h.b0.on hb, h.b1.on hb⟩
theorem warmR_err {m : Md} {n : Int} (h : orE [checkM m, rangeE 0 600 [n]] ≠ 0) : warmR m n = ([], orE [checkM m, rangeE 0 600 [n]]) := by
  rw [or_two] at h ⊢
  unfold warmR
  by_cases h1 : checkM m = 0
  · by_cases h2 : inB n 0 600 = true
    · simp [h1, h2] at h
    · simp [h1, h2]
  · simp [h1]
theorem warmR_ok {m : Md} {n : Int} (h : orE [checkM m, rangeE 0 600 [n]] = 0) : MdOk m ∧ (0 ≤ n ∧ n ≤ 600) ∧ ∀ a b, warmL m false n.toNat = a → warmL m true n.toNat = b → warmR m n = (zipS a b, 0) := by
  rw [or_two] at h
  by_cases h1 : checkM m = 0
  · by_cases h2 : inB n 0 600 = true
    · refine ⟨checkM_ok.1 h1, by unfold inB at h2; simpa using h2, ?_⟩
      intro a b ha hb
      unfold warmR
      rw [if_neg (fun h => h h1), if_pos h2, ha, hb]
    · simp [h1, h2] at h
  · simp [h1] at h
theorem warm_st (m : Md) (n : Nat) : warmL m false n = stW m m.plo m.wlo n ∧ warmL m true n = stW m m.phi m.whi n := ⟨rfl, rfl⟩
theorem lle_la : ∀ {l l2 : List Int}, Lle l l2 → ∀ r, r < l.length → la l r ≤ la l2 r
  | [], _, _, r, h => by simp at h
  | _ :: _, [], h, _, _ => h.elim
  | a :: l, b :: l2, h, 0, _ => h.1
  | a :: l, b :: l2, h, r + 1, hr => by
    have := lle_la h.2 r (by simpa using hr)
    simpa [la] using this

theorem lle_rep : ∀ (n : Nat) {a b : Int}, a ≤ b → Lle (List.replicate n a) (List.replicate n b)
  | 0, _, _, _ => trivial
  | n + 1, _, _, h => ⟨h, lle_rep n h⟩
theorem st_mono {m : Md} (h : MdOk m) (k : Nat) : Lle (stW m m.plo m.wlo k) (stW m m.phi m.whi k) := by
  unfold stW
  exact afterL_mono (by have := h.give; omega) h.give.2 (lle_rep _ h.wall) (lle_rep _ h.pour)

set_option maxRecDepth 100000 in
set_option maxHeartbeats 4000000 in
theorem mwarm_any (m : Md) (n : Int) (w : World) :
    Calls Try.prog 23 #[.agg #[.int .i64 m.rings, .int .i64 m.give, .int .i64 m.plo, .int .i64 m.phi, .int .i64 m.wlo, .int .i64 m.whi, .int .i64 m.st, .int .i64 m.shrink, .int .i64 m.skin, .int .i64 m.fill, .int .i64 m.gap, .int .i64 m.deep], .int .i64 n] w fun e w' => ∃ v, e = .returned (.tuple #[v, .int .i64 (warmR m n).2]) ∧ SpansOut w.heap.size w' v (warmR m n).1 ∧ Below w.heap.size w w' := by
  have HB0 : Hid (WmB w m n ((w.alloc (.cells #[.int .i64 m.rings, .int .i64 m.give, .int .i64 m.plo, .int .i64 m.phi, .int .i64 m.wlo, .int .i64 m.whi, .int .i64 m.st, .int .i64 m.shrink, .int .i64 m.skin, .int .i64 m.fill, .int .i64 m.gap, .int .i64 m.deep] 25)).alloc (.cells #[.int .i64 n] 3))) :=
    ⟨⟨(Blk.new w _ _).alloc _, ((Below.refl _ w).alloc (Nat.le_refl _) _).alloc (by simp) _⟩, Blk.new1 w _ _ _⟩
  go_enter Try.func23, Try.ntmps23
  go_wp2_with fail
  refine wp_region_spec (by kernel_rfl) 7 (by kernel_rfl) (fun u => ⟨#[.agg #[.int .i64 m.rings, .int .i64 m.give, .int .i64 m.plo, .int .i64 m.phi, .int .i64 m.wlo, .int .i64 m.whi, .int .i64 m.st, .int .i64 m.shrink, .int .i64 m.skin, .int .i64 m.fill, .int .i64 m.gap, .int .i64 m.deep], .int .i64 n, .pointer (some ⟨w.heap.size, 0, none⟩), .pointer (some ⟨w.heap.size + 1, 0, none⟩), .slice none 0 0, .int .i64 0, u 6, undef, undef, u 0, u 1, u 2, u 3, u 4, u 5, undef, undef, undef, undef, undef, undef, undef, undef, undef, undef, undef, undef, undef], []⟩) (fun _ => undef) (fun W => Hid (WmB w m n W)) (twoR m n) (by kernel_rfl) (HB0.out.on (Below.refl _ _).drew) (fun i v W W2 hi h hb => twoR_on m n i hi v W W2 h hb) (by decide +kernel) ?_ ?_
  · iterate 7 (refine all_succ ?_ ?_)
    · exact all_zero
    · intro u W hB _ hd _ K hK
      have HK := Lib.hid hK; clear hK
      refine wpOp_of rfl (by rfl) ?_
      obtain ⟨c0, c1, c2, c3, c4, c5, c6, c7, c8, c9, c10, c11⟩ := hB.out.b0.cells
      go_simp
      exact k_of (HK.out (.agg #[.int .i64 m.rings, .int .i64 m.give, .int .i64 m.plo, .int .i64 m.phi, .int .i64 m.wlo, .int .i64 m.whi, .int .i64 m.st, .int .i64 m.shrink, .int .i64 m.skin, .int .i64 m.fill, .int .i64 m.gap, .int .i64 m.deep]) _ rfl hB (Below.refl _ _)) (by kernel_rfl)
    · intro u W hB _ hd _ K hK
      have HK := Lib.hid hK; clear hK
      have e0 : u 0 = .agg #[.int .i64 m.rings, .int .i64 m.give, .int .i64 m.plo, .int .i64 m.phi, .int .i64 m.wlo, .int .i64 m.whi, .int .i64 m.st, .int .i64 m.shrink, .int .i64 m.skin, .int .i64 m.fill, .int .i64 m.gap, .int .i64 m.deep] := hd 0 (by decide +kernel)
      refine wpOp_of rfl (by rfl) ?_
      go_simp
      refine (check_any m _).mono ?_
      rintro e w' ⟨rfl, hb⟩
      exact k_of (HK.out (.int .i64 (checkM m)) _ rfl (hB.out.on hb) hb) (by rw [← u1_eq e0]; kernel_rfl)
    · intro u W hB _ hd _ K hK
      have HK := Lib.hid hK; clear hK
      refine wpOp_of rfl (by rfl) ?_
      have c0 := hB.out.b1.cell 0
      go_simp
      exact k_of (HK.out (.int .i64 n) _ rfl hB (Below.refl _ _)) (by kernel_rfl)
    · intro u W hB _ hd _ K hK
      have HK := Lib.hid hK; clear hK
      have e2 : u 2 = .int .i64 n := hd 2 (by decide +kernel)
      refine wpOp_of rfl (by rfl) ?_
      go_simp
      refine (minute_any n _).mono ?_
      rintro e w' ⟨rfl, hb⟩
      exact k_of (HK.out (.int .i64 (rangeE 0 600 [n])) _ rfl (hB.out.on hb) hb) (by rw [← u1_eq e2]; kernel_rfl)
    · intro u W hB _ hd _ K hK
      have HK := Lib.hid hK; clear hK
      have e1 : u 1 = .int .i64 (checkM m) := hd 1 (by decide +kernel)
      have e3 : u 3 = .int .i64 (rangeE 0 600 [n]) := hd 3 (by decide +kernel)
      refine wpOp_of rfl (by rfl) ?_
      go_simp
      exact k_of (HK.out (.slice (some ⟨W.heap.size, 0, none⟩) 2 2) _ ⟨_, rfl, ints_blk (Blk.new _ _ _) rfl (by simp)⟩ (hB.out.on ((Below.refl _ W).alloc (Nat.le_refl _) _)) ((Below.refl _ W).alloc (Nat.le_refl _) _)) (by rw [← u1_eq e1, ← u1_eq e3]; kernel_rfl)
    · intro u W hB _ hd _ K hK
      have HK := Lib.hid hK; clear hK
      obtain ⟨b4, e4, k4⟩ : twoR m n 4 (u 4) W := hd 4 (by decide +kernel)
      refine wpOp_of rfl (by rfl) ?_
      go_simp
      refine (or_any (c := 2) k4).mono ?_
      rintro e w' ⟨rfl, hw'⟩
      subst hw'
      exact k_of (HK.out (.int .i64 (orE [checkM m, rangeE 0 600 [n]])) _ rfl hB (Below.refl _ _)) (by rw [← u1_eq e4]; kernel_rfl)
    · intro u W hB _ hd _ K hK
      have HK := Lib.hid hK; clear hK
      have e5 : u 5 = .int .i64 (orE [checkM m, rangeE 0 600 [n]]) := hd 5 (by decide +kernel)
      refine wpOp_of rfl (by rfl) ?_
      go_simp
      exact k_of (HK.out (.int .i64 (orE [checkM m, rangeE 0 600 [n]])) _ rfl hB (Below.refl _ _)) (by rw [← u1_eq e5]; kernel_rfl)
  · intro u W hB hd
    have e6 : u 6 = .int .i64 (orE [checkM m, rangeE 0 600 [n]]) := hd 6 (by decide)
    clear hd
    by_cases hE : orE [checkM m, rangeE 0 600 [n]] = 0
    · obtain ⟨hok, hn, hR⟩ := warmR_ok hE
      have hkr := kR_eq hok.toMdIn
      have hk8 := (kR_le hok.toMdIn).2
      obtain ⟨k, rfl⟩ : ∃ k : Nat, n = (k : Int) := ⟨n.toNat, by omega⟩
      rw [Int.toNat_natCast, (warm_st m k).1, (warm_st m k).2] at hR
      have hla := stW_length m m.plo m.wlo k
      have hlb := stW_length m m.phi m.whi k
      have hmono := st_mono hok k
      have hlt := lle_la hmono
      have HR := Lib.hid (hR _ _ rfl rfl)
      have HE := Lib.hid (fun (W : World) (B7 B3 : Nat) (h7 : Blk W B7 88 #[.int .i64 m.rings, .int .i64 m.give, .int .i64 m.plo, .int .i64 m.phi, .int .i64 m.wlo, .int .i64 m.whi, .int .i64 m.st, .int .i64 m.shrink, .int .i64 m.skin, .int .i64 m.fill, .int .i64 m.gap, .int .i64 m.deep]) (h3 : Blk W B3 3 #[.int .i64 (k : Int)]) => ends_warm (w := W) hok.toMdIn (by omega) h7 h3)
      clear hR hmono
      generalize stW m m.plo m.wlo k = a at *
      generalize stW m m.phi m.whi k = b at *
      rw [hE] at e6
      clear hE
      obtain ⟨c0, c1, c2, c3, c4, c5, c6, c7, c8, c9, c10, c11⟩ := hB.out.b0.cells
      go_simp
      go_wp2_with (first
        | (go_at_call 59; refine (HE.out _ _ _ (Blk.new W _ _) (hB.out.b1.alloc _)).mono ?_; rintro e w2 ⟨rfl, hb2⟩; clear c0 c1 c2 c3 c4 c5 c6 c7 c8 c9 c10 c11; have HV := Lib.hid ((MdBk.new W 88 m).on hb2); have hvl := HV.out.bk.lt; obtain ⟨c0, c1, c2, c3, c4, c5, c6, c7, c8, c9, c10, c11⟩ := HV.out.cells; have HB2 := Lib.hid ((hB.out.on ((Below.refl _ W).alloc (Nat.le_refl _) (.cells #[.int .i64 m.rings, .int .i64 m.give, .int .i64 m.plo, .int .i64 m.phi, .int .i64 m.wlo, .int .i64 m.whi, .int .i64 m.st, .int .i64 m.shrink, .int .i64 m.skin, .int .i64 m.fill, .int .i64 m.gap, .int .i64 m.deep] 88))).on hb2); clear hb2)
        | (go_at_call 62; refine (spansW_any (l := a) (l2 := b) (by omega) (by omega) (by omega) hlt).mono ?_; rintro e w5 ⟨v, rfl, hv, hb5⟩; have HV5 := Lib.hid hv; have HB5 := Lib.hid ((HB2.out.on ((Below.refl _ w2).alloc (Nat.le_refl _) _)).on hb5); have HBZ := Lib.hid (show w.heap.size ≤ (w2.alloc (.cells #[.int .i64 (la a 0), .int .i64 (la a 1), .int .i64 (la a 2), .int .i64 (la a 3), .int .i64 (la a 4), .int .i64 (la a 5), .int .i64 (la a 6), .int .i64 (la a 7), .int .i64 (la b 0), .int .i64 (la b 1), .int .i64 (la b 2), .int .i64 (la b 3), .int .i64 (la b 4), .int .i64 (la b 5), .int .i64 (la b 6), .int .i64 (la b 7)] 95)).heap.size by have := HB2.out.b0.b.size; simp; omega); clear hv hb5)
        | fail)
      refine bodyPost_ret (v := .tuple #[v, .int .i64 0]) (by simp [results, Try.results23, go_sem]) rfl ⟨v, by rw [HR.out], by rw [HR.out]; exact own_base HV5.out HBZ.out, HB5.out.b0.b⟩
    · have hz : (orE [checkM m, rangeE 0 600 [n]] != 0) = true := by simpa using hE
      have HR := Lib.hid (warmR_err hE)
      generalize orE [checkM m, rangeE 0 600 [n]] = z at *
      go_simp
      go_wp2_with fail
      refine bodyPost_ret (v := .tuple #[.slice none 0 0, .int .i64 z]) (by simp [results, Try.results23, go_sem]) rfl ⟨.slice none 0 0, by rw [HR.out], by rw [HR.out]; exact SpansOut.nil _ _, hB.out.b0.b⟩
end Go.Proofs.Ytljbjcnfkbmjkaa
