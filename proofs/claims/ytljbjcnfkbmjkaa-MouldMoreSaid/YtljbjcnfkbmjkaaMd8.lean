/- mould.Skin: contract. -/
import Derived.Test.YtljbjcnfkbmjkaaMd7
namespace Go.Proofs.Ytljbjcnfkbmjkaa
open Go.RowKit Go.Shelf Go.Maps
attribute [local go_sem] Oper.semAt_some

/-- What each operation leaves. -/
def twoR (m : Md) (n : Int) : Nat → Value → World → Prop
  | 0, v, _ => v = .agg #[.int .i64 m.rings, .int .i64 m.give, .int .i64 m.plo, .int .i64 m.phi, .int .i64 m.wlo, .int .i64 m.whi, .int .i64 m.st, .int .i64 m.shrink, .int .i64 m.skin, .int .i64 m.fill, .int .i64 m.gap, .int .i64 m.deep]
  | 1, v, _ => v = .int .i64 (checkM m)
  | 2, v, _ => v = .int .i64 n
  | 3, v, _ => v = .int .i64 (rangeE 0 600 [n])
  | 4, v, W => ∃ b, v = .slice (some ⟨b, 0, none⟩) 2 2 ∧ IntsIn W (some ⟨b, 0, none⟩) [checkM m, rangeE 0 600 [n]]
  | 5, v, _ => v = .int .i64 (orE [checkM m, rangeE 0 600 [n]])
  | 6, v, _ => v = .int .i64 (orE [checkM m, rangeE 0 600 [n]])
  | _, _, _ => True
theorem twoR_on (m : Md) (n : Int) : ∀ i, i < 7 → ∀ v W W', twoR m n i v W → Below W.heap.size W W' → twoR m n i v W' := by
  iterate 7 (refine all_succ ?_ ?_)
  · exact all_zero
  · exact fun _ _ _ h _ => h
  · exact fun _ _ _ h _ => h
  · exact fun _ _ _ h _ => h
  · exact fun _ _ _ h _ => h
  · rintro v W W' ⟨b, e, h⟩ hb; exact ⟨b, e, h.on hb⟩
  · exact fun _ _ _ h _ => h
  · exact fun _ _ _ h _ => h
theorem or_two (m : Md) (n : Int) : orE [checkM m, rangeE 0 600 [n]] = if checkM m ≠ 0 then checkM m else if inB n 0 600 = true then 0 else 7 := by
  simp only [orE, rangeE, List.all_cons, List.all_nil, Bool.and_true]
  by_cases h : checkM m = 0
  · by_cases h2 : inB n 0 600 = true
    · simp [h, h2]
    · simp [h, h2]
  · simp [h]
theorem setN_mono2 {a b : List Int} (hl : a.length = b.length) (h : Wle a b) (n : Int) : setN b n ≤ setN a n := by
  unfold setN
  rw [hl]
  exact gsum_mono (fun s hs => by rw [List.mem_replicate] at hs; omega) h (Int.le_refl _)
structure SkB (w : World) (m : Md) (n : Int) (W : World) : Prop where
  b0 : MdBk w w.heap.size 25 m W
  b1 : Blk W (w.heap.size + 1) 3 #[.int .i64 n]
  b4 : Blk W (w.heap.size + 1 + 1) 23 #[.int .i64 0, .int .i64 0]
theorem SkB.on {w W W' : World} {m : Md} {n : Int} (h : SkB w m n W) (hb : Below W.heap.size W W') : SkB w m n W' := ⟨h.b0.on hb, h.b1.on hb, h.b4.on hb⟩
theorem skinR_err {m : Md} {n : Int} (h : orE [checkM m, rangeE 0 600 [n]] ≠ 0) : skinR m n = ((0, 0), orE [checkM m, rangeE 0 600 [n]]) := by
  rw [or_two] at h ⊢
  unfold skinR
  by_cases h1 : checkM m = 0
  · by_cases h2 : inB n 0 600 = true
    · simp [h1, h2] at h
    · simp [h1, h2]
  · simp [h1]
theorem skinR_ok {m : Md} {n : Int} (h : orE [checkM m, rangeE 0 600 [n]] = 0) : MdOk m ∧ (0 ≤ n ∧ n ≤ 600) ∧ ∀ a b, wh m false = a → wh m true = b → skinR m n = ((setN b n, setN a n), 0) := by
  rw [or_two] at h
  by_cases h1 : checkM m = 0
  · by_cases h2 : inB n 0 600 = true
    · refine ⟨checkM_ok.1 h1, by unfold inB at h2; simpa using h2, ?_⟩
      intro a b ha hb
      unfold skinR
      rw [if_neg (fun h => h h1), if_pos h2, ha, hb]
    · simp [h1, h2] at h
  · simp [h1] at h
set_option maxRecDepth 100000 in
set_option maxHeartbeats 4000000 in
theorem mskin_any (m : Md) (n : Int) (w : World) :
    Calls Try.prog 29 #[.agg #[.int .i64 m.rings, .int .i64 m.give, .int .i64 m.plo, .int .i64 m.phi, .int .i64 m.wlo, .int .i64 m.whi, .int .i64 m.st, .int .i64 m.shrink, .int .i64 m.skin, .int .i64 m.fill, .int .i64 m.gap, .int .i64 m.deep], .int .i64 n] w fun e w' => e = .returned (.tuple #[.agg #[.int .i64 (skinR m n).1.1, .int .i64 (skinR m n).1.2], .int .i64 (skinR m n).2]) ∧ Below w.heap.size w w' := by
  have HB0 : Hid (SkB w m n (((w.alloc (.cells #[.int .i64 m.rings, .int .i64 m.give, .int .i64 m.plo, .int .i64 m.phi, .int .i64 m.wlo, .int .i64 m.whi, .int .i64 m.st, .int .i64 m.shrink, .int .i64 m.skin, .int .i64 m.fill, .int .i64 m.gap, .int .i64 m.deep] 25)).alloc (.cells #[.int .i64 n] 3)).alloc (.cells #[.int .i64 0, .int .i64 0] 23))) :=
    ⟨⟨((Blk.new w _ _).alloc _).alloc _, (((Below.refl _ w).alloc (Nat.le_refl _) _).alloc (by simp) _).alloc (by simp; omega) _⟩, (Blk.new1 w _ _ _).alloc _, Blk.new2 w _ _ _ _⟩
  go_enter Try.func29, Try.ntmps29
  go_wp2_with fail
  refine wp_region_spec (by kernel_rfl) 7 (by kernel_rfl) (fun u => ⟨#[.agg #[.int .i64 m.rings, .int .i64 m.give, .int .i64 m.plo, .int .i64 m.phi, .int .i64 m.wlo, .int .i64 m.whi, .int .i64 m.st, .int .i64 m.shrink, .int .i64 m.skin, .int .i64 m.fill, .int .i64 m.gap, .int .i64 m.deep], .int .i64 n, .pointer (some ⟨w.heap.size, 0, none⟩), .pointer (some ⟨w.heap.size + 1, 0, none⟩), .pointer (some ⟨w.heap.size + 1 + 1, 0, none⟩), .int .i64 0, u 6, undef, u 0, u 1, u 2, u 3, u 4, u 5, undef, undef, undef, undef, undef, undef, undef, undef, undef, undef, undef, undef], []⟩) (fun _ => undef) (fun W => Hid (SkB w m n W)) (twoR m n) (by kernel_rfl) (HB0.out.on (Below.refl _ _).drew) (fun i v W W2 hi h hb => twoR_on m n i hi v W W2 h hb) (by decide +kernel) ?_ ?_
  · iterate 7 (refine all_succ ?_ ?_)
    · exact all_zero
    · intro u W hB _ hd _ K hK
      have HK := Lib.hid hK; clear hK
      refine wpOp_of rfl (by rfl) ?_
      obtain ⟨c0, c1, c2, c3, c4, c5, c6, c7, c8, c9, c10, c11⟩ := hB.out.b0.cells
      go_simp
      exact k_of (HK.out (.agg #[.int .i64 m.rings, .int .i64 m.give, .int .i64 m.plo, .int .i64 m.phi, .int .i64 m.wlo, .int .i64 m.whi, .int .i64 m.st, .int .i64 m.shrink, .int .i64 m.skin, .int .i64 m.fill, .int .i64 m.gap, .int .i64 m.deep]) _ rfl hB (Below.refl _ _)) (by kernel_rfl)
    · intro u W hB _ hd _ K hK
      have HK := Lib.hid hK; clear hK
      have e0 : u 0 = .agg #[.int .i64 m.rings, .int .i64 m.give, .int .i64 m.plo, .int .i64 m.phi, .int .i64 m.wlo, .int .i64 m.whi, .int .i64 m.st, .int .i64 m.shrink, .int .i64 m.skin, .int .i64 m.fill, .int .i64 m.gap, .int .i64 m.deep] := hd 0 (by decide +kernel)
      refine wpOp_of rfl (by rfl) ?_
      go_simp
      refine (check_any m _).mono ?_
      rintro e w' ⟨rfl, hb⟩
      exact k_of (HK.out (.int .i64 (checkM m)) _ rfl (hB.out.on hb) hb) (by rw [← u1_eq e0]; kernel_rfl)
    · intro u W hB _ hd _ K hK
      have HK := Lib.hid hK; clear hK
      refine wpOp_of rfl (by rfl) ?_
      have c0 := hB.out.b1.cell 0
      go_simp
      exact k_of (HK.out (.int .i64 n) _ rfl hB (Below.refl _ _)) (by kernel_rfl)
    · intro u W hB _ hd _ K hK
      have HK := Lib.hid hK; clear hK
      have e2 : u 2 = .int .i64 n := hd 2 (by decide +kernel)
      refine wpOp_of rfl (by rfl) ?_
      go_simp
      refine (minute_any n _).mono ?_
      rintro e w' ⟨rfl, hb⟩
      exact k_of (HK.out (.int .i64 (rangeE 0 600 [n])) _ rfl (hB.out.on hb) hb) (by rw [← u1_eq e2]; kernel_rfl)
    · intro u W hB _ hd _ K hK
      have HK := Lib.hid hK; clear hK
      have e1 : u 1 = .int .i64 (checkM m) := hd 1 (by decide +kernel)
      have e3 : u 3 = .int .i64 (rangeE 0 600 [n]) := hd 3 (by decide +kernel)
      refine wpOp_of rfl (by rfl) ?_
      go_simp
      exact k_of (HK.out (.slice (some ⟨W.heap.size, 0, none⟩) 2 2) _ ⟨_, rfl, ints_blk (Blk.new _ _ _) rfl (by simp)⟩ (hB.out.on ((Below.refl _ W).alloc (Nat.le_refl _) _)) ((Below.refl _ W).alloc (Nat.le_refl _) _)) (by rw [← u1_eq e1, ← u1_eq e3]; kernel_rfl)
    · intro u W hB _ hd _ K hK
      have HK := Lib.hid hK; clear hK
      obtain ⟨b4, e4, k4⟩ : twoR m n 4 (u 4) W := hd 4 (by decide +kernel)
      refine wpOp_of rfl (by rfl) ?_
      go_simp
      refine (or_any (c := 2) k4).mono ?_
      rintro e w' ⟨rfl, hw'⟩
      subst hw'
      exact k_of (HK.out (.int .i64 (orE [checkM m, rangeE 0 600 [n]])) _ rfl hB (Below.refl _ _)) (by rw [← u1_eq e4]; kernel_rfl)
    · intro u W hB _ hd _ K hK
      have HK := Lib.hid hK; clear hK
      have e5 : u 5 = .int .i64 (orE [checkM m, rangeE 0 600 [n]]) := hd 5 (by decide +kernel)
      refine wpOp_of rfl (by rfl) ?_
      go_simp
      exact k_of (HK.out (.int .i64 (orE [checkM m, rangeE 0 600 [n]])) _ rfl hB (Below.refl _ _)) (by rw [← u1_eq e5]; kernel_rfl)
  · intro u W hB hd
    have e6 : u 6 = .int .i64 (orE [checkM m, rangeE 0 600 [n]]) := hd 6 (by decide)
    clear hd
    by_cases hE : orE [checkM m, rangeE 0 600 [n]] = 0
    · obtain ⟨hok, hn, hR⟩ := skinR_ok hE
      have hkr := kR_eq hok.toMdIn
      have hk8 := (kR_le hok.toMdIn).2
      have hla := wh_length m false
      have hlb := wh_length m true
      have HE := Lib.hid (fun (W : World) => ends_wh (w := W) hok.toMdIn)
      have HW := Lib.hid (fun (a b : List Int) (ha : wh m false = a) (hb : wh m true = b) => wh_ab hok ha hb)
      obtain ⟨a, ha⟩ : ∃ a, wh m false = a := ⟨_, rfl⟩
      obtain ⟨b, hb⟩ : ∃ b, wh m true = b := ⟨_, rfl⟩
      have HR := Lib.hid (hR a b ha hb)
      have HW2 := Lib.hid (HW.out a b ha hb)
      rw [ha] at hla HE
      rw [hb] at hlb HE
      clear HW ha hb hR
      have hmono : setN b n ≤ setN a n := setN_mono2 (by omega) HW2.out n
      rw [hE] at e6
      clear hE
      obtain ⟨c0, c1, c2, c3, c4, c5, c6, c7, c8, c9, c10, c11⟩ := hB.out.b0.cells
      go_simp
      go_wp2_with (first
        | (go_at_call 64; refine (HE.out _).mono ?_; rintro e w2 ⟨c, h, rfl, hc, hh, hb2⟩; clear c0 c1 c2 c3 c4 c5 c6 c7 c8 c9 c10 c11; have HB2 := Lib.hid (((hB.out.on ((Below.refl _ W).alloc (Nat.le_refl _) (.cells #[.int .i64 m.rings, .int .i64 m.give, .int .i64 m.plo, .int .i64 m.phi, .int .i64 m.wlo, .int .i64 m.whi, .int .i64 m.st, .int .i64 m.shrink, .int .i64 m.skin, .int .i64 m.fill, .int .i64 m.gap, .int .i64 m.deep] 88)))).on hb2); have HC := Lib.hid hc; have HH := Lib.hid hh; clear hc hh hb2)
        | (go_at_call 70; refine (spanK_any HC.out HH.out (by omega) (by omega) hmono (HB2.out.b1.cell 0)).mono ?_; rintro e w5 ⟨rfl, hb5⟩; have HB5 := Lib.hid (HB2.out.on hb5); have f0 := HB5.out.b4.frozen 0; have f1 := HB5.out.b4.frozen 1; have d0 := HB5.out.b4.cell 0; have d1 := HB5.out.b4.cell 1; clear hb5)
        | fail)
      have s0 := (HB5.out.b4.set_ 0 (.int .i64 (setN b n))).cell 0
      have s1 := ((HB5.out.b4.set_ 0 (.int .i64 (setN b n))).set_ 1 (.int .i64 (setN a n))).cell 1
      refine bodyPost_ret (v := .tuple #[.agg #[.int .i64 (setN b n), .int .i64 (setN a n)], .int .i64 0]) (by simp at s0 s1; simp [results, Try.results29, go_sem, s0, s1]) rfl ⟨by rw [HR.out], ?_⟩
      exact below_set (below_set HB5.out.b0.b (by omega)) (by omega)
    · have hz : (orE [checkM m, rangeE 0 600 [n]] != 0) = true := by simpa using hE
      have HR := Lib.hid (skinR_err hE)
      generalize orE [checkM m, rangeE 0 600 [n]] = z at *
      have f0 := hB.out.b4.frozen 0
      have f1 := hB.out.b4.frozen 1
      have c0 := hB.out.b4.cell 0
      have c1 := hB.out.b4.cell 1
      go_simp
      go_wp2_with fail
      have s0 := (hB.out.b4.set_ 0 (.int .i64 0)).cell 0
      have s1 := ((hB.out.b4.set_ 0 (.int .i64 0)).set_ 1 (.int .i64 0)).cell 1
      refine bodyPost_ret (v := .tuple #[.agg #[.int .i64 0, .int .i64 0], .int .i64 z]) (by simp at s0 s1; simp [results, Try.results29, go_sem, s0, s1]) rfl ⟨by rw [HR.out], ?_⟩
      exact below_set (below_set hB.out.b0.b (by omega)) (by omega)
end Go.Proofs.Ytljbjcnfkbmjkaa
