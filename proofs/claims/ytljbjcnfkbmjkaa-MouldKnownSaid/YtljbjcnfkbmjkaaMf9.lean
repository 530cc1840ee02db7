/- MouldKnown: the law. -/
import Derived.Test.YtljbjcnfkbmjkaaMf8
namespace Go.Proofs.Ytljbjcnfkbmjkaa
open Go.RowKit Go.Shelf Go.Maps
attribute [local go_sem] Oper.semAt_some

theorem KnB.alloc {w W : World} {A1 A2 : Option Addr} {N W0 E : Nat} (h : KnB w A1 A2 N W0 E W) (o : Obj) : KnB w A1 A2 N W0 E (W.alloc o) := h.on ((Below.refl _ W).alloc (Nat.le_refl _) _)
set_option maxRecDepth 100000 in
set_option maxHeartbeats 8000000 in
theorem lknown_any (w : World) :
    Calls Try.prog 6 #[] w fun e w' => e = .returned (.bool true) ∧ Below w.heap.size w w' := by
  have LAST := Lib.hid (Stn.new w)
  go_enter Try.func6, Try.ntmps6
  go_wp2_with (first
    | (go_at_call 35; (with_reducible refine (lmould_any 150 _).mono ?_); rintro e wn ⟨rfl, hb⟩; have NEW := Lib.hid (show Stn w _ _ by (first | exact LAST.out.on hb | exact (LAST.out.alloc _).on hb | exact ((LAST.out.alloc _).alloc _).on hb)); clear LAST; have LAST := NEW; clear NEW; clear hb)
    | (go_at_call 20; (refine (kn_cool (ints_blk ((Blk.new _ _ _).alloc _) rfl (by simp)) (ints_blk (Blk.new1 _ _ _ _) rfl (by simp))).mono ?_); rintro e wn ⟨A1, n1, rfl, hi, hb⟩; have NEW := Lib.hid (show Stn w _ _ by (first | exact LAST.out.on hb | exact (LAST.out.alloc _).on hb | exact ((LAST.out.alloc _).alloc _).on hb)); clear LAST; have LAST := NEW; clear NEW; have NEW := Lib.hid (LAST.out.add hi (ints_st _ _)); clear LAST; have LAST := NEW; clear NEW; clear hb)
    | (go_at_call 23; (with_reducible refine (kn_warm _).mono ?_); rintro e wm ⟨A2, n2, rfl, hi, hb⟩; have NEW := Lib.hid (show Stn w _ _ by (first | exact LAST.out.on hb | exact (LAST.out.alloc _).on hb | exact ((LAST.out.alloc _).alloc _).on hb)); clear LAST; have LAST := NEW; clear NEW; have NEW := Lib.hid (LAST.out.add hi (spans_st _ _)); clear LAST; have LAST := NEW; clear NEW; clear hb)
    | (go_at_call 36; (with_reducible refine (span_any 0 0 _).mono ?_); rintro e ws ⟨rfl, hb⟩; have NEW := Lib.hid (show Stn w _ _ by exact ((LAST.out.alloc (.cells #[.int .i64 0, .int .i64 2, .int .i64 3] 3)).add (Blk.new _ _ _) (blk_st _ _ _)).on hb); clear LAST; have LAST := NEW; clear NEW; clear hb)
    | (go_at_call 36; (with_reducible refine (span_any 0 1 _).mono ?_); rintro e wn ⟨rfl, hb⟩; have NEW := Lib.hid (show Stn w _ _ by (first | exact LAST.out.on hb | exact (LAST.out.alloc _).on hb | exact ((LAST.out.alloc _).alloc _).on hb)); clear LAST; have LAST := NEW; clear NEW; clear hb)
    | (go_at_call 36; (with_reducible refine (span_any 1 1 _).mono ?_); rintro e wp ⟨rfl, hb⟩; have NEW := Lib.hid (show Stn w _ _ by (first | exact LAST.out.on hb | exact (LAST.out.alloc _).on hb | exact ((LAST.out.alloc _).alloc _).on hb)); clear LAST; have LAST := NEW; clear NEW; clear hb)
    | (go_at_call 37; (with_reducible refine (lend_any 400 400 0 0 _).mono ?_); rintro e wn ⟨rfl, hb⟩; have NEW := Lib.hid (show Stn w _ _ by exact (((((((((LAST.out.alloc (.cells #[.int .i64 0, .int .i64 0, .int .i64 0, .int .i64 1, .int .i64 1, .int .i64 1] 23)).add (Blk.new _ _ _) (blk_st _ _ _)).alloc (.cells #[.int .i64 2] 3)).add (Blk.new1 _ _ _ _) (blk_st _ _ _)).alloc (.cells #[.int .i64 3] 3)).add (Blk.new2 _ _ _ _ _) (blk_st _ _ _)).alloc (.cells #[.slice none 0 0, .slice (some ⟨wp.heap.size + 1, 0, none⟩) 1 1, .slice (some ⟨wp.heap.size + 1 + 1, 0, none⟩) 1 1] 26)).add (Blk.new3 _ _ _ _ _ _) (blk_st _ _ _))).on hb); clear LAST; have LAST := NEW; clear NEW; clear hb)
    | (go_at_call 37; (with_reducible refine (lend_any 150 400 0 250 _).mono ?_); rintro e wn ⟨rfl, hb⟩; have NEW := Lib.hid (show Stn w _ _ by (first | exact LAST.out.on hb | exact (LAST.out.alloc _).on hb | exact ((LAST.out.alloc _).alloc _).on hb)); clear LAST; have LAST := NEW; clear NEW; clear hb)
    | (go_at_call 37; (with_reducible refine (lend_any 150 150 250 250 _).mono ?_); rintro e we ⟨rfl, hb⟩; have NEW := Lib.hid (show Stn w _ _ by (first | exact LAST.out.on hb | exact (LAST.out.alloc _).on hb | exact ((LAST.out.alloc _).alloc _).on hb)); clear LAST; have LAST := NEW; clear NEW; clear hb)
    | fail)
  have NEW := Lib.hid ((LAST.out.alloc (.cells #[.int .i64 400, .int .i64 400, .int .i64 0, .int .i64 0, .int .i64 150, .int .i64 400, .int .i64 0, .int .i64 250, .int .i64 150, .int .i64 150, .int .i64 250, .int .i64 250] 45)).add (Blk.new _ _ _) (blk_st _ _ _))
  obtain ⟨⟨⟨⟨⟨⟨⟨⟨-, hi1⟩, hi2⟩, hm⟩, hw⟩, hp2⟩, hp3⟩, hpl⟩, hen⟩ := NEW.out.p
  have HK : Hid (KnB w A1 A2 wm.heap.size wp.heap.size we.heap.size _) := ⟨NEW.out.b, hi1, hi2, hm, hw, hp2, hp3, hpl, hen⟩
  generalize hN : wm.heap.size = N at HK ⊢
  generalize hW0 : wp.heap.size = W0 at HK ⊢
  generalize hE : we.heap.size = E at HK ⊢
  generalize hWB : we.alloc _ = WB at HK ⊢
  clear hN hW0 hE hWB LAST NEW hi1 hi2 hm hw hp2 hp3 hpl hen
  go_loopw [9] (fun i W => Hid (Below WB.heap.size WB W) ∧ (i = .int .i64 0 ∨ i = .int .i64 1 ∨ i = .int .i64 2 ∨ i = .int .i64 3)) (fun i _ => 3 - (intOf i).toNat)
  case atStart => exact ⟨Below.refl _ _, .inl rfl⟩
  case round =>
    obtain ⟨HB, hcs⟩ := hrel
    rcases hcs with rfl | rfl | rfl | rfl
    · have e1 : ∀ W, (binOp .neq 23 (.agg #[.int .i64 0, .int .i64 0]) (.agg #[.int .i64 0, .int .i64 0])).run Try.prog W = .ok (.bool false) W := fun _ => by kernel_rfl
      have e2 : ∀ W, (binOp .neq 45 (.agg #[.int .i64 400, .int .i64 400, .int .i64 0, .int .i64 0]) (.agg #[.int .i64 400, .int .i64 400, .int .i64 0, .int .i64 0])).run Try.prog W = .ok (.bool false) W := fun _ => by kernel_rfl
      go_wp2_with fail
      refine wp_of_eq (kn_r8 (WB := WB) (N := N) (i := 0) (by decide) (HK.out.mi.cell 0) HK.out.mi.lt kv_s0 HB (fun K _ _ _ _ _ _ _ _ _ W8 hb8 hk8 => ?_)) (by kernel_rfl)
      go_wp2_with fail
      refine wp_of_eq (kn_r9 (WB := W8) (N := W0 + 1 + 1 + 1) (i := 0) (c := 0) (A := none) (l := []) (by decide) ((HK.out.pl.on hb8).cell 0) (HK.out.pl.on hb8).lt (IntsIn.nil _ _) kv_h0 (Below.refl _ _) (fun X _ _ _ _ _ _ _ _ _ W9 hb9 hx9 => ?_)) (by kernel_rfl)
      have HB9 : Hid (Below WB.heap.size WB W9) := hb8.trans (hb9.mono hb8.size)
      have HK9 := Lib.hid (HK.out.on HB9.out)
      have k0 := (hk8.on hb9).cell 0
      have k1 := (hk8.on hb9).cell 1
      have x0 := hx9.cell 0
      have x1 := hx9.cell 1
      have x2 := hx9.cell 2
      have x3 := hx9.cell 3
      have v0 := HK9.out.wa.cell 0
      have v1 := HK9.out.wa.cell 1
      have n0 := HK9.out.en.cell 0
      have n1 := HK9.out.en.cell 1
      have n2 := HK9.out.en.cell 2
      have n3 := HK9.out.en.cell 3
      clear hb8 hk8 hb9 hx9
      go_wp2_with fail
      go_quiet (fail)
      go_wp2_with fail
      go_roundw
      case rel => exact ⟨below_drewN' HB9.out _, .inr (.inl rfl)⟩
      case measure => decide
    · have e1 : ∀ W, (binOp .neq 23 (.agg #[.int .i64 0, .int .i64 1]) (.agg #[.int .i64 0, .int .i64 1])).run Try.prog W = .ok (.bool false) W := fun _ => by kernel_rfl
      have e2 : ∀ W, (binOp .neq 45 (.agg #[.int .i64 150, .int .i64 400, .int .i64 0, .int .i64 250]) (.agg #[.int .i64 150, .int .i64 400, .int .i64 0, .int .i64 250])).run Try.prog W = .ok (.bool false) W := fun _ => by kernel_rfl
      go_wp2_with fail
      refine wp_of_eq (kn_r8 (WB := WB) (N := N) (i := 1) (by decide) (HK.out.mi.cell 1) HK.out.mi.lt kv_s2 HB (fun K _ _ _ _ _ _ _ _ _ W8 hb8 hk8 => ?_)) (by kernel_rfl)
      go_wp2_with fail
      refine wp_of_eq (kn_r9 (WB := W8) (N := W0 + 1 + 1 + 1) (i := 1) (c := 1) (A := (some ⟨W0 + 1, 0, none⟩)) (l := [2]) (by decide) ((HK.out.pl.on hb8).cell 1) (HK.out.pl.on hb8).lt (ints_blk (HK.out.p2.on hb8) rfl (by simp)) kv_h2 (Below.refl _ _) (fun X _ _ _ _ _ _ _ _ _ W9 hb9 hx9 => ?_)) (by kernel_rfl)
      have HB9 : Hid (Below WB.heap.size WB W9) := hb8.trans (hb9.mono hb8.size)
      have HK9 := Lib.hid (HK.out.on HB9.out)
      have k0 := (hk8.on hb9).cell 0
      have k1 := (hk8.on hb9).cell 1
      have x0 := hx9.cell 0
      have x1 := hx9.cell 1
      have x2 := hx9.cell 2
      have x3 := hx9.cell 3
      have v0 := HK9.out.wa.cell 2
      have v1 := HK9.out.wa.cell 3
      have n0 := HK9.out.en.cell 4
      have n1 := HK9.out.en.cell 5
      have n2 := HK9.out.en.cell 6
      have n3 := HK9.out.en.cell 7
      clear hb8 hk8 hb9 hx9
      go_wp2_with fail
      go_quiet (fail)
      go_wp2_with fail
      go_roundw
      case rel => exact ⟨below_drewN' HB9.out _, .inr (.inr (.inl rfl))⟩
      case measure => decide
    · have e1 : ∀ W, (binOp .neq 23 (.agg #[.int .i64 1, .int .i64 1]) (.agg #[.int .i64 1, .int .i64 1])).run Try.prog W = .ok (.bool false) W := fun _ => by kernel_rfl
      have e2 : ∀ W, (binOp .neq 45 (.agg #[.int .i64 150, .int .i64 150, .int .i64 250, .int .i64 250]) (.agg #[.int .i64 150, .int .i64 150, .int .i64 250, .int .i64 250])).run Try.prog W = .ok (.bool false) W := fun _ => by kernel_rfl
      go_wp2_with fail
      refine wp_of_eq (kn_r8 (WB := WB) (N := N) (i := 2) (by decide) (HK.out.mi.cell 2) HK.out.mi.lt kv_s3 HB (fun K _ _ _ _ _ _ _ _ _ W8 hb8 hk8 => ?_)) (by kernel_rfl)
      go_wp2_with fail
      refine wp_of_eq (kn_r9 (WB := W8) (N := W0 + 1 + 1 + 1) (i := 2) (c := 1) (A := (some ⟨W0 + 1 + 1, 0, none⟩)) (l := [3]) (by decide) ((HK.out.pl.on hb8).cell 2) (HK.out.pl.on hb8).lt (ints_blk (HK.out.p3.on hb8) rfl (by simp)) kv_h3 (Below.refl _ _) (fun X _ _ _ _ _ _ _ _ _ W9 hb9 hx9 => ?_)) (by kernel_rfl)
      have HB9 : Hid (Below WB.heap.size WB W9) := hb8.trans (hb9.mono hb8.size)
      have HK9 := Lib.hid (HK.out.on HB9.out)
      have k0 := (hk8.on hb9).cell 0
      have k1 := (hk8.on hb9).cell 1
      have x0 := hx9.cell 0
      have x1 := hx9.cell 1
      have x2 := hx9.cell 2
      have x3 := hx9.cell 3
      have v0 := HK9.out.wa.cell 4
      have v1 := HK9.out.wa.cell 5
      have n0 := HK9.out.en.cell 8
      have n1 := HK9.out.en.cell 9
      have n2 := HK9.out.en.cell 10
      have n3 := HK9.out.en.cell 11
      clear hb8 hk8 hb9 hx9
      go_wp2_with fail
      go_quiet (fail)
      go_wp2_with fail
      go_roundw
      case rel => exact ⟨below_drewN' HB9.out _, .inr (.inr (.inr rfl))⟩
      case measure => decide
    · have LAST := Lib.hid (HK.out.on HB.out)
      clear HK
      go_wp2_with (first
        | (go_at_call 35; (with_reducible refine (lmould_any 400 _).mono ?_); rintro e wn ⟨rfl, hb⟩; have NEW := Lib.hid (LAST.out.on hb); clear LAST; have LAST := NEW; clear NEW hb)
        | (go_at_call 33; (with_reducible refine (kn_few _).mono ?_); rintro e wn ⟨A4, n4, rfl, hb⟩; have NEW := Lib.hid (LAST.out.on hb); clear LAST; have LAST := NEW; clear NEW hb)
        | (go_at_call 35; (with_reducible refine (lmould_any 150 _).mono ?_); rintro e wn ⟨rfl, hb⟩; have NEW := Lib.hid (LAST.out.on hb); clear LAST; have LAST := NEW; clear NEW hb)
        | (go_at_call 31; (refine (kn_holl (l := [4]) (c := 1) (ints_blk (Blk.new _ _ _) rfl (by simp)) kv_h4).mono ?_); rintro e wn ⟨rfl, hb⟩; have NEW := Lib.hid ((LAST.out.alloc _).on hb); clear LAST; have LAST := NEW; clear NEW hb)
        | (go_at_call 22; (refine (aw_ints (a := 387) (b := 500) (by simp) (by simp) (by simp) (((LAST.out.alloc _).alloc _).a1)).mono ?_); rintro e wn ⟨rfl, hb⟩; have NEW := Lib.hid (((LAST.out.alloc _).alloc _).on hb); clear LAST; have LAST := NEW; clear NEW hb)
        | (go_at_call 36; (with_reducible refine (span_any _ _ _).mono ?_); rintro e wn ⟨rfl, hb⟩; have NEW := Lib.hid (LAST.out.on hb); clear LAST; have LAST := NEW; clear NEW hb)
        | (go_at_call 25; (refine (aw_spans (a := 500) (b := 550) (c := 800) (d := 800) (by simp) (by simp) (by simp) (by simp) (by simp) ((LAST.out.alloc _).a2)).mono ?_); rintro e wn ⟨rfl, hb⟩; have NEW := Lib.hid ((LAST.out.alloc _).on hb); clear LAST; have LAST := NEW; clear NEW hb)
        | (go_at_call 26; (with_reducible refine (awake_any _).mono ?_); rintro e wn ⟨rfl, hb⟩; have NEW := Lib.hid (LAST.out.on hb); clear LAST; have LAST := NEW; clear NEW hb)
        | fail)
      go_ret
      exact ⟨rfl, LAST.out.b⟩
end Go.Proofs.Ytljbjcnfkbmjkaa
