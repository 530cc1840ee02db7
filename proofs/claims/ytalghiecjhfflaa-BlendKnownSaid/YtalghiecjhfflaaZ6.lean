/- BlendKnown: the law. -/
import Derived.Test.YtalghiecjhfflaaZ5
import Derived.LoopIn
namespace Go.Proofs.Ytalghiecjhfflaa
open Go.RowKit Go.Shelf Go.Maps
attribute [local go_sem] Oper.semAt_some

set_option maxRecDepth 100000 in
set_option maxHeartbeats 8000000 in
theorem lknown_any (w : World) :
    Calls Try.prog 6 #[] w fun e w' => e = .returned (.bool true) ∧ Below w.heap.size w w' := by
  have hl0 := ((((Stn.new w).alloc (.cells #[.int .i64 1, .int .i64 2, .int .i64 5] 3)).add (Blk.new _ _ _) (blk_st _ _ _)).alloc (.cells #[.int .i64 10, .int .i64 20, .int .i64 30] 3) |>.add (Blk.new _ _ _) (blk_st _ _ _))
  simp only [World.size_alloc] at hl0
  have LAST := Lib.hid hl0
  clear hl0
  go_enter Try.func6, Try.ntmps6
  go_wp2_with fail
  go_loopw [3] (fun i W => ∃ k : Nat, k ≤ 3 ∧ i = .int .i64 k ∧ Hid (Stn w (fun W => (True ∧ Blk W w.heap.size 3 #[.int .i64 1, .int .i64 2, .int .i64 5]) ∧ Blk W (w.heap.size + 1) 3 #[.int .i64 10, .int .i64 20, .int .i64 30]) W)) (fun i _ => 3 - (intOf i).toNat)
  case atStart => exact ⟨0, by omega, rfl, LAST⟩
  case round =>
    obtain ⟨k, hk, rfl, HS⟩ := hrel
    match k, hk with
    | 0, _ =>
      go_wp2_with fail
      refine wp_of_eq (kn0_region (S := Stn w _) (fun W W' h hb => h.on hb) (P := w.heap.size) (fun W h => h.p.1.2) HS (Lib.hid fun u W h => ?_)) (by kernel_rfl)
      have HG := Lib.hid h
      have r := h.p.2.cell 0
      clear h HS
      go_wp2_with fail
      go_roundw
      case rel => exact ⟨1, by omega, rfl, HG.out⟩
      case measure => exact (by decide)
    | 1, _ =>
      go_wp2_with fail
      refine wp_of_eq (kn1_region (S := Stn w _) (fun W W' h hb => h.on hb) (P := w.heap.size) (fun W h => h.p.1.2) HS (Lib.hid fun u W h => ?_)) (by kernel_rfl)
      have HG := Lib.hid h
      have r := h.p.2.cell 1
      clear h HS
      go_wp2_with fail
      go_roundw
      case rel => exact ⟨2, by omega, rfl, HG.out⟩
      case measure => exact (by decide)
    | 2, _ =>
      go_wp2_with fail
      refine wp_of_eq (kn2_region (S := Stn w _) (fun W W' h hb => h.on hb) (P := w.heap.size) (fun W h => h.p.1.2) HS (Lib.hid fun u W h => ?_)) (by kernel_rfl)
      have HG := Lib.hid h
      have r := h.p.2.cell 2
      clear h HS
      go_wp2_with fail
      go_roundw
      case rel => exact ⟨3, by omega, rfl, HG.out⟩
      case measure => exact (by decide)
    | 3, _ =>
      have LAST := HS
      clear HS
      go_wp2_with (first
    | (go_at_call 33; (with_reducible refine (lwaxes_any _).mono ?_); rintro e wn ⟨K, X, rfl, hs, hb⟩; have HS := Lib.hid hs; have NEW := Lib.hid (LAST.out.on hb); clear LAST hs; have LAST := NEW; clear NEW; clear hb)
    | (go_at_call 34; (with_reducible refine (lwish_any _).mono ?_); rintro e wp ⟨P, rfl, hp, hb⟩; have HP := Lib.hid hp; have NEW := Lib.hid (LAST.out.on hb); clear LAST hp; have LAST := NEW; clear NEW; have HT := Lib.hid (HS.out.on hb); clear HS; have HS := HT; clear HT hb)
    | (go_at_call 27; (with_reducible refine Calls.mono (aw_fits (K := K) (r := [4, 15, 1]) ?_ ?_ (ev_f15 _) ?_ ?_) ?_); rotate_left; (exact (ints_blk (Blk.newat rfl) rfl (by decide))); (exact (HP.out.on ((Below.refl _ _).alloc (Nat.le_refl _) _))); (exact (HS.out.on ((Below.refl _ _).alloc (Nat.le_refl _) _))); rotate_left; exact rfl; rintro e wn ⟨rfl, hb⟩; have NEW := Lib.hid ((LAST.out.alloc _).on hb); clear LAST HS HP; have LAST := NEW; clear NEW; clear hb)
    | (go_at_call 27; (with_reducible refine Calls.mono (aw_fits (K := K) (r := [4, 14, 2]) ?_ ?_ (ev_f14 _) ?_ ?_) ?_); rotate_left; (exact (ints_blk (Blk.newat rfl) rfl (by decide))); (exact (HP.out.on ((Below.refl _ _).alloc (Nat.le_refl _) _))); (exact (HS.out.on ((Below.refl _ _).alloc (Nat.le_refl _) _))); rotate_left; exact rfl; rintro e wn ⟨rfl, hb⟩; have NEW := Lib.hid ((LAST.out.alloc _).on hb); clear LAST HS HP; have LAST := NEW; clear NEW; clear hb)
    | fail)
      go_at_call 31
      (with_reducible refine Calls.mono (aw_stays (K := K) (i := 1) ?_ ?_ (ev_s1 _) ?_ ?_) ?_)
      rotate_left
      (exact (ints_blk (Blk.newat rfl) rfl (by decide)))
      (exact (HP.out.on ((Below.refl _ _).alloc (Nat.le_refl _) _)))
      (exact (HS.out.on ((Below.refl _ _).alloc (Nat.le_refl _) _)))
      rotate_left
      (exact (by decide))
      rintro e wG ⟨rfl, hb⟩
      have NEW := Lib.hid ((LAST.out.alloc _).on hb)
      clear LAST HS HP
      have LAST := NEW
      clear NEW
      have NEW := Lib.hid ((LAST.out.alloc (.cells #[.int .i64 0, .int .i64 1200] 36)).add (Blk.new _ _ _) (blk_st _ _ _))
      clear LAST 
      have LAST := NEW
      clear NEW
      clear hb
      go_wp2_with (first
    | (go_at_call 33; (with_reducible refine (lwaxes_any _).mono ?_); rintro e wn ⟨K, X, rfl, hs, hb⟩; have HS := Lib.hid hs; have NEW := Lib.hid (LAST.out.on hb); clear LAST hs; have LAST := NEW; clear NEW; clear hb)
    | (go_at_call 34; (with_reducible refine (lwish_any _).mono ?_); rintro e wp ⟨P, rfl, hp, hb⟩; have HP := Lib.hid hp; have NEW := Lib.hid (LAST.out.on hb); clear LAST hp; have LAST := NEW; clear NEW; have HT := Lib.hid (HS.out.on hb); clear HS; have HS := HT; clear HT hb)
    | fail)
      go_at_call 31
      (with_reducible refine Calls.mono (aw_stays (K := K) (i := 2) ?_ ?_ (ev_s2 _) ?_ ?_) ?_)
      rotate_left
      (exact (ints_blk (Blk.newat rfl) rfl (by decide)))
      (exact (HP.out.on ((Below.refl _ _).alloc (Nat.le_refl _) _)))
      (exact (HS.out.on ((Below.refl _ _).alloc (Nat.le_refl _) _)))
      rotate_left
      (exact (by decide))
      rintro e wH ⟨rfl, hb⟩
      have NEW := Lib.hid ((LAST.out.alloc _).on hb)
      clear LAST HS HP
      have LAST := NEW
      clear NEW
      have NEW := Lib.hid ((LAST.out.alloc (.cells #[.int .i64 0, .int .i64 1200] 36)).add (Blk.new _ _ _) (blk_st _ _ _))
      clear LAST 
      have LAST := NEW
      clear NEW
      clear hb
      go_wp2_with (first
    | (go_at_call 33; (with_reducible refine (lwaxes_any _).mono ?_); rintro e wn ⟨K, X, rfl, hs, hb⟩; have HS := Lib.hid hs; have NEW := Lib.hid (LAST.out.on hb); clear LAST hs; have LAST := NEW; clear NEW; clear hb)
    | (go_at_call 34; (with_reducible refine (lwish_any _).mono ?_); rintro e wp ⟨P, rfl, hp, hb⟩; have HP := Lib.hid hp; have NEW := Lib.hid (LAST.out.on hb); clear LAST hp; have LAST := NEW; clear NEW; have HT := Lib.hid (HS.out.on hb); clear HS; have HS := HT; clear HT hb)
    | (go_at_call 24; refine (aw_weigh (ints_blk (Blk.newat rfl) rfl (by decide)) (ev_w0 _) (HS.out.on ((Below.refl _ _).alloc (Nat.le_refl _) _))).mono ?_; rintro e wn ⟨A1, n1, rfl, hi, hb⟩; have NEW := Lib.hid (((LAST.out.alloc _).on hb).add hi (ints_st _ _)); clear LAST HS hi; have LAST := NEW; clear NEW; clear hb)
    | fail)
      refine wp_of_eq (knw_region (S := Stn w _) (fun W W' h hb => h.on hb) (G := wG.heap.size) (H := wH.heap.size) (n1 := n1) (A1 := A1)
        (fun W h => h.p.1.1.2) (fun W h => h.p.1.2) (fun W h => h.p.2) LAST (Lib.hid fun u W h => ?_)) (by kernel_rfl)
      have HF := Lib.hid h.b
      clear h LAST
      go_wp2_with fail
      go_ret
      exact ⟨rfl, HF.out⟩
end Go.Proofs.Ytalghiecjhfflaa
