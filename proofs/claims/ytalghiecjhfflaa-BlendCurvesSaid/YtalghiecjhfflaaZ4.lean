/- The law's Awake: contract. -/
import Derived.Test.YtalghiecjhfflaaZ3
namespace Go.Proofs.Ytalghiecjhfflaa
open Go.RowKit Go.Shelf Go.Maps
attribute [local go_sem] Oper.semAt_some

set_option maxRecDepth 100000 in
set_option maxHeartbeats 8000000 in
theorem lawake_any (w : World) :
    Calls Try.prog 19 #[] w fun e w' => e = .returned (.bool true) ∧ Below w.heap.size w w' := by
  have LAST := Lib.hid (Stn.new w)
  go_enter Try.func19, Try.ntmps19
  go_wp2_with (first
    | (go_at_call 33; (with_reducible refine (lwaxes_any _).mono ?_); rintro e wn ⟨K, X, rfl, hs, hb⟩; have HS := Lib.hid hs; have NEW := Lib.hid (LAST.out.on hb); clear LAST hs; have LAST := NEW; clear NEW; clear hb)
    | (go_at_call 34; (with_reducible refine (lwish_any _).mono ?_); rintro e wp ⟨P, rfl, hp, hb⟩; have HP := Lib.hid hp; have NEW := Lib.hid (LAST.out.on hb); clear LAST hp; have LAST := NEW; clear NEW; have HT := Lib.hid (HS.out.on hb); clear HS; have HS := HT; clear HT hb)
    | (go_at_call 17; (with_reducible refine (aw_raise (ev_r3 _) HS.out).mono ?_); rintro e wn ⟨rfl, hb⟩; have NEW := Lib.hid (LAST.out.on hb); clear LAST HS; have LAST := NEW; clear NEW; clear hb)
    | (go_at_call 17; (with_reducible refine (aw_raise (ev_rn _) HS.out).mono ?_); rintro e wn ⟨rfl, hb⟩; have NEW := Lib.hid (LAST.out.on hb); clear LAST HS; have LAST := NEW; clear NEW; clear hb)
    | (go_at_call 20; refine (aw_value (r := [4, 15, 1]) rfl (ints_blk (Blk.newat rfl) rfl (by decide)) (ev_v _) (HS.out.on ((Below.refl _ _).alloc (Nat.le_refl _) _))).mono ?_; rintro e wE ⟨rfl, hb⟩; have NEW := Lib.hid ((LAST.out.alloc _).on hb); clear LAST HS; have LAST := NEW; clear NEW; have NEW := Lib.hid ((LAST.out.alloc (.cells #[.int .i64 11470, .int .i64 12160] 36)).add (Blk.new _ _ _) (blk_st _ _ _)); clear LAST ; have LAST := NEW; clear NEW; have NEW := Lib.hid ((LAST.out.alloc (.cells #[.int .i64 2070, .int .i64 2720] 36)).add (Blk.new _ _ _) (blk_st _ _ _)); clear LAST ; have LAST := NEW; clear NEW; clear hb)
    | (go_at_call 22; refine (aw_made (r := [4, 15, 1]) (t := [(630, 90), (560, 130), (700, 60)]) rfl rfl (ints_blk ((Blk.newat rfl).on ((Below.refl _ _).alloc (Nat.le_refl _) _)) rfl (by decide)) (spans_blk (Blk.newat (by simp)) rfl (by decide)) (ev_m _) (HS.out.on (((Below.refl _ _).alloc (Nat.le_refl _) _).alloc (by simp) _))).mono ?_; rintro e wn ⟨rfl, hb⟩; have NEW := Lib.hid (((LAST.out.alloc _).alloc _).on hb); clear LAST HS; have LAST := NEW; clear NEW; clear hb)
    | (go_at_call 27; refine (aw_fits (r := [4, 16, 0]) rfl (ints_blk (Blk.newat rfl) rfl (by decide)) (ev_f16 _) (HP.out.on ((Below.refl _ _).alloc (Nat.le_refl _) _)) (HS.out.on ((Below.refl _ _).alloc (Nat.le_refl _) _))).mono ?_; rintro e wn ⟨rfl, hb⟩; have NEW := Lib.hid ((LAST.out.alloc _).on hb); clear LAST HS HP; have LAST := NEW; clear NEW; clear hb)
    | (go_at_call 29; (with_reducible refine (aw_cheap HP.out HS.out).mono ?_); rintro e wn ⟨A1, n1, rfl, hi, hb⟩; have NEW := Lib.hid ((LAST.out.on hb).add hi (ints_st _ _)); clear LAST HS HP hi; have LAST := NEW; clear NEW; clear hb)
    | (go_at_call 31; refine (aw_stays (i := 0) (by decide) (ints_blk (Blk.newat rfl) rfl (by decide)) (ev_s0 _) (HP.out.on ((Below.refl _ _).alloc (Nat.le_refl _) _)) (HS.out.on ((Below.refl _ _).alloc (Nat.le_refl _) _))).mono ?_; rintro e wG ⟨rfl, hb⟩; have NEW := Lib.hid ((LAST.out.alloc _).on hb); clear LAST HS HP; have LAST := NEW; clear NEW; have NEW := Lib.hid ((LAST.out.alloc (.cells #[.int .i64 400, .int .i64 100000] 36)).add (Blk.new _ _ _) (blk_st _ _ _)); clear LAST ; have LAST := NEW; clear NEW; clear hb)
    | (go_at_call 24; refine (aw_weigh (ints_blk (Blk.newat rfl) rfl (by decide)) (ev_w1 _) (HS.out.on ((Below.refl _ _).alloc (Nat.le_refl _) _))).mono ?_; rintro e wn ⟨A2, n2, rfl, hi, hb⟩; have NEW := Lib.hid (((LAST.out.alloc _).on hb).add hi (ints_st _ _)); clear LAST HS hi; have LAST := NEW; clear NEW; clear hb)
    | fail)
  refine wp_of_eq (awk_region (S := Stn w _) (fun W W' h hb => h.on hb) (E := wE.heap.size) (F := wE.heap.size + 1) (G := wG.heap.size) (n1 := n1) (n2 := n2) (A1 := A1) (A2 := A2)
    (fun W h => h.p.1.1.1.1.2) (fun W h => by have := h.p.1.1.1.2; simpa only [World.size_alloc] using this) (fun W h => h.p.1.2) (fun W h => h.p.1.1.2) (fun W h => h.p.2) LAST (Lib.hid fun u W h => ?_)) (by kernel_rfl)
  have HF := Lib.hid h.b
  clear h LAST
  go_wp2_with fail
  go_ret
  exact ⟨rfl, HF.out⟩
end Go.Proofs.Ytalghiecjhfflaa
