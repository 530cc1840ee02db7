/- The law's Awake: contract. -/
import Derived.Test.YtkjfommdeljefaaQT
namespace Go.Proofs.Ytkjfommdeljefaa
open Go.RowKit Go.Shelf Go.Maps
attribute [local go_sem] Oper.semAt_some

set_option maxRecDepth 100000 in
set_option maxHeartbeats 8000000 in
theorem lawake_any (w : World) :
    Calls Try.prog 16 #[] w fun e w' => e = .returned (.bool true) ∧ Below w.heap.size w w' := by
  have LAST := Lib.hid (Stn.new w)
  go_enter Try.func16, Try.ntmps16
  go_wp2_with (first
    | (go_at_call 32; (with_reducible refine (lshop_any _).mono ?_); rintro e wn ⟨K, X, rfl, hs, hb⟩; have HS := Lib.hid hs; have NEW := Lib.hid (LAST.out.on hb); clear LAST hs; have LAST := NEW; clear NEW; clear hb)
    | (go_at_call 33; (with_reducible refine (lcandle_any _).mono ?_); rintro e wn ⟨rfl, hb⟩; have NEW := Lib.hid (LAST.out.on hb); have HT := Lib.hid (HS.out.on hb); clear LAST HS; have LAST := NEW; have HS := HT; clear NEW HT; clear hb)
    | (go_at_call 34; (with_reducible refine (lsized_any _ _).mono ?_); rintro e wn ⟨rfl, hb⟩; have NEW := Lib.hid (LAST.out.on hb); have HT := Lib.hid (HS.out.on hb); clear LAST HS; have LAST := NEW; have HS := HT; clear NEW HT; clear hb)
    | (go_at_call 17; (with_reducible refine (aw_at HS.out).mono ?_); rintro e wE ⟨rfl, hb⟩; have NEW := Lib.hid (LAST.out.on hb); clear LAST HS; have LAST := NEW; clear NEW; have NEW := Lib.hid ((LAST.out.alloc (.cells #[.int .i64 22000000, .int .i64 33000000, .int .i64 219000000] 40)).add (Blk.new _ _ _) (blk_st _ _ _)); clear LAST; have LAST := NEW; clear NEW; clear hb)
    | (go_at_call 19; (with_reducible refine (aw_burn HS.out).mono ?_); rintro e wL ⟨rfl, hb⟩; have NEW := Lib.hid (LAST.out.on hb); clear LAST HS; have LAST := NEW; clear NEW; have NEW := Lib.hid ((LAST.out.alloc (.cells #[.int .i64 18000000, .int .i64 27000000, .int .i64 178000000] 40)).add (Blk.new _ _ _) (blk_st _ _ _)); clear LAST; have LAST := NEW; clear NEW; have NEW := Lib.hid ((LAST.out.alloc (.cells #[.int .i64 26400000, .int .i64 42240000, .int .i64 290400000] 40)).add (Blk.new _ _ _) (blk_st _ _ _)); clear LAST; have LAST := NEW; clear NEW; clear hb)
    | (go_at_call 23; (with_reducible refine (aw_f2 HS.out).mono ?_); rintro e wn ⟨A1, n1, rfl, hi, hb⟩; have NEW := Lib.hid ((LAST.out.on hb).add hi (ints_st _ _)); clear LAST HS hi; have LAST := NEW; clear NEW; clear hb)
    | (go_at_call 26; (with_reducible refine (aw_u3 HS.out).mono ?_); rintro e wn ⟨A2, n2, rfl, hi, hb⟩; have NEW := Lib.hid ((LAST.out.on hb).add hi (ints_st _ _)); clear LAST HS hi; have LAST := NEW; clear NEW; clear hb)
    | (go_at_call 28; (with_reducible refine (aw_t3 HS.out).mono ?_); rintro e wn ⟨rfl, hb⟩; have NEW := Lib.hid (LAST.out.on hb); clear LAST HS; have LAST := NEW; clear NEW; clear hb)
    | (go_at_call 28; (with_reducible refine (aw_t28 HS.out).mono ?_); rintro e wn ⟨rfl, hb⟩; have NEW := Lib.hid (LAST.out.on hb); clear LAST HS; have LAST := NEW; clear NEW; clear hb)
    | (go_at_call 30; (with_reducible refine (aw_z1 HS.out).mono ?_); rintro e wN ⟨rfl, hb⟩; have NEW := Lib.hid (LAST.out.on hb); clear LAST HS; have LAST := NEW; clear NEW; have NEW := Lib.hid ((LAST.out.alloc (.cells #[.int .i64 291, .int .i64 356] 25)).add (Blk.new _ _ _) (blk_st _ _ _)); clear LAST; have LAST := NEW; clear NEW; clear hb)
    | (go_at_call 21; (with_reducible refine (aw_min HS.out).mono ?_); rintro e wP ⟨rfl, hb⟩; have NEW := Lib.hid (LAST.out.on hb); clear LAST HS; have LAST := NEW; clear NEW; have NEW := Lib.hid ((LAST.out.alloc (.cells #[.int .i64 2272, .int .i64 3334] 25)).add (Blk.new _ _ _) (blk_st _ _ _)); clear LAST; have LAST := NEW; clear NEW; clear hb)
    | fail)
  refine wp_of_eq (awk_region (S := Stn w _) (fun W W' h hb => h.on hb) (E := wE.heap.size) (L := wL.heap.size) (M := wL.heap.size + 1) (N := wN.heap.size) (P := wP.heap.size) (n1 := n1) (n2 := n2) (A1 := A1) (A2 := A2)
    (fun W h => h.p.1.1.1.1.1.1.2) (fun W h => h.p.1.1.1.1.1.2) (fun W h => by have := h.p.1.1.1.1.2; simpa only [World.size_alloc] using this) (fun W h => h.p.1.2) (fun W h => h.p.2) (fun W h => h.p.1.1.1.2) (fun W h => h.p.1.1.2) LAST (Lib.hid fun u W h => ?_)) (by kernel_rfl)
  have HF := Lib.hid h.b
  clear h LAST
  go_wp2_with fail
  go_ret
  exact ⟨rfl, HF.out⟩
end Go.Proofs.Ytkjfommdeljefaa
