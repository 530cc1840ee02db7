/- The law: the values of the examples, shop and candle. -/
import Derived.Test.YtkjfommdeljefaaQP
import Derived.Test.YtkjfommdeljefaaQA
import Derived.Test.YtkjfommdeljefaaQL
import Derived.Test.YtkjfommdeljefaaQK
import Derived.Test.YtkjfommdeljefaaQH
import Derived.Test.YtkjfommdeljefaaQy
import Derived.Test.YtkjfommdeljefaaQz
namespace Go.Proofs.Ytkjfommdeljefaa
open Go.RowKit Go.Shelf Go.Maps
attribute [local go_sem] Oper.semAt_some

/-- The shop and the candle of the examples. -/
def shp : Sh := ⟨[⟨⟨#[116, 104, 105, 110]⟩, 10, 16, 18⟩, ⟨⟨#[109, 105, 100]⟩, 14, 20, 24⟩, ⟨⟨#[102, 97, 116]⟩, 20, 30, 36⟩], [⟨⟨#[98, 101, 101, 115]⟩, 100, 100, 150, 160, 1000, 1100, 1⟩], 20, 45, 500, 1000⟩
def cdl (d : Int) : Cd := ⟨0, d, 10, 0, 20⟩
def exT : Tu := ⟨22, 100, 150, 1000, 0, 10⟩
theorem ev_shop : shopE shp = 0 := by decide +kernel
theorem ev_ask0 : askE shp 0 (cdl 300) = 0 := by decide +kernel
theorem ev_ask1 : askE shp 1 (cdl 300) = 0 := by decide +kernel
theorem ev_ask2 : askE shp 2 (cdl 300) = 0 := by decide +kernel
theorem ev_ac3 : askCE shp (cdl 300) = 0 := by decide +kernel
theorem ev_ac25 : askCE shp (cdl 250) = 0 := by decide +kernel
theorem ev_ac28 : askCE shp (cdl 285) = 0 := by decide +kernel
def wk0 : Wk := ⟨⟨#[116, 104, 105, 110]⟩, 10, 16, 18⟩
def wk1 : Wk := ⟨⟨#[109, 105, 100]⟩, 14, 20, 24⟩
def wk2 : Wk := ⟨⟨#[102, 97, 116]⟩, 20, 30, 36⟩
def wx0 : Wx := ⟨⟨#[98, 101, 101, 115]⟩, 100, 100, 150, 160, 1000, 1100, 1⟩
theorem ex_ask0 : Ask shp 0 (cdl 300) wk0 wx0 := ⟨shopE_ok ev_shop, by decide, rfl, rfl, (candE_zero.1 (by decide +kernel))⟩
theorem ex_ask1 : Ask shp 1 (cdl 300) wk1 wx0 := ⟨shopE_ok ev_shop, by decide, rfl, rfl, (candE_zero.1 (by decide +kernel))⟩
theorem ex_ask2 : Ask shp 2 (cdl 300) wk2 wx0 := ⟨shopE_ok ev_shop, by decide, rfl, rfl, (candE_zero.1 (by decide +kernel))⟩
theorem ex_askC (d : Int) (h : 1 ≤ d ∧ d ≤ 2000) : AskC shp (cdl d) wx0 := ⟨shopE_ok ev_shop, rfl, ⟨show (0 : Int) ≤ 0 ∧ (0 : Int) < ((shp.xs.length : Nat) : Int) by decide, h, show (0 : Int) ≤ 10 ∧ (10 : Int) ≤ 90 by decide, show (0 : Int) ≤ 0 ∧ (0 : Int) ≤ 20 ∧ (20 : Int) ≤ 300 by decide⟩⟩
theorem ev_at : burn wx0 exT = ⟨22000000, 33000000, 219000000⟩ := by kernel_rfl
theorem ev_tu : tuB wk1 wx0 (cdl 300) exT = true := by decide +kernel
theorem ev_weak : burn wx0 (weakT wk1 wx0 (cdl 300)) = ⟨18000000, 27000000, 178000000⟩ := by kernel_rfl
theorem ev_strong : burn wx0 (strongT wk1 wx0 (cdl 300)) = ⟨26400000, 42240000, 290400000⟩ := by kernel_rfl
theorem ev_f0 : faultsL shp wk0 wx0 (cdl 300) = [3] := by decide +kernel
theorem ev_f1 : faultsL shp wk1 wx0 (cdl 300) = [] := by decide +kernel
theorem ev_f2 : faultsL shp wk2 wx0 (cdl 300) = [1, 4] := by decide +kernel
theorem ev_s3 : (suitN shp wx0 (cdl 300) 3).map Int.ofNat = [1] := by decide +kernel
theorem ev_s25 : (suitN shp wx0 (cdl 250) 3).map Int.ofNat = [0] := by decide +kernel
theorem ev_t3 : thinOut (thinV shp.ks (suitN shp wx0 (cdl 300) 3)) = .tuple #[.int .i64 1, .int .i64 0] := by
  have h : thinV shp.ks (suitN shp wx0 (cdl 300) 3) = 1 := by decide +kernel
  rw [h]; rfl
theorem ev_t28 : thinOut (thinV shp.ks (suitN shp wx0 (cdl 285) 3)) = .tuple #[.int .i64 0, .int .i64 9] := by
  have h : thinV shp.ks (suitN shp wx0 (cdl 285) 3) = -1 := by decide +kernel
  rw [h]; rfl
theorem ev_z1 : sizesO (sizesV shp wk1 wx0 (cdl 300)) = ((291, 356), 0) := by decide +kernel
theorem ev_z0 : sizesO (sizesV shp wk0 wx0 (cdl 300)) = ((218, 284), 0) := by decide +kernel
theorem ev_z2 : sizesO (sizesV shp wk2 wx0 (cdl 300)) = ((0, 0), 9) := by decide +kernel
theorem ev_m : minV 100 (burn wx0 (weakT wk1 wx0 (cdl 300))) (burn wx0 (strongT wk1 wx0 (cdl 300))) = (2272, 3334) := by decide +kernel


structure Stn (w : World) (P : World → Prop) (W : World) : Prop where
  b : Below w.heap.size w W
  p : P W
  st : ∀ W W', P W → Below W.heap.size W W' → P W'
theorem Stn.on {w W W' : World} {P : World → Prop} (h : Stn w P W) (hb : Below W.heap.size W W') : Stn w P W' := ⟨h.b.trans (hb.mono h.b.size), h.st _ _ h.p hb, h.st⟩
theorem Stn.alloc {w W : World} {P : World → Prop} (h : Stn w P W) (o : Obj) : Stn w P (W.alloc o) := h.on ((Below.refl _ W).alloc (Nat.le_refl _) _)
theorem Stn.add {w W : World} {P Q : World → Prop} (h : Stn w P W) (q : Q W) (hq : ∀ W W', Q W → Below W.heap.size W W' → Q W') : Stn w (fun W => P W ∧ Q W) W := ⟨h.b, ⟨h.p, q⟩, fun W W' h1 h2 => ⟨h.st W W' h1.1 h2, hq W W' h1.2 h2⟩⟩
theorem Stn.new (w : World) : Stn w (fun _ => True) w := ⟨Below.refl _ _, trivial, fun _ _ _ _ => trivial⟩
theorem ints_st (A : Option Addr) (l : List Int) : ∀ W W', IntsIn W A l → Below W.heap.size W W' → IntsIn W' A l := fun _ _ h hb => h.on hb
theorem blk_st (g : Nat) (T : TypeId) (cs : Array Value) : ∀ W W', Blk W g T cs → Below W.heap.size W W' → Blk W' g T cs := fun _ _ h hb => Blk.on h hb
theorem wks3 {W : World} {g : Nat} {T : TypeId} (h : Blk W g T #[.string ⟨#[116, 104, 105, 110]⟩, .int .i64 10, .int .i64 16, .int .i64 18, .string ⟨#[109, 105, 100]⟩, .int .i64 14, .int .i64 20, .int .i64 24, .string ⟨#[102, 97, 116]⟩, .int .i64 20, .int .i64 30, .int .i64 36]) : WksIn W (some ⟨g, 0, none⟩) 3 shp.ks :=
  ⟨fun _ => ⟨g, 0, rfl, h.lt, fun i x hi j hj => by
    rw [h.cell, Nat.zero_add]
    match i, hi with
    | 0, hi => cases hi; match j, hj with | 0, _ => rfl | 1, _ => rfl | 2, _ => rfl | 3, _ => rfl
    | 1, hi => cases hi; match j, hj with | 0, _ => rfl | 1, _ => rfl | 2, _ => rfl | 3, _ => rfl
    | 2, hi => cases hi; match j, hj with | 0, _ => rfl | 1, _ => rfl | 2, _ => rfl | 3, _ => rfl
    | (n + 3), hi => cases hi⟩, by decide, by decide, by decide⟩
theorem wxs1 {W : World} {g : Nat} {T : TypeId} (h : Blk W g T #[.string ⟨#[98, 101, 101, 115]⟩, .int .i64 100, .int .i64 100, .int .i64 150, .int .i64 160, .int .i64 1000, .int .i64 1100, .int .i64 1]) : WxsIn W (some ⟨g, 0, none⟩) 1 shp.xs :=
  ⟨fun _ => ⟨g, 0, rfl, h.lt, fun i x hi j hj => by
    rw [h.cell, Nat.zero_add]
    match i, hi with
    | 0, hi => cases hi; match j, hj with | 0, _ => rfl | 1, _ => rfl | 2, _ => rfl | 3, _ => rfl | 4, _ => rfl | 5, _ => rfl | 6, _ => rfl | 7, _ => rfl
    | (n + 1), hi => cases hi⟩, by decide, by decide, by decide⟩
theorem lspan_any (a b : Int) (w : World) :
    Calls Try.prog 35 #[.int .i64 a, .int .i64 b] w fun e w' => e = .returned (.agg #[.int .i64 a, .int .i64 b]) ∧ Below w.heap.size w w' := by
  go_enter Try.func35, Try.ntmps35
  go_wp2
  refine bodyPost_ret (v := .agg #[.int .i64 a, .int .i64 b]) (by simp [results, Try.results35, go_sem]) rfl ⟨rfl, ?_⟩
  simpa using (Below.refl _ w).alloc (Nat.le_refl _) (.cells #[.int .i64 a, .int .i64 b] 25)
set_option maxRecDepth 100000 in
theorem lcandle_any (w : World) :
    Calls Try.prog 33 #[] w fun e w' => e = .returned (.agg #[.int .i64 0, .int .i64 300, .int .i64 10, .int .i64 0, .int .i64 20]) ∧ Below w.heap.size w w' := by
  have hb0 := (Bx.nil w).alloc #[.int .i64 0, .int .i64 0, .int .i64 0, .int .i64 0, .int .i64 0] 34
  have HB := Lib.hid hb0
  clear hb0
  go_enter Try.func33, Try.ntmps33
  go_wp2_with (first
    | (go_at_call 35; (with_reducible refine (lspan_any 0 20 _).mono ?_); rintro e w1 ⟨rfl, hb⟩; have HC := Lib.hid (HB.out.on hb); clear hb; have rb : Blk _ w.heap.size 34 #[.int .i64 0, .int .i64 0, .int .i64 0, .int .i64 0, .int .i64 0] := HC.out.get (by simp); have r0 := rb.cell 0; have rf0 := rb.frozen 0; have r1 := rb.cell 1; have rf1 := rb.frozen 1; have r2 := rb.cell 2; have rf2 := rb.frozen 2; have r3 := rb.cell 3; have rf3 := rb.frozen 3; have r4 := rb.cell 4; have rf4 := rb.frozen 4; have rl := rb.lt; clear rb)
    | fail)
  refine bodyPost_ret (v := .agg #[.int .i64 0, .int .i64 300, .int .i64 10, .int .i64 0, .int .i64 20]) ?_ rfl ⟨rfl, ?_⟩
  · simp [results, Try.results33, go_sem, *]
  · repeat (first | (with_reducible exact HC.out.b) | with_reducible refine Below.setCell ?_ (by simp; try omega) _)
set_option maxRecDepth 100000 in
theorem lsized_any (d : Int) (w : World) :
    Calls Try.prog 34 #[.int .i64 d] w fun e w' => e = .returned (.agg #[.int .i64 0, .int .i64 d, .int .i64 10, .int .i64 0, .int .i64 20]) ∧ Below w.heap.size w w' := by
  have hb0 := (Bx.nil w).alloc #[.int .i64 0, .int .i64 0, .int .i64 0, .int .i64 0, .int .i64 0] 34
  have HB := Lib.hid hb0
  clear hb0
  go_enter Try.func34, Try.ntmps34
  go_wp2_with (first
    | (go_at_call 33; (with_reducible refine (lcandle_any _).mono ?_); rintro e w1 ⟨rfl, hb⟩; have HC := Lib.hid ((HB.out.on hb).alloc_ #[.int .i64 0, .int .i64 d, .int .i64 10, .int .i64 0, .int .i64 20] 34); clear hb; have rb : Blk _ w.heap.size 34 #[.int .i64 0, .int .i64 0, .int .i64 0, .int .i64 0, .int .i64 0] := HC.out.get (by simp); have r0 := rb.cell 0; have rf0 := rb.frozen 0; have r1 := rb.cell 1; have rf1 := rb.frozen 1; have r2 := rb.cell 2; have rf2 := rb.frozen 2; have r3 := rb.cell 3; have rf3 := rb.frozen 3; have r4 := rb.cell 4; have rf4 := rb.frozen 4; have rl := rb.lt; clear rb)
    | fail)
  refine bodyPost_ret (v := .agg #[.int .i64 0, .int .i64 d, .int .i64 10, .int .i64 0, .int .i64 20]) ?_ rfl ⟨rfl, ?_⟩
  · simp [results, Try.results34, go_sem, *]
  · repeat (first | (with_reducible exact HC.out.b) | with_reducible refine Below.setCell ?_ (by simp; try omega) _)
set_option maxRecDepth 100000 in
theorem lshop_any (w : World) :
    Calls Try.prog 32 #[] w fun e w' => ∃ K X, e = .returned (.agg #[.slice (some ⟨K, 0, none⟩) 3 3, .slice (some ⟨X, 0, none⟩) 1 1, .int .i64 20, .int .i64 45, .int .i64 500, .int .i64 1000]) ∧ ShIn w' ⟨shp, some ⟨K, 0, none⟩, 3, some ⟨X, 0, none⟩, 1⟩ ∧ Below w.heap.size w w' := by
  have hb0 := (Bx.nil w).alloc #[.slice none 0 0, .slice none 0 0, .int .i64 0, .int .i64 0, .int .i64 0, .int .i64 0] 27
  have LAST := Lib.hid hb0
  clear hb0
  go_enter Try.func32, Try.ntmps32
  go_wp2_with (first
    | (go_at_call 35; (with_reducible refine (lspan_any 30 36 _).mono ?_); rintro e wk ⟨rfl, hb⟩; have NEW := Lib.hid (LAST.out.on hb); clear LAST hb; have LAST := NEW; clear NEW; have lk := Lib.hid (Blk.lt (show Blk wk w.heap.size 27 #[.slice none 0 0, .slice none 0 0, .int .i64 0, .int .i64 0, .int .i64 0, .int .i64 0] from LAST.out.get (by simp))))
    | (go_at_call 35; (with_reducible refine (lspan_any 100 100 _).mono ?_); rintro e wa ⟨rfl, hb⟩; have NEW := Lib.hid ((LAST.out.alloc #[.string ⟨#[116, 104, 105, 110]⟩, .int .i64 10, .int .i64 16, .int .i64 18, .string ⟨#[109, 105, 100]⟩, .int .i64 14, .int .i64 20, .int .i64 24, .string ⟨#[102, 97, 116]⟩, .int .i64 20, .int .i64 30, .int .i64 36] 74).on hb); clear LAST hb; have LAST := NEW; clear NEW)
    | (go_at_call 35; (with_reducible refine (lspan_any 1000 1100 _).mono ?_); rintro e wx ⟨rfl, hb⟩; have NEW := Lib.hid (LAST.out.on hb); clear LAST hb; have LAST := NEW; clear NEW; have lx := Lib.hid (Blk.lt (show Blk wx w.heap.size 27 #[.slice none 0 0, .slice none 0 0, .int .i64 0, .int .i64 0, .int .i64 0, .int .i64 0] from LAST.out.get (by simp))))
    | (go_at_call 35; (with_reducible refine (lspan_any 20 45 _).mono ?_); rintro e wb ⟨rfl, hb⟩; have NEW := Lib.hid ((LAST.out.alloc #[.string ⟨#[98, 101, 101, 115]⟩, .int .i64 100, .int .i64 100, .int .i64 150, .int .i64 160, .int .i64 1000, .int .i64 1100, .int .i64 1] 80).on hb); clear LAST hb; have LAST := NEW; clear NEW)
    | (go_at_call 35; (with_reducible refine (lspan_any 500 1000 _).mono ?_); rintro e wn ⟨rfl, hb⟩; have NEW := Lib.hid (LAST.out.on hb); clear LAST hb; have LAST := NEW; clear NEW; have rb : Blk _ w.heap.size 27 #[.slice none 0 0, .slice none 0 0, .int .i64 0, .int .i64 0, .int .i64 0, .int .i64 0] := LAST.out.get (by simp); have r0 := rb.cell 0; have rf0 := rb.frozen 0; have r1 := rb.cell 1; have rf1 := rb.frozen 1; have r2 := rb.cell 2; have rf2 := rb.frozen 2; have r3 := rb.cell 3; have rf3 := rb.frozen 3; have r4 := rb.cell 4; have rf4 := rb.frozen 4; have r5 := rb.cell 5; have rf5 := rb.frozen 5; have rl := rb.lt; clear rb)
    | (go_at_call 35; (with_reducible refine (lspan_any _ _ _).mono ?_); rintro e wj ⟨rfl, hb⟩; have NEW := Lib.hid (LAST.out.on hb); clear LAST hb; have LAST := NEW; clear NEW)
    | fail)
  have hB2 : Bx w [(wk.heap.size, 74, #[.string ⟨#[116, 104, 105, 110]⟩, .int .i64 10, .int .i64 16, .int .i64 18, .string ⟨#[109, 105, 100]⟩, .int .i64 14, .int .i64 20, .int .i64 24, .string ⟨#[102, 97, 116]⟩, .int .i64 20, .int .i64 30, .int .i64 36]), (wx.heap.size, 80, #[.string ⟨#[98, 101, 101, 115]⟩, .int .i64 100, .int .i64 100, .int .i64 150, .int .i64 160, .int .i64 1000, .int .i64 1100, .int .i64 1])] wn := ⟨LAST.out.b, fun q hq => LAST.out.at_ q (by
    rcases List.mem_cons.1 hq with rfl | hq
    · simp
    · rcases List.mem_cons.1 hq with rfl | hq
      · simp
      · cases hq)⟩
  have n1 : wk.heap.size ≠ w.heap.size := by have := lk.out; omega
  have n2 : wx.heap.size ≠ w.heap.size := by have := lx.out; omega
  have hB3 := hB2.put (grown_more (grown_more (grown_more (grown_more (grown_more (grown_more (World.grownBy.refl wn (some w.heap.size)) 0 (.slice (some ⟨wk.heap.size, 0, none⟩) 3 3)) 1 (.slice (some ⟨wx.heap.size, 0, none⟩) 1 1)) 2 (.int .i64 20)) 3 (.int .i64 45)) 4 (.int .i64 500)) 5 (.int .i64 1000)) (Nat.le_refl _) (fun q hq => by
    rcases List.mem_cons.1 hq with rfl | hq
    · exact n1
    · rcases List.mem_cons.1 hq with rfl | hq
      · exact n2
      · cases hq)
  refine bodyPost_ret (v := .agg #[.slice (some ⟨wk.heap.size, 0, none⟩) 3 3, .slice (some ⟨wx.heap.size, 0, none⟩) 1 1, .int .i64 20, .int .i64 45, .int .i64 500, .int .i64 1000]) ?_ rfl ⟨_, _, rfl, ⟨wks3 (T := 74) (hB3.get (by simp)), wxs1 (T := 80) (hB3.get (by simp))⟩, hB3.b⟩
  simp [results, Try.results32, go_sem, *]
end Go.Proofs.Ytkjfommdeljefaa
