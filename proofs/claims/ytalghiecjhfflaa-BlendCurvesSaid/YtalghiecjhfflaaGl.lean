/- Layer blend, a part: Made. No statement is proved here. -/
import Derived.Test.YtalghiecjhfflaaGk
namespace Go.Proofs.Ytalghiecjhfflaa
open Go.RowKit Go.Shelf Go.Maps
attribute [local go_sem] Oper.semAt_some


theorem ret_made {l : List Bw} {r : List Int} {t : List (Int × Int)} {a b e : Int} (h : madeV l r t = (a, b, e)) : Ending.returned (.tuple #[.int .i64 a, .int .i64 b, .int .i64 e]) = .returned (.tuple #[.int .i64 (madeV l r t).1, .int .i64 (madeV l r t).2.1, .int .i64 (madeV l r t).2.2]) := by rw [h]
set_option maxRecDepth 100000 in
set_option maxHeartbeats 4000000 in
theorem made_any {w : World} {A R T : Option Addr} {c rc tc : Nat} {l : List Bw} {r : List Int} {t : List (Int × Int)} (h : BwsIn w A l) (hc : l.length ≤ c) (hr : IntsIn w R r) (ht : SpansIn w T t) :
    Calls Try.prog 22 #[.slice A l.length c, .slice R r.length rc, .slice T t.length tc] w fun e w' => e = .returned (.tuple #[.int .i64 (madeV l r t).1, .int .i64 (madeV l r t).2.1, .int .i64 (madeV l r t).2.2]) ∧ Below w.heap.size w w' := by
  have HE1 := Lib.hid (waxes_any h hc)
  have HE2 := Lib.hid (fun (W : World) (hb : Below w.heap.size w W) => recE_any (A0 := A) (c0 := c) (c := rc) (m := l.length) rfl (hr.on hb))
  have HE3 := Lib.hid (fun (W : World) (hb : Below w.heap.size w W) => lots_any (tc := tc) (h.on hb) hc (ht.on hb))
  have hq := or_bd (l := l) (r := r) [lotsE l t]
  by_cases hz : orE [bdE l, recE l.length r, lotsE l t] = 0
  · rw [hz] at hq
    have HQ := Lib.hid hq
    have HV := Lib.hid (show madeV l r t = (figV softV (List.zipWith exB l t) r, figV (fun x n => n * x.slo) (List.zipWith exB l t) r, 0) by unfold madeV; rw [if_neg (by simpa using hz)])
    have hok := bd_ok (orE_zero.1 hz (bdE l) (by simp))
    have hrk := rec_ok.1 (orE_zero.1 hz (recE l.length r) (by simp))
    have hlt := orE_zero.1 hz (lotsE l t) (by simp)
    have hlen := (lots_ok.1 hlt).1
    have hx := ex_ok hok.2 hlt
    have hxl : (List.zipWith exB l t).length = l.length := by rw [List.length_zipWith]; omega
    obtain ⟨b, o, rfl⟩ := h.addr hok.1.1
    have hn5 := hok.1
    have HC := Lib.hid (fun (W : World) (hb : Below w.heap.size w W) => cloneW_any (c := c) (h.on hb) (by omega) (by omega))
    have HM := Lib.hid (fun (W : World) (g cap : Nat) (hb : Below w.heap.size w W) (ho : BwsIn W (some ⟨g, 0, none⟩) (List.zipWith exB l t)) => mixOf_any (c := cap) (rc := rc) ho (hr.on hb) (hrk.len.trans hxl.symm) (by rw [hxl]; exact hn5))
    have HF := Lib.hid (fun (W : World) (g2 g cap : Nat) (hp : PosIn W (some ⟨g, 0, none⟩) (mixL g2 0 (List.zipWith exB l t) r)) => figs_mix (c := cap) hp hx (by rw [hxl]; exact hn5.2) (by rw [hxl]; exact hrk))
    rw [hxl] at HM HF
    have HI := Lib.hid h
    have HT := Lib.hid ht
    have HL := Lib.hid hlen
    rw [HV.out, show figV softV (List.zipWith exB l t) r = (figR (List.zipWith exB l t) r).s from rfl, show figV (fun x n => n * x.slo) (List.zipWith exB l t) r = (figR (List.zipWith exB l t) r).a from rfl]
    generalize figR (List.zipWith exB l t) r = f at *
    clear h hr ht hz hok hrk hlt hx hxl hq hlen HV
    go_enter Try.func22, Try.ntmps22
    go_wp2_with (first
      | (go_at_call 55; (with_reducible refine HE1.out.mono ?_); rintro e w1 ⟨rfl, hb⟩; have HB1 := Lib.hid hb; clear hb)
      | (go_at_call 59; (with_reducible refine (HE2.out _ HB1.out).mono ?_); rintro e w2 ⟨rfl, hw⟩; rw [hw]; clear hw)
      | (go_at_call 66; (with_reducible refine (HE3.out _ HB1.out).mono ?_); rintro e w2 ⟨rfl, hb⟩; have HB2 := Lib.hid (HB1.out.trans (hb.mono HB1.out.size)); clear hb)
      | (go_at_call 54; refine (or_any (c := 3) (l := [bdE l, recQ l.length r, lotsE l t]) (ints_blk (Blk.newat (by simp)) rfl (by simp))).mono ?_; rintro e w3 ⟨rfl, hw⟩; rw [hw]; clear hw; rw [HQ.out]; have HB3 := Lib.hid (HB2.out.alloc HB2.out.size (.cells #[.int .i64 (bdE l), .int .i64 (recQ l.length r), .int .i64 (lotsE l t)] 24)))
      | (go_at_call 67; (with_reducible refine (HC.out _ HB3.out).mono ?_); rintro e w4 ⟨g, cap, rfl, hp, hb⟩; have HO0 : Hid (OtB w (.slice (some ⟨g, 0, none⟩) l.length cap) (exK l t 0) w4) := ⟨own_base hp HB3.out.size, HB3.out.trans (hb.mono HB3.out.size)⟩; clear hb hp)
      | fail)
    go_loopw [31] (fun i W => ∃ k : Nat, k ≤ t.length ∧ i = .int .i64 k ∧ Hid (OtB w (.slice (some ⟨g, 0, none⟩) l.length cap) (exK l t k) W)) (fun i _ => t.length - (intOf i).toNat)
    case atStart => exact ⟨0, by omega, rfl, HO0⟩
    case round =>
      clear HO0
      obtain ⟨k, hk, rfl, HO⟩ := hrel
      by_cases hlt : k < t.length
      · have hkl : k < l.length := by have := HL.out; omega
        obtain ⟨x, hx⟩ : ∃ x, l[k]? = some x := ⟨l[k], List.getElem?_eq_getElem hkl⟩
        obtain ⟨y, hy⟩ : ∃ y, t[k]? = some y := ⟨t[k], List.getElem?_eq_getElem hlt⟩
        obtain ⟨tb, tof, rfl, htb, d0, d1⟩ := (HT.out.on HO.out.b).get hy
        have HX := Lib.hid (exK_succ hx hy)
        have HG := Lib.hid ((exK_get HL.out k k x (by omega) hx).trans (if_neg (Nat.lt_irrefl _)))
        clear hx hy
        go_upto_region 8 with (fail)
        have hgl := own_at HO.out.own
        have hb1 : Below wr.heap.size wr (wr.alloc (.cells #[.int .i64 y.1, .int .i64 y.2] 102)) := (Below.refl _ wr).alloc (Nat.le_refl _) _
        have BL : Blk (wr.alloc (.cells #[.int .i64 y.1, .int .i64 y.2] 102)) wr.heap.size 102 #[.int .i64 y.1, .int .i64 y.2] := Blk.new _ _ _
        have HO1 := HO.out.on hb1
        generalize wr.alloc (.cells #[.int .i64 y.1, .int .i64 y.2] 102) = W1 at *
        have HXL : Hid ((exK l t k).length = l.length) := exK_len l t k
        obtain ⟨c2, f2⟩ := own_cell_at HO1.own (bwCells_at _ k x HG.out 2 (by omega))
        obtain ⟨c3, f3⟩ := own_cell_at HO1.own (bwCells_at _ k x HG.out 3 (by omega))
        have v0 := BL.cell 0; have v1 := BL.cell 1; have vl := BL.lt
        simp [encBw] at c2 c3
        have HO1 := Lib.hid HO1
        have HBL := Lib.hid BL
        have HGL := Lib.hid hgl
        clear BL hgl hb1
        go_upto_region 9 with (fail)
        have hkc : k * 7 + 7 ≤ (exK l t k).length * 7 := by rw [HXL.out]; omega
        have hcl := bwCells_len (exK l t k)
        have o2 := own_set (own_set HO1.out.own (j := k * 7 + 2) (by omega) (.int .i64 y.1)) (j := k * 7 + 2 + 1) (by omega) (.int .i64 y.1)
        have bl2 := (HBL.out.far (p := ⟨g, k * 7 + 2, none⟩) (by have := HGL.out.2; show wr.heap.size ≠ g; omega) (.int .i64 y.1)).far (p := ⟨g, k * 7 + 2 + 1, none⟩) (by have := HGL.out.2; show wr.heap.size ≠ g; omega) (.int .i64 y.1)
        have b2 := (HO1.out.b.setCell (p := ⟨g, k * 7 + 2, none⟩) HGL.out.1 (.int .i64 y.1)).setCell (p := ⟨g, k * 7 + 2 + 1, none⟩) HGL.out.1 (.int .i64 y.1)
        clear c2 c3 f2 f3 v0 v1 vl
        generalize (W1.setCell ⟨g, k * 7 + 2, none⟩ (.int .i64 y.1)).setCell ⟨g, k * 7 + 2 + 1, none⟩ (.int .i64 y.1) = W2 at *
        obtain ⟨c4, f4⟩ := own_cell_at (j := k * 7 + 4) (u := .int .i64 x.slo) o2 (by rw [List.getElem?_set_ne (by omega), List.getElem?_set_ne (by omega)]; exact bwCells_at _ k x HG.out 4 (by omega))
        obtain ⟨c5, f5⟩ := own_cell_at (j := k * 7 + 5) (u := .int .i64 x.shi) o2 (by rw [List.getElem?_set_ne (by omega), List.getElem?_set_ne (by omega)]; exact bwCells_at _ k x HG.out 5 (by omega))
        have v0 := bl2.cell 0; have v1 := bl2.cell 1; have vl := bl2.lt
        have HO2 := Lib.hid o2
        have HB2 := Lib.hid b2
        have HKC := Lib.hid (And.intro hkc hcl)
        clear o2 b2 bl2 hkc hcl
        go_upto_region 10 with (fail)
        have o3 := own_set (own_set HO2.out (j := k * 7 + 4) (by have := HKC.out; omega) (.int .i64 y.2)) (j := k * 7 + 4 + 1) (by have := HKC.out; omega) (.int .i64 y.2)
        have b3 := (HB2.out.setCell (p := ⟨g, k * 7 + 4, none⟩) HGL.out.1 (.int .i64 y.2)).setCell (p := ⟨g, k * 7 + 4 + 1, none⟩) HGL.out.1 (.int .i64 y.2)
        clear c4 c5 f4 f5 v0 v1 vl
        generalize (W2.setCell ⟨g, k * 7 + 4, none⟩ (.int .i64 y.2)).setCell ⟨g, k * 7 + 4 + 1, none⟩ (.int .i64 y.2) = W3 at *
        have e3 := bwCells_set (exK l t k) k x (exB x y) HG.out (fun j hj h2 h3 h4 h5 => by
          match j, hj with
          | 0, _ => rfl
          | 1, _ => rfl
          | 2, _ => exact absurd rfl h2
          | 3, _ => exact absurd rfl h3
          | 4, _ => exact absurd rfl h4
          | 5, _ => exact absurd rfl h5
          | 6, _ => rfl)
        have HO3 : Hid (OtB w (.slice (some ⟨g, 0, none⟩) l.length cap) (exK l t (k + 1)) W3) := ⟨by
          show W3.ownsRow _ _ _ _ _ _
          rw [HX.out, List.length_set, ← e3]
          exact o3, b3⟩
        clear o3 b3 e3
        go_wp2_with fail
        go_roundw
        case rel => exact ⟨k + 1, Nat.succ_le_of_lt hlt, by go_num, HO3⟩
        case measure => exact meas_one hlt
      · have hke : k = l.length := by have := HL.out; omega
        subst hke
        have HO2 := HO.out
        rw [exK_all HL.out] at HO2
        have hxi := ex_in HI.out HO2.b HO2.own (fun z hz => by obtain ⟨i, x, y, hx, hy, rfl⟩ := ex_mem hz; exact ⟨x, List.mem_of_getElem? hx, rfl, rfl, rfl⟩)
        have HXI := Lib.hid hxi
        have HB5 := Lib.hid HO2.b
        clear HO2 hxi HO
        go_wp2_with (first
          | (go_at_call 60; (with_reducible refine (HM.out _ _ _ HB5.out HXI.out).mono ?_); rintro e w5 ⟨g2, cap2, rfl, hp, hb⟩; have HB6 := Lib.hid (HB5.out.trans (hb.mono HB5.out.size)); obtain ⟨-, hpi⟩ := mix_in HXI.out hb hp; have HP := Lib.hid hpi; clear hb hp hpi)
          | (go_at_call 61; (with_reducible refine (HF.out _ _ _ _ HP.out).mono ?_); rintro e w6 ⟨rfl, hb⟩; have HB7 := Lib.hid (HB6.out.trans (hb.mono HB6.out.size)); clear hb)
          | fail)
        refine wp_of_eq (md12_region (S := fun W => Blk W w6.heap.size 105 #[.int .i64 f.s, .int .i64 f.h, .int .i64 f.a, .int .i64 f.z, .int .i64 f.c] ∧ Below w.heap.size w W) (fun _ _ h hb => ⟨h.1.on hb, h.2.trans (hb.mono h.2.size)⟩) (P := w6.heap.size) (f := f) (fun W h => h.1) (Lib.hid ⟨Blk.new _ _ _, HB7.out.alloc HB7.out.size _⟩) (Lib.hid fun u W hS => ?_)) (by kernel_rfl)
        have HF9 := Lib.hid hS.2
        clear hS
        go_wp2_with fail
        go_ret3
        exact ⟨rfl, HF9.out⟩
  · have HV := Lib.hid (show madeV l r t = (0, 0, orE [bdE l, recE l.length r, lotsE l t]) by unfold madeV; rw [if_pos hz])
    have hz2 : (orE [bdE l, recE l.length r, lotsE l t] != 0) = true := by simpa using hz
    generalize orE [bdE l, recE l.length r, lotsE l t] = z at *
    have HQ := Lib.hid hq
    clear h hr ht hz hq
    go_enter Try.func22, Try.ntmps22
    go_wp2_with (first
      | (go_at_call 55; (with_reducible refine HE1.out.mono ?_); rintro e w1 ⟨rfl, hb⟩; have HB1 := Lib.hid hb; clear hb)
      | (go_at_call 59; (with_reducible refine (HE2.out _ HB1.out).mono ?_); rintro e w2 ⟨rfl, hw⟩; rw [hw]; clear hw)
      | (go_at_call 66; (with_reducible refine (HE3.out _ HB1.out).mono ?_); rintro e w2 ⟨rfl, hb⟩; have HB2 := Lib.hid (HB1.out.trans (hb.mono HB1.out.size)); clear hb)
      | (go_at_call 54; refine (or_any (c := 3) (l := [bdE l, recQ l.length r, lotsE l t]) (ints_blk (Blk.newat (by simp)) rfl (by simp))).mono ?_; rintro e w3 ⟨rfl, hw⟩; rw [hw]; clear hw; rw [HQ.out]; have HB3 := Lib.hid (HB2.out.alloc HB2.out.size (.cells #[.int .i64 (bdE l), .int .i64 (recQ l.length r), .int .i64 (lotsE l t)] 24)))
      | fail)
    go_ret3
    exact ⟨ret_made HV.out, HB3.out⟩
end Go.Proofs.Ytalghiecjhfflaa

namespace Go.Proofs.Ytalghiecjhfflaa
open Go.RowKit Go.Shelf Go.Maps
attribute [local go_sem] Oper.semAt_some


/-- A valid wish. -/
structure WsOk (m : Nat) (x : Ws) : Prop where
  len : x.ps.length = m
  ps : ∀ s ∈ x.ps, 0 ≤ s.1 ∧ s.1 ≤ s.2 ∧ s.2 ≤ 20
  m : 0 ≤ x.mlo ∧ x.mlo ≤ x.mhi ∧ x.mhi ≤ 2000
  s : 0 ≤ x.slo ∧ x.slo ≤ x.shi ∧ x.shi ≤ 1000
theorem wish_ok {m : Nat} {x : Ws} : wishE m x = 0 ↔ WsOk m x := by
  unfold wishE
  constructor
  · intro h
    split at h
    · cases h
    · rename_i h1
      split at h
      · cases h
      · rename_i h2
        split at h
        · cases h
        · rename_i h3
          have r2 : rangeE 0 2000 [x.mlo, x.mhi] = 0 := Classical.byContradiction fun e => h2 (.inr (.inl e))
          have r3 : rangeE 0 1000 [x.slo, x.shi] = 0 := Classical.byContradiction fun e => h2 (.inr (.inr e))
          simp only [rangeE_zero, List.mem_cons, List.not_mem_nil, or_false, forall_eq_or_imp, forall_eq] at r2 r3
          refine ⟨Classical.byContradiction h1, fun s hs => ?_, ?_, ?_⟩
          · have r1 : rangeE 0 20 [s.1, s.2] = 0 := Classical.byContradiction fun e => h2 (.inl ⟨s, hs, e⟩)
            simp only [rangeE_zero, List.mem_cons, List.not_mem_nil, or_false, forall_eq_or_imp, forall_eq] at r1
            have : ¬ s.2 < s.1 := fun e => h3 (.inl ⟨s, hs, e⟩)
            omega
          · have : ¬ x.mhi < x.mlo := fun e => h3 (.inr (.inl e))
            omega
          · have : ¬ x.shi < x.slo := fun e => h3 (.inr (.inr e))
            omega
  · intro h
    have h4 := h.m
    have h5 := h.s
    rw [if_neg (by simpa using h.len), if_neg, if_neg]
    · rintro (⟨s, hs, e⟩ | e | e)
      · have := h.ps s hs; omega
      · omega
      · omega
    · rintro (⟨s, hs, e⟩ | e | e)
      · refine e (rangeE_zero.2 fun y hy => ?_)
        have := h.ps s hs
        simp only [List.mem_cons, List.not_mem_nil, or_false] at hy
        rcases hy with rfl | rfl <;> omega
      · refine e (rangeE_zero.2 fun y hy => ?_)
        simp only [List.mem_cons, List.not_mem_nil, or_false] at hy
        rcases hy with rfl | rfl <;> omega
      · refine e (rangeE_zero.2 fun y hy => ?_)
        simp only [List.mem_cons, List.not_mem_nil, or_false] at hy
        rcases hy with rfl | rfl <;> omega
theorem why_part {l : List Bw} {x : Ws} {r : List Int} {k : Nat} {s : Int × Int} {n : Int} (hs : x.ps[k]? = some s) (hn : r[k]? = some n) (h : inB n s.1 s.2 = false) : whyV l x r = 1 := by
  unfold whyV
  rw [if_pos]
  refine ⟨(s, n), List.mem_of_getElem? (i := k) ?_, h⟩
  rw [List.getElem?_zip_eq_some]; exact ⟨hs, hn⟩
theorem why_rest {l : List Bw} {x : Ws} {r : List Int} (h : ∀ (j : Nat) s n, x.ps[j]? = some s → r[j]? = some n → inB n s.1 s.2 = true) : whyV l x r = if (figR l r).s < 20 * x.mlo then 2 else if 20 * x.mhi < (figR l r).h then 3 else if (figR l r).a < 20 * x.slo ∨ 20 * x.shi < (figR l r).z then 4 else 0 := by
  unfold whyV
  rw [if_neg]
  · rfl
  · rintro ⟨q, hq, e⟩
    obtain ⟨i, hi⟩ := List.getElem?_of_mem hq
    rw [List.getElem?_zip_eq_some] at hi
    rw [h i q.1 q.2 hi.1 hi.2] at e
    cases e

/-- What each operation leaves. -/
def fa4R (P G _pb _po sb so mm mc kk : Nat) (lo hi_ nn _x1 _x2 _x3 _x4 : Int) : Nat → Value → World → Prop
  | 0, v, _ => v = .pointer (some ⟨P, 0, none⟩)
  | 1, v, _ => v = .slice (some ⟨sb, so, none⟩) mm mc
  | 2, v, _ => v = .int .i64 (kk : Int)
  | 3, v, _ => v = .pointer (some ⟨sb, so + kk * 2, none⟩)
  | 4, v, _ => v = .pointer (some ⟨sb, so + kk * 2, none⟩)
  | 5, v, _ => v = .int .i64 lo
  | 6, v, _ => v = .pointer (some ⟨P, 0, none⟩)
  | 7, v, _ => v = .slice (some ⟨sb, so, none⟩) mm mc
  | 8, v, _ => v = .int .i64 (kk : Int)
  | 9, v, _ => v = .pointer (some ⟨sb, so + kk * 2, none⟩)
  | 10, v, _ => v = .pointer (some ⟨sb, so + kk * 2 + 1, none⟩)
  | 11, v, _ => v = .int .i64 hi_
  | 12, v, _ => v = .pointer (some ⟨G, 1, none⟩)
  | 13, v, _ => v = .int .i64 nn
  | 14, v, W => ∃ b_14, v = .slice (some ⟨b_14, 0, none⟩) 1 1 ∧ IntsIn W (some ⟨b_14, 0, none⟩) [nn]
  | 15, v, _ => v = .bool (inB nn lo hi_)
  | 16, v, _ => v = .bool (!inB nn lo hi_)
  | _, _, _ => True
theorem fa4R_on (P G pb po sb so mm mc kk : Nat) (lo hi_ nn x1 x2 x3 x4 : Int) : ∀ i, i < 17 → ∀ v W W', fa4R P G pb po sb so mm mc kk lo hi_ nn x1 x2 x3 x4 i v W → Below W.heap.size W W' → fa4R P G pb po sb so mm mc kk lo hi_ nn x1 x2 x3 x4 i v W' := by
  iterate 17 (refine all_succ ?_ ?_)
  · exact all_zero
  · exact fun _ _ _ h _ => h
  · exact fun _ _ _ h _ => h
  · exact fun _ _ _ h _ => h
  · exact fun _ _ _ h _ => h
  · exact fun _ _ _ h _ => h
  · exact fun _ _ _ h _ => h
  · exact fun _ _ _ h _ => h
  · exact fun _ _ _ h _ => h
  · exact fun _ _ _ h _ => h
  · exact fun _ _ _ h _ => h
  · exact fun _ _ _ h _ => h
  · exact fun _ _ _ h _ => h
  · exact fun _ _ _ h _ => h
  · exact fun _ _ _ h _ => h
  · rintro v W W' ⟨b_14, e, h0⟩ hb; exact ⟨b_14, e, h0.on hb⟩
  · exact fun _ _ _ h _ => h
  · exact fun _ _ _ h _ => h
set_option maxRecDepth 100000 in
set_option maxHeartbeats 8000000 in
theorem fa4_region {S : World → Prop} (hon : ∀ W W', S W → Below W.heap.size W W' → S W') {P G pb po sb so mm mc kk : Nat} {lo hi_ nn x1 x2 x3 x4 : Int} (hkm : kk < mm) (hP : ∀ W, S W → Blk W P 46 #[.slice (some ⟨sb, so, none⟩) mm mc, .int .i64 x1, .int .i64 x2, .int .i64 x3, .int .i64 x4]) (hG : ∀ W, S W → Blk W G 98 #[.pointer (some ⟨pb, po, none⟩), .int .i64 nn]) (hs : ∀ W, S W → W.cell? ⟨sb, so + kk * 2, none⟩ = some (.int .i64 lo) ∧ W.cell? ⟨sb, so + kk * 2 + 1, none⟩ = some (.int .i64 hi_)) {Q : Exit → Act → World → Prop} {s0 s1 s2 s4 s7 s8 s9 s10 s11 s12 s13 s14 s32 s33 s34 s35 s36 s37 s38 s39 s40 s41 s42 s43 s44 s45 s46 s47 s48 s49 s50 s51 s52 s53 s54 s55 s56 s57 s58 s59 s60 s61 s62 s63 s64 s65 s15 s16 s17 s18 s19 s20 s21 s22 s23 s24 s25 s26 s27 s28 s29 s30 s31 : Value} {W0 : World} (HL : Hid (S W0))
    (HQ : Hid (∀ (u : Nat → Value) (W : World), S W → Q .normal ⟨#[s0, s1, s2, .pointer (some ⟨P, 0, none⟩), s4, .int .i64 (kk : Int), .pointer (some ⟨G, 0, none⟩), s7, s8, s9, s10, s11, s12, s13, s14, u 0, u 1, u 2, u 3, u 4, u 5, u 6, u 7, u 8, u 9, u 10, u 11, u 12, u 13, u 14, u 15, .bool (!inB nn lo hi_), s32, s33, s34, s35, s36, s37, s38, s39, s40, s41, s42, s43, s44, s45, s46, s47, s48, s49, s50, s51, s52, s53, s54, s55, s56, s57, s58, s59, s60, s61, s62, s63, s64, s65], []⟩ W)) :
    Code.wp Try.prog ((Try.f70.body.bind (regionAt 4)).getD .skip) Q ⟨#[s0, s1, s2, .pointer (some ⟨P, 0, none⟩), s4, .int .i64 (kk : Int), .pointer (some ⟨G, 0, none⟩), s7, s8, s9, s10, s11, s12, s13, s14, s15, s16, s17, s18, s19, s20, s21, s22, s23, s24, s25, s26, s27, s28, s29, s30, s31, s32, s33, s34, s35, s36, s37, s38, s39, s40, s41, s42, s43, s44, s45, s46, s47, s48, s49, s50, s51, s52, s53, s54, s55, s56, s57, s58, s59, s60, s61, s62, s63, s64, s65], []⟩ W0 := by
  conv => arg 2; whnf
  refine wp_region_spec (by kernel_rfl) 17 (by kernel_rfl) (fun u => ⟨#[s0, s1, s2, .pointer (some ⟨P, 0, none⟩), s4, .int .i64 (kk : Int), .pointer (some ⟨G, 0, none⟩), s7, s8, s9, s10, s11, s12, s13, s14, u 0, u 1, u 2, u 3, u 4, u 5, u 6, u 7, u 8, u 9, u 10, u 11, u 12, u 13, u 14, u 15, u 16, s32, s33, s34, s35, s36, s37, s38, s39, s40, s41, s42, s43, s44, s45, s46, s47, s48, s49, s50, s51, s52, s53, s54, s55, s56, s57, s58, s59, s60, s61, s62, s63, s64, s65], []⟩) (fun i => if i = 0 then s15 else if i = 1 then s16 else if i = 2 then s17 else if i = 3 then s18 else if i = 4 then s19 else if i = 5 then s20 else if i = 6 then s21 else if i = 7 then s22 else if i = 8 then s23 else if i = 9 then s24 else if i = 10 then s25 else if i = 11 then s26 else if i = 12 then s27 else if i = 13 then s28 else if i = 14 then s29 else if i = 15 then s30 else if i = 16 then s31 else undef) (fun W => Hid (S W)) (fa4R P G pb po sb so mm mc kk lo hi_ nn x1 x2 x3 x4) (by kernel_rfl) (hon _ _ HL.out (Below.refl _ _).drew) (fun i v W W2 hi h hb => fa4R_on P G pb po sb so mm mc kk lo hi_ nn x1 x2 x3 x4 i hi v W W2 h hb) (by decide +kernel) ?_ ?_
  · iterate 17 (refine all_succ ?_ ?_)
    · exact all_zero
    · intro u W hB _ hd _ K hK
      have HK := Lib.hid hK; clear hK
      refine wpOp_of rfl (by rfl) ?_
      go_simp
      exact k_of (HK.out (.pointer (some ⟨P, 0, none⟩)) _ rfl hB (Below.refl _ _)) (by kernel_rfl)
    · intro u W hB _ hd _ K hK
      have HK := Lib.hid hK; clear hK
      have e0 : u 0 = .pointer (some ⟨P, 0, none⟩) := hd 0 (by decide +kernel)
      refine wpOp_of rfl (by rfl) ?_
      have z0 := (hP W hB.out).cell 0
      go_simp
      exact k_of (HK.out (.slice (some ⟨sb, so, none⟩) mm mc) _ rfl hB (Below.refl _ _)) (by rw [← u1_eq e0]; kernel_rfl)
    · intro u W hB _ hd _ K hK
      have HK := Lib.hid hK; clear hK
      refine wpOp_of rfl (by rfl) ?_
      go_simp
      exact k_of (HK.out (.int .i64 (kk : Int)) _ rfl hB (Below.refl _ _)) (by kernel_rfl)
    · intro u W hB _ hd _ K hK
      have HK := Lib.hid hK; clear hK
      have e1 : u 1 = .slice (some ⟨sb, so, none⟩) mm mc := hd 1 (by decide +kernel)
      have e2 : u 2 = .int .i64 (kk : Int) := hd 2 (by decide +kernel)
      refine wpOp_of rfl (by rfl) ?_
      go_simp
      exact k_of (HK.out (.pointer (some ⟨sb, so + kk * 2, none⟩)) _ rfl hB (Below.refl _ _)) (by rw [← u1_eq e1, ← u1_eq e2]; kernel_rfl)
    · intro u W hB _ hd _ K hK
      have HK := Lib.hid hK; clear hK
      have e3 : u 3 = .pointer (some ⟨sb, so + kk * 2, none⟩) := hd 3 (by decide +kernel)
      refine wpOp_of rfl (by rfl) ?_
      go_simp
      exact k_of (HK.out (.pointer (some ⟨sb, so + kk * 2, none⟩)) _ rfl hB (Below.refl _ _)) (by rw [← u1_eq e3]; kernel_rfl)
    · intro u W hB _ hd _ K hK
      have HK := Lib.hid hK; clear hK
      have e4 : u 4 = .pointer (some ⟨sb, so + kk * 2, none⟩) := hd 4 (by decide +kernel)
      refine wpOp_of rfl (by rfl) ?_
      obtain ⟨z1, z2⟩ := hs W hB.out
      go_simp
      exact k_of (HK.out (.int .i64 lo) _ rfl hB (Below.refl _ _)) (by rw [← u1_eq e4]; kernel_rfl)
    · intro u W hB _ hd _ K hK
      have HK := Lib.hid hK; clear hK
      refine wpOp_of rfl (by rfl) ?_
      go_simp
      exact k_of (HK.out (.pointer (some ⟨P, 0, none⟩)) _ rfl hB (Below.refl _ _)) (by kernel_rfl)
    · intro u W hB _ hd _ K hK
      have HK := Lib.hid hK; clear hK
      have e6 : u 6 = .pointer (some ⟨P, 0, none⟩) := hd 6 (by decide +kernel)
      refine wpOp_of rfl (by rfl) ?_
      have z0 := (hP W hB.out).cell 0
      go_simp
      exact k_of (HK.out (.slice (some ⟨sb, so, none⟩) mm mc) _ rfl hB (Below.refl _ _)) (by rw [← u1_eq e6]; kernel_rfl)
    · intro u W hB _ hd _ K hK
      have HK := Lib.hid hK; clear hK
      refine wpOp_of rfl (by rfl) ?_
      go_simp
      exact k_of (HK.out (.int .i64 (kk : Int)) _ rfl hB (Below.refl _ _)) (by kernel_rfl)
    · intro u W hB _ hd _ K hK
      have HK := Lib.hid hK; clear hK
      have e7 : u 7 = .slice (some ⟨sb, so, none⟩) mm mc := hd 7 (by decide +kernel)
      have e8 : u 8 = .int .i64 (kk : Int) := hd 8 (by decide +kernel)
      refine wpOp_of rfl (by rfl) ?_
      go_simp
      exact k_of (HK.out (.pointer (some ⟨sb, so + kk * 2, none⟩)) _ rfl hB (Below.refl _ _)) (by rw [← u1_eq e7, ← u1_eq e8]; kernel_rfl)
    · intro u W hB _ hd _ K hK
      have HK := Lib.hid hK; clear hK
      have e9 : u 9 = .pointer (some ⟨sb, so + kk * 2, none⟩) := hd 9 (by decide +kernel)
      refine wpOp_of rfl (by rfl) ?_
      go_simp
      exact k_of (HK.out (.pointer (some ⟨sb, so + kk * 2 + 1, none⟩)) _ rfl hB (Below.refl _ _)) (by rw [← u1_eq e9]; kernel_rfl)
    · intro u W hB _ hd _ K hK
      have HK := Lib.hid hK; clear hK
      have e10 : u 10 = .pointer (some ⟨sb, so + kk * 2 + 1, none⟩) := hd 10 (by decide +kernel)
      refine wpOp_of rfl (by rfl) ?_
      obtain ⟨z1, z2⟩ := hs W hB.out
      go_simp
      exact k_of (HK.out (.int .i64 hi_) _ rfl hB (Below.refl _ _)) (by rw [← u1_eq e10]; kernel_rfl)
    · intro u W hB _ hd _ K hK
      have HK := Lib.hid hK; clear hK
      refine wpOp_of rfl (by rfl) ?_
      go_simp
      exact k_of (HK.out (.pointer (some ⟨G, 1, none⟩)) _ rfl hB (Below.refl _ _)) (by kernel_rfl)
    · intro u W hB _ hd _ K hK
      have HK := Lib.hid hK; clear hK
      have e12 : u 12 = .pointer (some ⟨G, 1, none⟩) := hd 12 (by decide +kernel)
      refine wpOp_of rfl (by rfl) ?_
      have z1 := (hG W hB.out).cell 1
      go_simp
      exact k_of (HK.out (.int .i64 nn) _ rfl hB (Below.refl _ _)) (by rw [← u1_eq e12]; kernel_rfl)
    · intro u W hB _ hd _ K hK
      have HK := Lib.hid hK; clear hK
      have e13 : u 13 = .int .i64 nn := hd 13 (by decide +kernel)
      refine wpOp_of rfl (by rfl) ?_
      go_simp
      exact k_of (HK.out (.slice (some ⟨W.heap.size, 0, none⟩) 1 1) _ ⟨_, rfl, ints_blk (Blk.new _ _ _) rfl (by simp)⟩ (hon _ _ hB.out ((Below.refl _ W).alloc (Nat.le_refl _) _)) ((Below.refl _ W).alloc (Nat.le_refl _) _)) (by rw [← u1_eq e13]; kernel_rfl)
    · intro u W hB _ hd _ K hK
      have HK := Lib.hid hK; clear hK
      have e5 : u 5 = .int .i64 lo := hd 5 (by decide +kernel)
      have e11 : u 11 = .int .i64 hi_ := hd 11 (by decide +kernel)
      obtain ⟨b_14, e14, f14_0⟩ : fa4R P G pb po sb so mm mc kk lo hi_ nn x1 x2 x3 x4 14 (u 14) W := hd 14 (by decide +kernel)
      refine wpOp_of rfl (by rfl) ?_
      go_simp
      refine (within_oneB lo hi_ nn (c := 1) f14_0).mono ?_
      rintro e w' ⟨rfl, hb⟩
      exact k_of (HK.out (.bool (inB nn lo hi_)) _ rfl (hon _ _ hB.out hb) hb) (by rw [← u1_eq e5, ← u1_eq e11, ← u1_eq e14]; kernel_rfl)
    · intro u W hB _ hd _ K hK
      have HK := Lib.hid hK; clear hK
      have e15 : u 15 = .bool (inB nn lo hi_) := hd 15 (by decide +kernel)
      refine wpOp_of rfl (by rfl) ?_
      go_simp
      exact k_of (HK.out (.bool (!inB nn lo hi_)) _ rfl hB (Below.refl _ _)) (by rw [← u1_eq e15]; kernel_rfl)
  · intro u W hB hd
    have e16 : u 16 = .bool (!inB nn lo hi_) := hd 16 (by decide)
    exact k_of (HQ.out u W hB.out) (by simp only [e16])
end Go.Proofs.Ytalghiecjhfflaa

namespace Go.Proofs.Ytalghiecjhfflaa
open Go.RowKit Go.Shelf Go.Maps
attribute [local go_sem] Oper.semAt_some


theorem ret_i64b {a b : Int} (h : a = b) : Ending.returned (.int .i64 a) = .returned (.int .i64 b) := by rw [h]
set_option maxRecDepth 100000 in
set_option maxHeartbeats 4000000 in
theorem fault_any {w : World} {b o g c : Nat} {l : List Bw} {r : List Int} {q : Wm} (h : PosIn w (some ⟨g, 0, none⟩) (mixL b o l r)) (hl : ∀ x ∈ l, BwOk x) (hlen : 1 ≤ l.length ∧ l.length ≤ 5) (hr : RcOk l.length r) (hw : WsOk l.length q.w) (hs : SpansIn w q.pa q.w.ps) :
    Calls Try.prog 70 #[.slice (some ⟨g, 0, none⟩) l.length c, .agg #[.slice q.pa q.w.ps.length q.pc, .int .i64 q.w.mlo, .int .i64 q.w.mhi, .int .i64 q.w.slo, .int .i64 q.w.shi]] w fun e w' => e = .returned (.int .i64 (whyV l q.w r)) ∧ Below w.heap.size w w' := by
  have HI := Lib.hid h
  have HSP := Lib.hid hs
  have HR := Lib.hid hr
  have HW := Lib.hid hw
  have HN := Lib.hid hlen
  obtain ⟨sb, so, hpa⟩ : ∃ sb so, q.pa = some ⟨sb, so, none⟩ := by
    obtain ⟨b1, o1, e1, _⟩ := hs.get (i := 0) (p := q.w.ps[0]'(by rw [hw.len]; omega)) (List.getElem?_eq_getElem _)
    exact ⟨b1, o1, e1⟩
  have HFG := Lib.hid (fun (W : World) (hb : Below w.heap.size w W) => figs_mix (c := c) (h.on hb) hl hlen.2 hr)
  have hmm := hw.m
  have hss := hw.s
  have g1 : IntKind.i64.wrap (20 * q.w.mlo) = 20 * q.w.mlo := IntWalk.i64_in _ (by omega)
  have g2 : IntKind.i64.wrap (20 * q.w.mhi) = 20 * q.w.mhi := IntWalk.i64_in _ (by omega)
  have g3 : IntKind.i64.wrap (20 * q.w.slo) = 20 * q.w.slo := IntWalk.i64_in _ (by omega)
  have g4 : IntKind.i64.wrap (20 * q.w.shi) = 20 * q.w.shi := IntWalk.i64_in _ (by omega)
  have hb0 := (Bx.nil w).alloc #[.slice q.pa q.w.ps.length q.pc, .int .i64 q.w.mlo, .int .i64 q.w.mhi, .int .i64 q.w.slo, .int .i64 q.w.shi] 46
  rw [hpa, hw.len] at hb0
  have HB0 := Lib.hid hb0
  rw [hpa, hw.len]
  have hln := hlen.2
  have hml := mixL_len b o l r hr.len
  have HML := Lib.hid hml
  obtain ⟨pc, hpc⟩ : ∃ pc, q.pc = pc := ⟨_, rfl⟩
  rw [hpc] at HB0 ⊢
  clear h hl hr hw hs hlen hmm hss hb0 hml hpc
  go_enter Try.func70, Try.ntmps70
  go_wp2_with fail
  go_loopw [10] (fun i W => ∃ k : Nat, k ≤ l.length ∧ i = .int .i64 k ∧ Hid (∀ (j : Nat) s n, j < k → q.w.ps[j]? = some s → r[j]? = some n → inB n s.1 s.2 = true) ∧ Hid (Bx w [(w.heap.size, 46, #[.slice (some ⟨sb, so, none⟩) l.length pc, .int .i64 q.w.mlo, .int .i64 q.w.mhi, .int .i64 q.w.slo, .int .i64 q.w.shi])] W)) (fun i _ => l.length - (intOf i).toNat)
  case atStart => exact ⟨0, by omega, rfl, fun j s n hj => absurd hj (by omega), HB0⟩
  case round =>
    obtain ⟨k, hk, rfl, HZ, HB⟩ := hrel
    by_cases hlt : k < l.length
    · obtain ⟨x, hx⟩ : ∃ x, (mixL b o l r)[k]? = some x := ⟨(mixL b o l r)[k]'(by rw [HML.out]; exact hlt), List.getElem?_eq_getElem _⟩
      obtain ⟨s, hsk⟩ : ∃ s, q.w.ps[k]? = some s := ⟨q.w.ps[k]'(by rw [HW.out.len]; exact hlt), List.getElem?_eq_getElem _⟩
      obtain ⟨gb, go_, eg, hgb, d0, d1⟩ := (HI.out.on HB.out.b).get hx
      cases eg
      simp only [Nat.zero_add] at d0 d1
      obtain ⟨sb2, so2, es, hsb, s0, s1⟩ := HSP.out.get hsk
      have es2 := hpa.symm.trans es
      cases es2
      have HX := Lib.hid (And.intro hsb (And.intro s0 s1))
      have hxn : r[k]? = some x.n := by
        obtain ⟨n, hn⟩ : ∃ n, r[k]? = some n := ⟨r[k]'(by rw [HR.out.len]; exact hlt), List.getElem?_eq_getElem _⟩
        obtain ⟨y, hy⟩ : ∃ y, l[k]? = some y := ⟨l[k], List.getElem?_eq_getElem hlt⟩
        have := mixL_get b o l r k y n hy hn
        rw [hx] at this
        cases this
        exact hn
      have HRN := Lib.hid hxn
      have HSK := Lib.hid hsk
      clear hx hsk es s0 s1 hsb hxn
      go_wp2_with fail
      have hd0 := HB.out.alloc #[.pointer (some ⟨x.b, x.o, none⟩), .int .i64 x.n] 98
      refine wp_of_eq (fa4_region (S := Bx w _) (fun W W' h hb => h.on hb) (P := w.heap.size) (G := wr.heap.size) (pb := x.b) (po := x.o) (sb := sb) (so := so) (mm := l.length) (mc := pc) (kk := k) (lo := s.1) (hi_ := s.2) (nn := x.n) (x1 := q.w.mlo) (x2 := q.w.mhi) (x3 := q.w.slo) (x4 := q.w.shi) hlt (fun W h => h.get (by simp)) (fun W h => h.get (by simp)) (fun W h => by have e := HX.out; exact ⟨(h.b.cell (p := ⟨sb, _, none⟩) e.1).trans e.2.1, (h.b.cell (p := ⟨sb, _, none⟩) e.1).trans e.2.2⟩) (Lib.hid hd0) (Lib.hid fun u W hS => ?_)) (by kernel_rfl)
      have HB2 := Lib.hid (hS.perm (l2 := [(w.heap.size, 46, #[.slice (some ⟨sb, so, none⟩) l.length pc, .int .i64 q.w.mlo, .int .i64 q.w.mhi, .int .i64 q.w.slo, .int .i64 q.w.shi])]) (fun q hq => by simp only [List.mem_cons, List.not_mem_nil, or_false] at hq ⊢; exact .inr hq))
      clear hS hd0
      cases ha : inB x.n s.1 s.2 with
      | false =>
        have HV := Lib.hid (why_part (l := l) HSK.out HRN.out ha)
        clear ha
        go_wp2_with fail
        go_ret
        exact ⟨ret_i64b HV.out.symm, HB2.out.b⟩
      | true =>
        have HZ2 : Hid (∀ (j : Nat) s n, j < k + 1 → q.w.ps[j]? = some s → r[j]? = some n → inB n s.1 s.2 = true) := by
          intro j s' n' hj h1 h2
          by_cases hjk : j = k
          · subst hjk
            have e1 := HSK.out; have e2 := HRN.out
            rw [h1] at e1; rw [h2] at e2
            cases e1; cases e2
            exact ha
          · exact HZ.out j s' n' (by omega) h1 h2
        clear ha
        go_wp2_with fail
        go_roundw
        case rel => exact ⟨k + 1, Nat.succ_le_of_lt hlt, by go_num, HZ2, HB2⟩
        case measure => exact meas_one hlt
    · have HV := Lib.hid (why_rest (l := l) (x := q.w) (r := r) (fun j s n h1 h2 => HZ.out j s n (by have := (List.getElem?_eq_some_iff.1 h1).1; rw [HW.out.len] at this; omega) h1 h2))
      have HFG2 := Lib.hid (HFG.out wr HB.out.b)
      clear HZ HFG
      generalize figR l r = f at *
      obtain ⟨ma, e1⟩ : ∃ z, 20 * q.w.mlo = z := ⟨_, rfl⟩
      obtain ⟨mb, e2⟩ : ∃ z, 20 * q.w.mhi = z := ⟨_, rfl⟩
      obtain ⟨sa, e3⟩ : ∃ z, 20 * q.w.slo = z := ⟨_, rfl⟩
      obtain ⟨sc, e4⟩ : ∃ z, 20 * q.w.shi = z := ⟨_, rfl⟩
      rw [e1] at g1; rw [e2] at g2; rw [e3] at g3; rw [e4] at g4
      rw [e1, e2, e3, e4] at HV
      by_cases h1 : f.s < ma
      · have d1 : decide (f.s < ma) = true := decide_eq_true h1
        have HVV := Lib.hid (show whyV l q.w r = 2 by rw [HV.out]; rw [if_pos h1])
        clear HV h1 
        go_wp2_with (first | (with_reducible refine HFG2.out.mono ?_; rintro e w5 ⟨rfl, hb⟩; have HB5 := Lib.hid (HB.out.on hb); clear hb; have pb := HB5.out.get (g := w.heap.size) (T := 46) (cs := #[.slice (some ⟨sb, so, none⟩) l.length pc, .int .i64 q.w.mlo, .int .i64 q.w.mhi, .int .i64 q.w.slo, .int .i64 q.w.shi]) (by simp); have p1 := pb.cell 1; have p2 := pb.cell 2; have p3 := pb.cell 3; have p4 := pb.cell 4; have pl := pb.lt; clear pb) | fail)
        go_ret
        exact ⟨ret_i64b HVV.out.symm, HB5.out.b.alloc HB5.out.b.size _⟩
      · have d1 : decide (f.s < ma) = false := decide_eq_false h1
        by_cases h2 : mb < f.h
        · have d2 : decide (mb < f.h) = true := decide_eq_true h2
          have HVV := Lib.hid (show whyV l q.w r = 3 by rw [HV.out]; rw [if_neg h1, if_pos h2])
          clear HV h1 h2
          go_wp2_with (first | (with_reducible refine HFG2.out.mono ?_; rintro e w5 ⟨rfl, hb⟩; have HB5 := Lib.hid (HB.out.on hb); clear hb; have pb := HB5.out.get (g := w.heap.size) (T := 46) (cs := #[.slice (some ⟨sb, so, none⟩) l.length pc, .int .i64 q.w.mlo, .int .i64 q.w.mhi, .int .i64 q.w.slo, .int .i64 q.w.shi]) (by simp); have p1 := pb.cell 1; have p2 := pb.cell 2; have p3 := pb.cell 3; have p4 := pb.cell 4; have pl := pb.lt; clear pb) | fail)
          go_ret
          exact ⟨ret_i64b HVV.out.symm, HB5.out.b.alloc HB5.out.b.size _⟩
        · have d2 : decide (mb < f.h) = false := decide_eq_false h2
          by_cases h3 : f.a < sa
          · have d3 : decide (f.a < sa) = true := decide_eq_true h3
            have HVV := Lib.hid (show whyV l q.w r = 4 by rw [HV.out]; rw [if_neg h1, if_neg h2, if_pos (.inl h3)])
            clear HV h1 h2 h3
            go_wp2_with (first | (with_reducible refine HFG2.out.mono ?_; rintro e w5 ⟨rfl, hb⟩; have HB5 := Lib.hid (HB.out.on hb); clear hb; have pb := HB5.out.get (g := w.heap.size) (T := 46) (cs := #[.slice (some ⟨sb, so, none⟩) l.length pc, .int .i64 q.w.mlo, .int .i64 q.w.mhi, .int .i64 q.w.slo, .int .i64 q.w.shi]) (by simp); have p1 := pb.cell 1; have p2 := pb.cell 2; have p3 := pb.cell 3; have p4 := pb.cell 4; have pl := pb.lt; clear pb) | fail)
            go_ret
            exact ⟨ret_i64b HVV.out.symm, HB5.out.b.alloc HB5.out.b.size _⟩
          · have d3 : decide (f.a < sa) = false := decide_eq_false h3
            by_cases h4 : sc < f.z
            · have d4 : decide (sc < f.z) = true := decide_eq_true h4
              have HVV := Lib.hid (show whyV l q.w r = 4 by rw [HV.out]; rw [if_neg h1, if_neg h2, if_pos (.inr h4)])
              clear HV h1 h2 h3 h4
              go_wp2_with (first | (with_reducible refine HFG2.out.mono ?_; rintro e w5 ⟨rfl, hb⟩; have HB5 := Lib.hid (HB.out.on hb); clear hb; have pb := HB5.out.get (g := w.heap.size) (T := 46) (cs := #[.slice (some ⟨sb, so, none⟩) l.length pc, .int .i64 q.w.mlo, .int .i64 q.w.mhi, .int .i64 q.w.slo, .int .i64 q.w.shi]) (by simp); have p1 := pb.cell 1; have p2 := pb.cell 2; have p3 := pb.cell 3; have p4 := pb.cell 4; have pl := pb.lt; clear pb) | fail)
              go_ret
              exact ⟨ret_i64b HVV.out.symm, HB5.out.b.alloc HB5.out.b.size _⟩
            · have d4 : decide (sc < f.z) = false := decide_eq_false h4
              have HVV := Lib.hid (show whyV l q.w r = 0 by rw [HV.out]; rw [if_neg h1, if_neg h2, if_neg (by rintro (e | e); exact h3 e; exact h4 e)])
              clear HV h1 h2 h3 h4
              go_wp2_with (first | (with_reducible refine HFG2.out.mono ?_; rintro e w5 ⟨rfl, hb⟩; have HB5 := Lib.hid (HB.out.on hb); clear hb; have pb := HB5.out.get (g := w.heap.size) (T := 46) (cs := #[.slice (some ⟨sb, so, none⟩) l.length pc, .int .i64 q.w.mlo, .int .i64 q.w.mhi, .int .i64 q.w.slo, .int .i64 q.w.shi]) (by simp); have p1 := pb.cell 1; have p2 := pb.cell 2; have p3 := pb.cell 3; have p4 := pb.cell 4; have pl := pb.lt; clear pb) | fail)
              go_ret
              exact ⟨ret_i64b HVV.out.symm, HB5.out.b.alloc HB5.out.b.size _⟩
end Go.Proofs.Ytalghiecjhfflaa
