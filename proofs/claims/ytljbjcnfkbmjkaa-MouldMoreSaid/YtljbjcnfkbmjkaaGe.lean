/- Layer mould, a part: minutes. No statement is proved here. -/
import Derived.Test.YtljbjcnfkbmjkaaGb
import Derived.Test.YtljbjcnfkbmjkaaGc
import Derived.Test.YtljbjcnfkbmjkaaGd
import Derived.DeepKeys
import Derived.RangeFuncNested
import Derived.RangeFuncBound
import Derived.RangeFuncCalls
import Derived.RangeFuncLeaves
import Derived.RangeFuncWrites
import Derived.Shelf.RegionOpen
import Derived.OwnWalkIn
import Derived.TacticsInMore
import Derived.LoopNIn
import Derived.LoopIn
namespace Go.Proofs.Ytljbjcnfkbmjkaa
open Go.RowKit Go.Shelf

/-- A ring's warmth a minute later. -/
def nx1 (g bf bh x : Int) : Int := (g * bf + g * bh + (1000 - 2 * g) * x) / 1000
theorem nextL_at (g : Int) : ∀ (l : List Int) (b : Int) (i : Nat) (x : Int), l[i]? = some x → (nextL g b l)[i]? = some (nx1 g (if i = 0 then b else (l[i - 1]?).getD 0) ((l[i + 1]?).getD x) x)
  | [], _, i, x, h => by simp at h
  | [y], b, 0, x, h => by simp at h; subst h; rfl
  | [y], b, i + 1, x, h => by simp at h
  | y :: z :: r, b, 0, x, h => by simp at h; subst h; rfl
  | y :: z :: r, b, i + 1, x, h => by
    have h1 := nextL_at g (z :: r) y i x (by simpa using h)
    show (nextL g y (z :: r))[i]? = _
    rw [h1]
    congr 2
    cases i with
    | zero => rfl
    | succ j => simp
theorem nx1_bounds {g bf bh x : Int} (hg : 1 ≤ g ∧ g ≤ 500) (h1 : 0 ≤ bf ∧ bf ≤ 2000) (h2 : 0 ≤ bh ∧ bh ≤ 2000) (h3 : 0 ≤ x ∧ x ≤ 2000) :
    (0 ≤ g * bf ∧ g * bf ≤ 1000000) ∧ (0 ≤ g * bh ∧ g * bh ≤ 1000000) ∧ (0 ≤ (1000 - 2 * g) * x ∧ (1000 - 2 * g) * x ≤ 2000000) ∧ 0 ≤ g * bf + g * bh + (1000 - 2 * g) * x ∧ g * bf + g * bh + (1000 - 2 * g) * x ≤ 2000000 := by
  have a1 := Int.mul_nonneg (show 0 ≤ g by omega) h1.1
  have a2 := Int.mul_nonneg (show 0 ≤ g by omega) h2.1
  have a3 := Int.mul_nonneg (show 0 ≤ 1000 - 2 * g by omega) h3.1
  have b1 := Int.mul_le_mul_of_nonneg_left h1.2 (show 0 ≤ g by omega)
  have b2 := Int.mul_le_mul_of_nonneg_left h2.2 (show 0 ≤ g by omega)
  have b3 := Int.mul_le_mul_of_nonneg_left h3.2 (show 0 ≤ 1000 - 2 * g by omega)
  omega
theorem nextL_in {g b : Int} (hg : 1 ≤ g ∧ g ≤ 500) (hb : 0 ≤ b ∧ b ≤ 2000) {l : List Int} (h : ∀ x ∈ l, 0 ≤ x ∧ x ≤ 2000) : ∀ x ∈ nextL g b l, 0 ≤ x ∧ x ≤ 2000 := by
  have h1 := nextL_mono (g := g) (by omega) hg.2 hb.1 (Lle.lo rfl (fun x hx => (h x hx).1))
  have h2 := nextL_mono (g := g) (by omega) hg.2 hb.2 (Lle.hi rfl (fun x hx => (h x hx).2))
  rw [nextL_even] at h1 h2
  exact fun x hx => ⟨Lle.mem_lo h1 x hx, Lle.mem_hi h2 x hx⟩
theorem IntsOut.base {B B' : Nat} {w : World} {v : Value} {l : List Int} (h : IntsOut B w v l) (hB : B' ≤ B) : IntsOut B' w v l := own_base h hB
theorem SpansOut.base {B B' : Nat} {w : World} {v : Value} {l : List (Int × Int)} (h : SpansOut B w v l) (hB : B' ≤ B) : SpansOut B' w v l := own_base h hB
theorem take_snoc {α : Type} {l : List α} {k : Nat} {x : α} (h : l[k]? = some x) : l.take (k + 1) = l.take k ++ [x] := by rw [List.take_add_one, h]; rfl

set_option maxRecDepth 100000 in
set_option maxHeartbeats 4000000 in
theorem rnext_any {w : World} {m : Md} (hm : MdIn m) {A : Option Addr} {c : Nat} {l : List Int} {wl : Int} (h : IntsIn w A l) (hl : ∀ x ∈ l, 0 ≤ x ∧ x ≤ 2000) (hn : l.length ≤ 100000) (hwl : 0 ≤ wl ∧ wl ≤ 2000) :
    Calls Try.prog 57 #[.agg #[.int .i64 m.rings, .int .i64 m.give, .int .i64 m.plo, .int .i64 m.phi, .int .i64 m.wlo, .int .i64 m.whi, .int .i64 m.st, .int .i64 m.shrink, .int .i64 m.skin, .int .i64 m.fill, .int .i64 m.gap, .int .i64 m.deep], .slice A l.length c, .int .i64 wl] w fun e w' => ∃ v, e = .returned v ∧ IntsOut w.heap.size w' v (nextL m.give wl l) ∧ Below w.heap.size w w' := by
  have HI := Lib.hid h
  have HM := Lib.hid (MdBk.new w 25 m)
  have HLM := Lib.hid hl
  have hg := hm.give
  clear h hl
  go_enter Try.func57, Try.ntmps57
  go_wp2_with fail
  go_loopw [7, 8] (fun v i W => ∃ k : Nat, k ≤ l.length ∧ i = .int .i64 k ∧ Hid (IntsOut (w.heap.size + 1) W v ((nextL m.give wl l).take k)) ∧ Hid (MdBk w w.heap.size 25 m W)) (fun _ i _ => l.length - (intOf i).toNat)
  case atStart => exact ⟨0, by omega, rfl, IntsOut.nil _ _, HM⟩
  case round =>
    obtain ⟨k, hk, rfl, HO, HM⟩ := hrel
    have hlen : ((nextL m.give wl l).take k).length = k := by rw [List.length_take, nextL_length]; omega
    obtain ⟨va, vc, hv⟩ := own_slice HO.out
    rw [hlen] at hv
    subst hv
    by_cases hlt : k < l.length
    · obtain ⟨x, hx⟩ : ∃ x, l[k]? = some x := ⟨l[k], List.getElem?_eq_getElem hlt⟩
      have hat := nextL_at m.give l wl k x hx
      have hxb := HLM.out x (List.mem_of_getElem? hx)
      obtain ⟨bb, o, rfl, hbb, hcell⟩ := ints_at HI.out.at_ hx
      have hbb2 : bb < w.heap.size + 1 := Nat.lt_succ_of_lt hbb
      have HL := Lib.hid (fun (W : World) (hW : Below (w.heap.size + 1) wr W) => show W.cell? ⟨w.heap.size, 1, none⟩ = some (.int .i64 m.give) ∧ W.cell? ⟨bb, o + k, none⟩ = some (.int .i64 x) ∧ Below (w.heap.size + 1) wr W from
        ⟨(hW.cell (p := ⟨w.heap.size, 1, none⟩) (Nat.lt_succ_self _)).trans (HM.out.bk.cell 1), (hW.cell (p := ⟨bb, o + k, none⟩) hbb2).trans ((HM.out.b.cell (p := ⟨bb, o + k, none⟩) hbb).trans hcell), hW⟩)
      have hcw : wr.cell? ⟨bb, o + k, none⟩ = some (.int .i64 x) := (HM.out.b.cell (p := ⟨bb, o + k, none⟩) hbb).trans hcell
      have hc1 : wr.cell? ⟨w.heap.size, 1, none⟩ = some (.int .i64 m.give) := HM.out.bk.cell 1
      have hsz : w.heap.size + 1 ≤ wr.heap.size := HM.out.bk.lt
      have HX := Lib.hid hx
      clear hcell hx
      by_cases hk0 : k = 0
      · by_cases hkl : k + 1 < l.length
        · have hbf := hwl
          simp only [if_pos hk0] at hat
          have hk1 : ¬ (0 < k) := by omega
          have hk2 : ¬ ((0 : Int) < (k : Int)) := by omega
          clear hk0
          obtain ⟨bh, hhx⟩ : ∃ y, l[k + 1]? = some y := ⟨l[k + 1], List.getElem?_eq_getElem (by omega)⟩
          have hbh := HLM.out bh (List.mem_of_getElem? hhx)
          obtain ⟨b2, o2, e2, hb2, hcell2⟩ := ints_at HI.out.at_ hhx
          simp only [Option.some.injEq, Addr.mk.injEq, and_true] at e2
          obtain ⟨rfl, rfl⟩ := e2
          have hch : wr.cell? ⟨bb, o + (k + 1), none⟩ = some (.int .i64 bh) := (HM.out.b.cell (p := ⟨bb, o + (k + 1), none⟩) hbb).trans hcell2
          simp only [hhx, Option.getD_some] at hat
          clear hhx hcell2 hb2
          obtain ⟨⟨p1, q1⟩, ⟨p2, q2⟩, ⟨p3, q3⟩, p4, q4⟩ := nx1_bounds hg hbf hbh hxb
          have w0 : IntKind.i64.wrap (m.give * wl) = m.give * wl := IntWalk.i64_in _ (by omega)
          have w1 : IntKind.i64.wrap (m.give * bh) = m.give * bh := IntWalk.i64_in _ (by omega)
          have w2 : IntKind.i64.wrap (m.give * wl + m.give * bh) = m.give * wl + m.give * bh := IntWalk.i64_in _ (by omega)
          have w3 : IntKind.i64.wrap (2 * m.give) = 2 * m.give := IntWalk.i64_in _ (by omega)
          have w4 : IntKind.i64.wrap (1000 - 2 * m.give) = 1000 - 2 * m.give := IntWalk.i64_in _ (by omega)
          have w5 : IntKind.i64.wrap ((1000 - 2 * m.give) * x) = (1000 - 2 * m.give) * x := IntWalk.i64_in _ (by omega)
          have w6 : IntKind.i64.wrap (m.give * wl + m.give * bh + (1000 - 2 * m.give) * x) = m.give * wl + m.give * bh + (1000 - 2 * m.give) * x := IntWalk.i64_in _ (by omega)
          have w7 : (m.give * wl + m.give * bh + (1000 - 2 * m.give) * x).tdiv 1000 = nx1 m.give wl bh x := Int.tdiv_eq_ediv_of_nonneg p4
          have w8 : IntKind.i64.wrap (nx1 m.give wl bh x) = nx1 m.give wl bh x := IntWalk.i64_in _ (by unfold nx1; omega)
          have w9 : (m.give * wl + m.give * bh + (1000 - 2 * m.give) * x) / 1000 = nx1 m.give wl bh x := rfl
          have HAT := Lib.hid hat
          clear hat p1 q1 p2 q2 p3 q3 q4 hbf hbh
          go_wp2_with fail
          go_quiet (fail)
          go_wp2_with fail
          go_region_held3 (fun W => W.cell? ⟨w.heap.size, 1, none⟩ = some (.int .i64 m.give) ∧ W.cell? ⟨bb, o + k, none⟩ = some (.int .i64 x) ∧ Below (w.heap.size + 1) wr W)
            (exact HL.out _ (by repeat (first | assumption | exact Below.refl _ _ | (with_reducible apply Below.drew) | (with_reducible refine Below.alloc ?_ (by first | omega | (simp; omega)) _) | (with_reducible apply below_drewN') | exact Below.trans (by repeat (first | exact Below.refl _ _ | (with_reducible apply Below.drew) | (with_reducible refine Below.alloc ?_ (by first | omega | (simp; omega)) _) | (with_reducible apply below_drewN'))) hbN)))
            (first | (refine app_step rfl _ _ rfl (l := (nextL m.give wl l).take k) rfl (own_below HO.out (by repeat (first | exact Below.refl _ _ | (with_reducible apply Below.drew) | (with_reducible refine Below.alloc ?_ (by first | exact Nat.le_refl _ | (simp; done)) _) | (with_reducible apply below_drewN')))) (nx1 m.give wl bh x) (by rfl) (Blk.new _ _ _) (by rw [hlen]; omega) (by simp; omega) ?_; rw [hlen]; intro g cap w1 hown1 hbN hgr1 hgb1) | fail)
          have HO2 : Hid (IntsOut (w.heap.size + 1) w1 (.slice (some ⟨g, 0, none⟩) (k + 1) cap) ((nextL m.give wl l).take (k + 1))) := by
            show IntsOut _ _ _ _
            rw [take_snoc HAT.out]; exact hown1
          have HM2 : Hid (MdBk w w.heap.size 25 m w1) := ⟨HM.out.bk.below (Below.trans (by repeat (first | exact Below.refl _ _ | (with_reducible apply Below.drew) | (with_reducible refine Below.alloc ?_ (by first | omega | (simp; omega)) _) | (with_reducible apply below_drewN'))) hbN) (Nat.lt_succ_self _), HM.out.b.trans ((Below.trans (by repeat (first | exact Below.refl _ _ | (with_reducible apply Below.drew) | (with_reducible refine Below.alloc ?_ (by first | omega | (simp; omega)) _) | (with_reducible apply below_drewN'))) hbN).mono (Nat.le_succ _))⟩
          clear hown1 hbN hgr1 hgb1
          go_wp2_with fail
          go_roundw
          case rel => exact ⟨k + 1, Nat.succ_le_of_lt hlt, by go_num, HO2, HM2⟩
          case measure => exact meas_one hlt
        · have hbf := hwl
          simp only [if_pos hk0] at hat
          have hk1 : ¬ (0 < k) := by omega
          have hk2 : ¬ ((0 : Int) < (k : Int)) := by omega
          clear hk0
          have hbh := hxb
          simp only [List.getElem?_eq_none (show l.length ≤ k + 1 by omega), Option.getD_none] at hat
          obtain ⟨⟨p1, q1⟩, ⟨p2, q2⟩, ⟨p3, q3⟩, p4, q4⟩ := nx1_bounds hg hbf hbh hxb
          have w0 : IntKind.i64.wrap (m.give * wl) = m.give * wl := IntWalk.i64_in _ (by omega)
          have w1 : IntKind.i64.wrap (m.give * x) = m.give * x := IntWalk.i64_in _ (by omega)
          have w2 : IntKind.i64.wrap (m.give * wl + m.give * x) = m.give * wl + m.give * x := IntWalk.i64_in _ (by omega)
          have w3 : IntKind.i64.wrap (2 * m.give) = 2 * m.give := IntWalk.i64_in _ (by omega)
          have w4 : IntKind.i64.wrap (1000 - 2 * m.give) = 1000 - 2 * m.give := IntWalk.i64_in _ (by omega)
          have w5 : IntKind.i64.wrap ((1000 - 2 * m.give) * x) = (1000 - 2 * m.give) * x := IntWalk.i64_in _ (by omega)
          have w6 : IntKind.i64.wrap (m.give * wl + m.give * x + (1000 - 2 * m.give) * x) = m.give * wl + m.give * x + (1000 - 2 * m.give) * x := IntWalk.i64_in _ (by omega)
          have w7 : (m.give * wl + m.give * x + (1000 - 2 * m.give) * x).tdiv 1000 = nx1 m.give wl x x := Int.tdiv_eq_ediv_of_nonneg p4
          have w8 : IntKind.i64.wrap (nx1 m.give wl x x) = nx1 m.give wl x x := IntWalk.i64_in _ (by unfold nx1; omega)
          have w9 : (m.give * wl + m.give * x + (1000 - 2 * m.give) * x) / 1000 = nx1 m.give wl x x := rfl
          have HAT := Lib.hid hat
          clear hat p1 q1 p2 q2 p3 q3 q4 hbf hbh
          go_wp2_with fail
          go_quiet (fail)
          go_wp2_with fail
          go_region_held3 (fun W => W.cell? ⟨w.heap.size, 1, none⟩ = some (.int .i64 m.give) ∧ W.cell? ⟨bb, o + k, none⟩ = some (.int .i64 x) ∧ Below (w.heap.size + 1) wr W)
            (exact HL.out _ (by repeat (first | assumption | exact Below.refl _ _ | (with_reducible apply Below.drew) | (with_reducible refine Below.alloc ?_ (by first | omega | (simp; omega)) _) | (with_reducible apply below_drewN') | exact Below.trans (by repeat (first | exact Below.refl _ _ | (with_reducible apply Below.drew) | (with_reducible refine Below.alloc ?_ (by first | omega | (simp; omega)) _) | (with_reducible apply below_drewN'))) hbN)))
            (first | (refine app_step rfl _ _ rfl (l := (nextL m.give wl l).take k) rfl (own_below HO.out (by repeat (first | exact Below.refl _ _ | (with_reducible apply Below.drew) | (with_reducible refine Below.alloc ?_ (by first | exact Nat.le_refl _ | (simp; done)) _) | (with_reducible apply below_drewN')))) (nx1 m.give wl x x) (by rfl) (Blk.new _ _ _) (by rw [hlen]; omega) (by simp; omega) ?_; rw [hlen]; intro g cap w1 hown1 hbN hgr1 hgb1) | fail)
          have HO2 : Hid (IntsOut (w.heap.size + 1) w1 (.slice (some ⟨g, 0, none⟩) (k + 1) cap) ((nextL m.give wl l).take (k + 1))) := by
            show IntsOut _ _ _ _
            rw [take_snoc HAT.out]; exact hown1
          have HM2 : Hid (MdBk w w.heap.size 25 m w1) := ⟨HM.out.bk.below (Below.trans (by repeat (first | exact Below.refl _ _ | (with_reducible apply Below.drew) | (with_reducible refine Below.alloc ?_ (by first | omega | (simp; omega)) _) | (with_reducible apply below_drewN'))) hbN) (Nat.lt_succ_self _), HM.out.b.trans ((Below.trans (by repeat (first | exact Below.refl _ _ | (with_reducible apply Below.drew) | (with_reducible refine Below.alloc ?_ (by first | omega | (simp; omega)) _) | (with_reducible apply below_drewN'))) hbN).mono (Nat.le_succ _))⟩
          clear hown1 hbN hgr1 hgb1
          go_wp2_with fail
          go_roundw
          case rel => exact ⟨k + 1, Nat.succ_le_of_lt hlt, by go_num, HO2, HM2⟩
          case measure => exact meas_one hlt
      · by_cases hkl : k + 1 < l.length
        · obtain ⟨bf, hbx⟩ : ∃ y, l[k - 1]? = some y := ⟨l[k - 1], List.getElem?_eq_getElem (by omega)⟩
          have hbf := HLM.out bf (List.mem_of_getElem? hbx)
          obtain ⟨b1, o1, e1, hb1, hcell1⟩ := ints_at HI.out.at_ hbx
          simp only [Option.some.injEq, Addr.mk.injEq, and_true] at e1
          obtain ⟨rfl, rfl⟩ := e1
          have hcf : wr.cell? ⟨bb, o + (k - 1), none⟩ = some (.int .i64 bf) := (HM.out.b.cell (p := ⟨bb, o + (k - 1), none⟩) hbb).trans hcell1
          have hkp : IntKind.i64.wrap ((k : Int) - 1) = ((k - 1 : Nat) : Int) := by rw [IntWalk.i64_in _ (by omega)]; omega
          simp only [hbx, if_neg hk0, Option.getD_some] at hat
          have hk1 : 0 < k := by omega
          clear hbx hcell1 hb1
          obtain ⟨bh, hhx⟩ : ∃ y, l[k + 1]? = some y := ⟨l[k + 1], List.getElem?_eq_getElem (by omega)⟩
          have hbh := HLM.out bh (List.mem_of_getElem? hhx)
          obtain ⟨b2, o2, e2, hb2, hcell2⟩ := ints_at HI.out.at_ hhx
          simp only [Option.some.injEq, Addr.mk.injEq, and_true] at e2
          obtain ⟨rfl, rfl⟩ := e2
          have hch : wr.cell? ⟨bb, o + (k + 1), none⟩ = some (.int .i64 bh) := (HM.out.b.cell (p := ⟨bb, o + (k + 1), none⟩) hbb).trans hcell2
          simp only [hhx, Option.getD_some] at hat
          clear hhx hcell2 hb2
          obtain ⟨⟨p1, q1⟩, ⟨p2, q2⟩, ⟨p3, q3⟩, p4, q4⟩ := nx1_bounds hg hbf hbh hxb
          have w0 : IntKind.i64.wrap (m.give * bf) = m.give * bf := IntWalk.i64_in _ (by omega)
          have w1 : IntKind.i64.wrap (m.give * bh) = m.give * bh := IntWalk.i64_in _ (by omega)
          have w2 : IntKind.i64.wrap (m.give * bf + m.give * bh) = m.give * bf + m.give * bh := IntWalk.i64_in _ (by omega)
          have w3 : IntKind.i64.wrap (2 * m.give) = 2 * m.give := IntWalk.i64_in _ (by omega)
          have w4 : IntKind.i64.wrap (1000 - 2 * m.give) = 1000 - 2 * m.give := IntWalk.i64_in _ (by omega)
          have w5 : IntKind.i64.wrap ((1000 - 2 * m.give) * x) = (1000 - 2 * m.give) * x := IntWalk.i64_in _ (by omega)
          have w6 : IntKind.i64.wrap (m.give * bf + m.give * bh + (1000 - 2 * m.give) * x) = m.give * bf + m.give * bh + (1000 - 2 * m.give) * x := IntWalk.i64_in _ (by omega)
          have w7 : (m.give * bf + m.give * bh + (1000 - 2 * m.give) * x).tdiv 1000 = nx1 m.give bf bh x := Int.tdiv_eq_ediv_of_nonneg p4
          have w8 : IntKind.i64.wrap (nx1 m.give bf bh x) = nx1 m.give bf bh x := IntWalk.i64_in _ (by unfold nx1; omega)
          have w9 : (m.give * bf + m.give * bh + (1000 - 2 * m.give) * x) / 1000 = nx1 m.give bf bh x := rfl
          have HAT := Lib.hid hat
          clear hat p1 q1 p2 q2 p3 q3 q4 hbf hbh
          go_wp2_with fail
          go_quiet (fail)
          go_wp2_with fail
          go_region_held3 (fun W => W.cell? ⟨w.heap.size, 1, none⟩ = some (.int .i64 m.give) ∧ W.cell? ⟨bb, o + k, none⟩ = some (.int .i64 x) ∧ Below (w.heap.size + 1) wr W)
            (exact HL.out _ (by repeat (first | assumption | exact Below.refl _ _ | (with_reducible apply Below.drew) | (with_reducible refine Below.alloc ?_ (by first | omega | (simp; omega)) _) | (with_reducible apply below_drewN') | exact Below.trans (by repeat (first | exact Below.refl _ _ | (with_reducible apply Below.drew) | (with_reducible refine Below.alloc ?_ (by first | omega | (simp; omega)) _) | (with_reducible apply below_drewN'))) hbN)))
            (first | (refine app_step rfl _ _ rfl (l := (nextL m.give wl l).take k) rfl (own_below HO.out (by repeat (first | exact Below.refl _ _ | (with_reducible apply Below.drew) | (with_reducible refine Below.alloc ?_ (by first | exact Nat.le_refl _ | (simp; done)) _) | (with_reducible apply below_drewN')))) (nx1 m.give bf bh x) (by rfl) (Blk.new _ _ _) (by rw [hlen]; omega) (by simp; omega) ?_; rw [hlen]; intro g cap w1 hown1 hbN hgr1 hgb1) | fail)
          have HO2 : Hid (IntsOut (w.heap.size + 1) w1 (.slice (some ⟨g, 0, none⟩) (k + 1) cap) ((nextL m.give wl l).take (k + 1))) := by
            show IntsOut _ _ _ _
            rw [take_snoc HAT.out]; exact hown1
          have HM2 : Hid (MdBk w w.heap.size 25 m w1) := ⟨HM.out.bk.below (Below.trans (by repeat (first | exact Below.refl _ _ | (with_reducible apply Below.drew) | (with_reducible refine Below.alloc ?_ (by first | omega | (simp; omega)) _) | (with_reducible apply below_drewN'))) hbN) (Nat.lt_succ_self _), HM.out.b.trans ((Below.trans (by repeat (first | exact Below.refl _ _ | (with_reducible apply Below.drew) | (with_reducible refine Below.alloc ?_ (by first | omega | (simp; omega)) _) | (with_reducible apply below_drewN'))) hbN).mono (Nat.le_succ _))⟩
          clear hown1 hbN hgr1 hgb1
          go_wp2_with fail
          go_roundw
          case rel => exact ⟨k + 1, Nat.succ_le_of_lt hlt, by go_num, HO2, HM2⟩
          case measure => exact meas_one hlt
        · obtain ⟨bf, hbx⟩ : ∃ y, l[k - 1]? = some y := ⟨l[k - 1], List.getElem?_eq_getElem (by omega)⟩
          have hbf := HLM.out bf (List.mem_of_getElem? hbx)
          obtain ⟨b1, o1, e1, hb1, hcell1⟩ := ints_at HI.out.at_ hbx
          simp only [Option.some.injEq, Addr.mk.injEq, and_true] at e1
          obtain ⟨rfl, rfl⟩ := e1
          have hcf : wr.cell? ⟨bb, o + (k - 1), none⟩ = some (.int .i64 bf) := (HM.out.b.cell (p := ⟨bb, o + (k - 1), none⟩) hbb).trans hcell1
          have hkp : IntKind.i64.wrap ((k : Int) - 1) = ((k - 1 : Nat) : Int) := by rw [IntWalk.i64_in _ (by omega)]; omega
          simp only [hbx, if_neg hk0, Option.getD_some] at hat
          have hk1 : 0 < k := by omega
          clear hbx hcell1 hb1
          have hbh := hxb
          simp only [List.getElem?_eq_none (show l.length ≤ k + 1 by omega), Option.getD_none] at hat
          obtain ⟨⟨p1, q1⟩, ⟨p2, q2⟩, ⟨p3, q3⟩, p4, q4⟩ := nx1_bounds hg hbf hbh hxb
          have w0 : IntKind.i64.wrap (m.give * bf) = m.give * bf := IntWalk.i64_in _ (by omega)
          have w1 : IntKind.i64.wrap (m.give * x) = m.give * x := IntWalk.i64_in _ (by omega)
          have w2 : IntKind.i64.wrap (m.give * bf + m.give * x) = m.give * bf + m.give * x := IntWalk.i64_in _ (by omega)
          have w3 : IntKind.i64.wrap (2 * m.give) = 2 * m.give := IntWalk.i64_in _ (by omega)
          have w4 : IntKind.i64.wrap (1000 - 2 * m.give) = 1000 - 2 * m.give := IntWalk.i64_in _ (by omega)
          have w5 : IntKind.i64.wrap ((1000 - 2 * m.give) * x) = (1000 - 2 * m.give) * x := IntWalk.i64_in _ (by omega)
          have w6 : IntKind.i64.wrap (m.give * bf + m.give * x + (1000 - 2 * m.give) * x) = m.give * bf + m.give * x + (1000 - 2 * m.give) * x := IntWalk.i64_in _ (by omega)
          have w7 : (m.give * bf + m.give * x + (1000 - 2 * m.give) * x).tdiv 1000 = nx1 m.give bf x x := Int.tdiv_eq_ediv_of_nonneg p4
          have w8 : IntKind.i64.wrap (nx1 m.give bf x x) = nx1 m.give bf x x := IntWalk.i64_in _ (by unfold nx1; omega)
          have w9 : (m.give * bf + m.give * x + (1000 - 2 * m.give) * x) / 1000 = nx1 m.give bf x x := rfl
          have HAT := Lib.hid hat
          clear hat p1 q1 p2 q2 p3 q3 q4 hbf hbh
          go_wp2_with fail
          go_quiet (fail)
          go_wp2_with fail
          go_region_held3 (fun W => W.cell? ⟨w.heap.size, 1, none⟩ = some (.int .i64 m.give) ∧ W.cell? ⟨bb, o + k, none⟩ = some (.int .i64 x) ∧ Below (w.heap.size + 1) wr W)
            (exact HL.out _ (by repeat (first | assumption | exact Below.refl _ _ | (with_reducible apply Below.drew) | (with_reducible refine Below.alloc ?_ (by first | omega | (simp; omega)) _) | (with_reducible apply below_drewN') | exact Below.trans (by repeat (first | exact Below.refl _ _ | (with_reducible apply Below.drew) | (with_reducible refine Below.alloc ?_ (by first | omega | (simp; omega)) _) | (with_reducible apply below_drewN'))) hbN)))
            (first | (refine app_step rfl _ _ rfl (l := (nextL m.give wl l).take k) rfl (own_below HO.out (by repeat (first | exact Below.refl _ _ | (with_reducible apply Below.drew) | (with_reducible refine Below.alloc ?_ (by first | exact Nat.le_refl _ | (simp; done)) _) | (with_reducible apply below_drewN')))) (nx1 m.give bf x x) (by rfl) (Blk.new _ _ _) (by rw [hlen]; omega) (by simp; omega) ?_; rw [hlen]; intro g cap w1 hown1 hbN hgr1 hgb1) | fail)
          have HO2 : Hid (IntsOut (w.heap.size + 1) w1 (.slice (some ⟨g, 0, none⟩) (k + 1) cap) ((nextL m.give wl l).take (k + 1))) := by
            show IntsOut _ _ _ _
            rw [take_snoc HAT.out]; exact hown1
          have HM2 : Hid (MdBk w w.heap.size 25 m w1) := ⟨HM.out.bk.below (Below.trans (by repeat (first | exact Below.refl _ _ | (with_reducible apply Below.drew) | (with_reducible refine Below.alloc ?_ (by first | omega | (simp; omega)) _) | (with_reducible apply below_drewN'))) hbN) (Nat.lt_succ_self _), HM.out.b.trans ((Below.trans (by repeat (first | exact Below.refl _ _ | (with_reducible apply Below.drew) | (with_reducible refine Below.alloc ?_ (by first | omega | (simp; omega)) _) | (with_reducible apply below_drewN'))) hbN).mono (Nat.le_succ _))⟩
          clear hown1 hbN hgr1 hgb1
          go_wp2_with fail
          go_roundw
          case rel => exact ⟨k + 1, Nat.succ_le_of_lt hlt, by go_num, HO2, HM2⟩
          case measure => exact meas_one hlt
    · obtain rfl : k = l.length := by omega
      have HO2 : Hid (IntsOut (w.heap.size + 1) wr (.slice va l.length vc) (nextL m.give wl l)) := by
        have h := HO.out
        rw [List.take_of_length_le (by rw [nextL_length]; exact Nat.le_refl _)] at h
        exact h
      clear HO hlen
      go_wp2_with fail
      go_ret
      exact ⟨.slice va l.length vc, rfl, IntsOut.base (B := w.heap.size + 1) HO2.out (by omega), HM.out.b⟩
end Go.Proofs.Ytljbjcnfkbmjkaa

namespace Go.Proofs.Ytljbjcnfkbmjkaa
open Go.RowKit Go.Shelf

/-- A list as an array of eight, with 0 behind it. -/
def la (l : List Int) (j : Nat) : Int := (l[j]?).getD 0
/-- A block of eight ints. -/
structure W8 (W : World) (g : Nat) (a : Nat → Int) : Prop where
  bk : Blk W g 90 #[.int .i64 (a 0), .int .i64 (a 1), .int .i64 (a 2), .int .i64 (a 3), .int .i64 (a 4), .int .i64 (a 5), .int .i64 (a 6), .int .i64 (a 7)]
theorem W8.on {W W' : World} {g : Nat} {a : Nat → Int} (h : W8 W g a) (hb : Below W.heap.size W W') : W8 W' g a := ⟨h.bk.on hb⟩
theorem W8.cells {W : World} {g : Nat} {a : Nat → Int} (h : W8 W g a) : W.cell? ⟨g, 0, none⟩ = some (.int .i64 (a 0)) ∧ W.cell? ⟨g, 1, none⟩ = some (.int .i64 (a 1)) ∧ W.cell? ⟨g, 2, none⟩ = some (.int .i64 (a 2)) ∧ W.cell? ⟨g, 3, none⟩ = some (.int .i64 (a 3)) ∧ W.cell? ⟨g, 4, none⟩ = some (.int .i64 (a 4)) ∧ W.cell? ⟨g, 5, none⟩ = some (.int .i64 (a 5)) ∧ W.cell? ⟨g, 6, none⟩ = some (.int .i64 (a 6)) ∧ W.cell? ⟨g, 7, none⟩ = some (.int .i64 (a 7)) :=
  ⟨h.bk.cell 0, h.bk.cell 1, h.bk.cell 2, h.bk.cell 3, h.bk.cell 4, h.bk.cell 5, h.bk.cell 6, h.bk.cell 7⟩
theorem W8.frozen {W : World} {g : Nat} {a : Nat → Int} (h : W8 W g a) : W.frozen? ⟨g, 0, none⟩ = false ∧ W.frozen? ⟨g, 1, none⟩ = false ∧ W.frozen? ⟨g, 2, none⟩ = false ∧ W.frozen? ⟨g, 3, none⟩ = false ∧ W.frozen? ⟨g, 4, none⟩ = false ∧ W.frozen? ⟨g, 5, none⟩ = false ∧ W.frozen? ⟨g, 6, none⟩ = false ∧ W.frozen? ⟨g, 7, none⟩ = false :=
  ⟨h.bk.frozen 0, h.bk.frozen 1, h.bk.frozen 2, h.bk.frozen 3, h.bk.frozen 4, h.bk.frozen 5, h.bk.frozen 6, h.bk.frozen 7⟩
theorem W8.cell {W : World} {g : Nat} {a : Nat → Int} (h : W8 W g a) {k : Nat} (hk : k < 8) : W.cell? ⟨g, k, none⟩ = some (.int .i64 (a k)) := by
  rw [h.bk.cell]
  match k, hk with
  | 0, _ => rfl
  | 1, _ => rfl
  | 2, _ => rfl
  | 3, _ => rfl
  | 4, _ => rfl
  | 5, _ => rfl
  | 6, _ => rfl
  | 7, _ => rfl
def put8 (a : Nat → Int) (k : Nat) (v : Int) : Nat → Int := fun j => if j = k then v else a j
theorem W8.set_ {W : World} {g : Nat} {a : Nat → Int} (h : W8 W g a) {k : Nat} (hk : k < 8) (v : Int) : W8 (W.setCell ⟨g, k, none⟩ (.int .i64 v)) g (put8 a k v) := by
  refine ⟨?_⟩
  have h1 := h.bk.set_ k (.int .i64 v)
  have e : (#[.int .i64 (a 0), .int .i64 (a 1), .int .i64 (a 2), .int .i64 (a 3), .int .i64 (a 4), .int .i64 (a 5), .int .i64 (a 6), .int .i64 (a 7)] : Array Value).setIfInBounds k (.int .i64 v) = #[.int .i64 (put8 a k v 0), .int .i64 (put8 a k v 1), .int .i64 (put8 a k v 2), .int .i64 (put8 a k v 3), .int .i64 (put8 a k v 4), .int .i64 (put8 a k v 5), .int .i64 (put8 a k v 6), .int .i64 (put8 a k v 7)] := by
    match k, hk with
    | 0, _ => rfl
    | 1, _ => rfl
    | 2, _ => rfl
    | 3, _ => rfl
    | 4, _ => rfl
    | 5, _ => rfl
    | 6, _ => rfl
    | 7, _ => rfl
  rw [e] at h1
  exact h1
theorem W8.eq {W : World} {g : Nat} {a b : Nat → Int} (h : W8 W g a) (e : ∀ j, j < 8 → a j = b j) : W8 W g b := by
  refine ⟨?_⟩
  have h1 := h.bk
  rw [e 0 (by omega), e 1 (by omega), e 2 (by omega), e 3 (by omega), e 4 (by omega), e 5 (by omega), e 6 (by omega), e 7 (by omega)] at h1
  exact h1
theorem w8_eq {a b : Nat → Int} (e : ∀ j, j < 8 → a j = b j) : (#[.int .i64 (a 0), .int .i64 (a 1), .int .i64 (a 2), .int .i64 (a 3), .int .i64 (a 4), .int .i64 (a 5), .int .i64 (a 6), .int .i64 (a 7)] : Array Value) = #[.int .i64 (b 0), .int .i64 (b 1), .int .i64 (b 2), .int .i64 (b 3), .int .i64 (b 4), .int .i64 (b 5), .int .i64 (b 6), .int .i64 (b 7)] := by
  rw [e 0 (by omega), e 1 (by omega), e 2 (by omega), e 3 (by omega), e 4 (by omega), e 5 (by omega), e 6 (by omega), e 7 (by omega)]
theorem below_set {w W : World} {B g k : Nat} {v : Value} (h : Below B w W) (hg : B ≤ g) : Below B w (W.setCell ⟨g, k, none⟩ v) := h.setCell hg _
/-- Between two rounds of minuteLater. -/
structure LtI (w : World) (m : Md) (l : List Int) (a : Nat → Int) (W : World) : Prop where
  b0 : MdBk w w.heap.size 88 m W
  b1 : W8 W (w.heap.size + 1) (la l)
  b2 : W8 W (w.heap.size + 1 + 1) (fun _ => 0)
  b3 : W8 W (w.heap.size + 1 + 1 + 1) a
theorem LtI.put {w W : World} {m : Md} {l : List Int} {a : Nat → Int} (h : LtI w m l a W) {k : Nat} (hk : k < 8) (v : Int) : LtI w m l (put8 a k v) (W.setCell ⟨w.heap.size + 1 + 1 + 1, k, none⟩ (.int .i64 v)) :=
  ⟨⟨h.b0.bk.far (by simp; omega) _, h.b0.b.setCell (by simp; omega) _⟩, ⟨h.b1.bk.far (by simp) _⟩, ⟨h.b2.bk.far (by simp) _⟩, h.b3.set_ hk v⟩
theorem LtI.eq {w W : World} {m : Md} {l : List Int} {a b : Nat → Int} (h : LtI w m l a W) (e : ∀ j, j < 8 → a j = b j) : LtI w m l b W := ⟨h.b0, h.b1, h.b2, h.b3.eq e⟩
/-- k rings have their next warmth. -/
def mixA (l l' : List Int) (k j : Nat) : Int := if j < k then la l' j else la l j
theorem mixA_put {l l' : List Int} {k : Nat} {v : Int} (h : la l' k = v) (j : Nat) : put8 (mixA l l' k) k v j = mixA l l' (k + 1) j := by
  unfold put8 mixA
  by_cases h1 : j = k
  · subst h1; rw [if_pos rfl, if_pos (by omega), h]
  · rw [if_neg h1]
    by_cases h2 : j < k
    · rw [if_pos h2, if_pos (by omega)]
    · rw [if_neg h2, if_neg (by omega)]
theorem mixA_end {l l' : List Int} (h : l'.length = l.length) (j : Nat) : mixA l l' l.length j = la l' j := by
  unfold mixA
  by_cases h1 : j < l.length
  · rw [if_pos h1]
  · rw [if_neg h1]; unfold la; rw [List.getElem?_eq_none (by omega), List.getElem?_eq_none (by omega)]
theorem la_get {l : List Int} {k : Nat} (h : k < l.length) : l[k]? = some (la l k) := by unfold la; rw [List.getElem?_eq_getElem h]; rfl
theorem la_mem {l : List Int} {k : Nat} (h : k < l.length) : la l k ∈ l := List.mem_of_getElem? (la_get h)

set_option maxRecDepth 100000 in
set_option maxHeartbeats 4000000 in
theorem later_any {w : World} {m : Md} (hm : MdIn m) {l : List Int} {wl : Int} (hk : l.length = kR m) (hl : ∀ x ∈ l, 0 ≤ x ∧ x ≤ 2000) (hwl : 0 ≤ wl ∧ wl ≤ 2000) :
    Calls Try.prog 54 #[.agg #[.int .i64 m.rings, .int .i64 m.give, .int .i64 m.plo, .int .i64 m.phi, .int .i64 m.wlo, .int .i64 m.whi, .int .i64 m.st, .int .i64 m.shrink, .int .i64 m.skin, .int .i64 m.fill, .int .i64 m.gap, .int .i64 m.deep], .agg #[.int .i64 (la l 0), .int .i64 (la l 1), .int .i64 (la l 2), .int .i64 (la l 3), .int .i64 (la l 4), .int .i64 (la l 5), .int .i64 (la l 6), .int .i64 (la l 7)], .int .i64 wl] w fun e w' => e = .returned (.agg #[.int .i64 (la (nextL m.give wl l) 0), .int .i64 (la (nextL m.give wl l) 1), .int .i64 (la (nextL m.give wl l) 2), .int .i64 (la (nextL m.give wl l) 3), .int .i64 (la (nextL m.give wl l) 4), .int .i64 (la (nextL m.give wl l) 5), .int .i64 (la (nextL m.give wl l) 6), .int .i64 (la (nextL m.give wl l) 7)]) ∧ Below w.heap.size w w' := by
  have hkr := kR_eq hm
  have hk8 := (kR_le hm).2
  have hg := hm.give
  have hrg := hm.rings
  have HLM := Lib.hid hl
  have HK := Lib.hid hk
  have HI : Hid (LtI w m l (mixA l (nextL m.give wl l) 0) ((((w.alloc (.cells #[.int .i64 m.rings, .int .i64 m.give, .int .i64 m.plo, .int .i64 m.phi, .int .i64 m.wlo, .int .i64 m.whi, .int .i64 m.st, .int .i64 m.shrink, .int .i64 m.skin, .int .i64 m.fill, .int .i64 m.gap, .int .i64 m.deep] 88)).alloc (.cells #[.int .i64 (la l 0), .int .i64 (la l 1), .int .i64 (la l 2), .int .i64 (la l 3), .int .i64 (la l 4), .int .i64 (la l 5), .int .i64 (la l 6), .int .i64 (la l 7)] 90)).alloc (.cells #[.int .i64 ((fun (_ : Nat) => (0 : Int)) 0), .int .i64 ((fun (_ : Nat) => (0 : Int)) 1), .int .i64 ((fun (_ : Nat) => (0 : Int)) 2), .int .i64 ((fun (_ : Nat) => (0 : Int)) 3), .int .i64 ((fun (_ : Nat) => (0 : Int)) 4), .int .i64 ((fun (_ : Nat) => (0 : Int)) 5), .int .i64 ((fun (_ : Nat) => (0 : Int)) 6), .int .i64 ((fun (_ : Nat) => (0 : Int)) 7)] 90)).alloc (.cells #[.int .i64 (la l 0), .int .i64 (la l 1), .int .i64 (la l 2), .int .i64 (la l 3), .int .i64 (la l 4), .int .i64 (la l 5), .int .i64 (la l 6), .int .i64 (la l 7)] 90))) :=
    ⟨⟨(((Blk.new w _ _).alloc _).alloc _).alloc _, ((((Below.refl _ w).alloc (Nat.le_refl _) _).alloc (by simp) _).alloc (by simp; omega) _).alloc (by simp; omega) _⟩, ⟨((Blk.new1 w _ _ _).alloc _).alloc _⟩, ⟨(Blk.new2 w _ _ _ _).alloc _⟩, ⟨Blk.new3 w _ _ _ _ _⟩⟩
  clear hl hk
  go_enter Try.func54, Try.ntmps54
  go_wp2_with fail
  go_loopw [8, 17] (fun b i W => ∃ k : Nat, k ≤ kR m ∧ i = .int .i64 k ∧ b = .int .i64 (if k = 0 then wl else la l (k - 1)) ∧ Hid (LtI w m l (mixA l (nextL m.give wl l) k) W)) (fun _ i _ => kR m - (intOf i).toNat)
  case atStart => exact ⟨0, Nat.zero_le _, rfl, rfl, HI⟩
  case round =>
    obtain ⟨k, hkl, rfl, rfl, HI⟩ := hrel
    obtain ⟨c0, c1, -, -, -, -, -, -, -, -, -, -⟩ := HI.out.b0.cells
    by_cases hlt : k < kR m
    · have hll : k < l.length := by rw [HK.out]; exact hlt
      have hat := nextL_at m.give l wl k (la l k) (la_get hll)
      have hxb := HLM.out _ (la_mem hll)
      have hbf : 0 ≤ (if k = 0 then wl else la l (k - 1)) ∧ (if k = 0 then wl else la l (k - 1)) ≤ 2000 := by
        by_cases h : k = 0
        · rw [if_pos h]; exact hwl
        · rw [if_neg h]; exact HLM.out _ (la_mem (by omega))
      obtain ⟨bi, hbi, hmin, hbv, hbil⟩ : ∃ bi : Nat, bi < 8 ∧ min ((k : Int) + 1) (m.rings - 1) = (bi : Int) ∧ (l[k + 1]?).getD (la l k) = la l bi ∧ bi < l.length := by
        by_cases h : k + 1 < kR m
        · exact ⟨k + 1, by omega, by omega, by rw [la_get (by rw [HK.out]; exact h)]; rfl, by rw [HK.out]; exact h⟩
        · exact ⟨k, by omega, by omega, by rw [List.getElem?_eq_none (by rw [HK.out]; omega)]; rfl, hll⟩
      have hbh := HLM.out _ (la_mem hbil)
      have hfx : (if k = 0 then wl else (l[k - 1]?).getD 0) = (if k = 0 then wl else la l (k - 1)) := rfl
      rw [hbv, hfx] at hat
      have hlan : la (nextL m.give wl l) k = nx1 m.give (if k = 0 then wl else la l (k - 1)) (la l bi) (la l k) := by unfold la at *; rw [hat]; rfl
      have hnx : (if k + 1 = 0 then wl else la l (k + 1 - 1)) = la l k := by rw [if_neg (by omega)]; rfl
      generalize (if k = 0 then wl else la l (k - 1)) = bf at *
      have ck : wr.cell? ⟨w.heap.size + 1, k, none⟩ = some (.int .i64 (la l k)) := HI.out.b1.cell (by omega)
      have hAB : ((k + 1 < kR m) ∧ ¬ (m.rings - 1 < (k : Int) + 1) ∧ wr.cell? ⟨w.heap.size + 1, k + 1, none⟩ = some (.int .i64 (la l bi))) ∨ (m.rings - 1 < (k : Int) + 1 ∧ wr.cell? ⟨w.heap.size + 1, m.rings.toNat - 1, none⟩ = some (.int .i64 (la l bi))) := by
        by_cases h : k + 1 < kR m
        · have e : bi = k + 1 := by omega
          subst e
          exact .inl ⟨h, by omega, HI.out.b1.cell hbi⟩
        · have e : bi = m.rings.toNat - 1 := by omega
          have h2 := HI.out.b1.cell hbi
          rw [e] at h2 ⊢
          exact .inr ⟨by omega, h2⟩
      have c3 : wr.cell? ⟨w.heap.size + 1 + 1 + 1, k, none⟩ = some (.int .i64 (mixA l (nextL m.give wl l) k k)) := HI.out.b3.cell (by omega)
      have f3 := HI.out.b3.bk.frozen k
      have HLA := Lib.hid hlan
      have HNX := Lib.hid hnx
      clear hat hfx hbv hlan hnx
      generalize la l bi = bh at *
      generalize la l k = x at *
      obtain ⟨⟨p1, q1⟩, ⟨p2, q2⟩, ⟨p3, q3⟩, p4, q4⟩ := nx1_bounds hg hbf hbh hxb
      have hdis : m.give * (bf + bh) = m.give * bf + m.give * bh := Int.mul_add _ _ _
      have w0 : IntKind.i64.wrap (bf + bh) = bf + bh := IntWalk.i64_in _ (by omega)
      have w1 : IntKind.i64.wrap (m.give * (bf + bh)) = m.give * bf + m.give * bh := by rw [hdis]; exact IntWalk.i64_in _ (by omega)
      have w3 : IntKind.i64.wrap (2 * m.give) = 2 * m.give := IntWalk.i64_in _ (by omega)
      have w4 : IntKind.i64.wrap (1000 - 2 * m.give) = 1000 - 2 * m.give := IntWalk.i64_in _ (by omega)
      have w5 : IntKind.i64.wrap ((1000 - 2 * m.give) * x) = (1000 - 2 * m.give) * x := IntWalk.i64_in _ (by omega)
      have w6 : IntKind.i64.wrap (m.give * bf + m.give * bh + (1000 - 2 * m.give) * x) = m.give * bf + m.give * bh + (1000 - 2 * m.give) * x := IntWalk.i64_in _ (by omega)
      have w7 : (m.give * bf + m.give * bh + (1000 - 2 * m.give) * x).tdiv 1000 = nx1 m.give bf bh x := Int.tdiv_eq_ediv_of_nonneg p4
      have w8 : IntKind.i64.wrap (nx1 m.give bf bh x) = nx1 m.give bf bh x := IntWalk.i64_in _ (by unfold nx1; omega)
      have w9 : (m.give * bf + m.give * bh + (1000 - 2 * m.give) * x) / 1000 = nx1 m.give bf bh x := rfl
      have w10 : IntKind.i64.wrap (m.rings - 1) = m.rings - 1 := IntWalk.i64_in _ (by omega)
      have hkr2 : (k : Int) < m.rings := by omega
      have hk88 : (k : Int) < 8 := by omega
      have hbi8 : (bi : Int) < 8 := by omega
      have hkk8 : k < 8 := by omega
      clear hdis p1 q1 p2 q2 p3 q3 q4 hbf hbh hxb
      clear hmin
      rcases hAB with ⟨hA1, hA2, cb⟩ | ⟨hA2, cb⟩
      · skip
        go_wp2_with fail
        have HI2 : Hid (LtI w m l (mixA l (nextL m.give wl l) (k + 1)) (wr.setCell ⟨w.heap.size + 1 + 1 + 1, k, none⟩ (.int .i64 (nx1 m.give bf bh x)))) := (HI.out.put (k := k) hkk8 _).eq (fun j _ => mixA_put HLA.out j)
        go_roundw
        case rel => exact ⟨k + 1, Nat.succ_le_of_lt hlt, by go_num, by rw [HNX.out], HI2⟩
        case measure => exact meas_one hlt
      · skip
        go_wp2_with fail
        have HI2 : Hid (LtI w m l (mixA l (nextL m.give wl l) (k + 1)) (wr.setCell ⟨w.heap.size + 1 + 1 + 1, k, none⟩ (.int .i64 (nx1 m.give bf bh x)))) := (HI.out.put (k := k) hkk8 _).eq (fun j _ => mixA_put HLA.out j)
        go_roundw
        case rel => exact ⟨k + 1, Nat.succ_le_of_lt hlt, by go_num, by rw [HNX.out], HI2⟩
        case measure => exact meas_one hlt
    · obtain rfl : k = kR m := by omega
      have HE : Hid (LtI w m l (la (nextL m.give wl l)) wr) := HI.out.eq (fun j _ => by rw [← HK.out]; exact mixA_end (nextL_length _ _ _) j)
      obtain ⟨d0, d1, d2, d3, d4, d5, d6, d7⟩ := HE.out.b3.cells
      obtain ⟨e0, e1, e2, e3, e4, e5, e6, e7⟩ := HE.out.b2.cells
      obtain ⟨f0, f1, f2, f3, f4, f5, f6, f7⟩ := HE.out.b2.frozen
      have hn : ¬ ((kR m : Int) < m.rings) := by omega
      go_wp2_with fail
      refine bodyPost_ret (v := .agg #[.int .i64 (la (nextL m.give wl l) 0), .int .i64 (la (nextL m.give wl l) 1), .int .i64 (la (nextL m.give wl l) 2), .int .i64 (la (nextL m.give wl l) 3), .int .i64 (la (nextL m.give wl l) 4), .int .i64 (la (nextL m.give wl l) 5), .int .i64 (la (nextL m.give wl l) 6), .int .i64 (la (nextL m.give wl l) 7)]) (by simp [results, Try.results54, go_sem, *]) rfl ⟨rfl, ?_⟩
      exact below_set (below_set (below_set (below_set (below_set (below_set (below_set (below_set HE.out.b0.b (by omega)) (by omega)) (by omega)) (by omega)) (by omega)) (by omega)) (by omega)) (by omega)
end Go.Proofs.Ytljbjcnfkbmjkaa

namespace Go.Proofs.Ytljbjcnfkbmjkaa
open Go.RowKit Go.Shelf

theorem w8_key : Try.prog.keyTypeAt 9 90 = true := by kernel_rfl
theorem w8_und : Try.prog.underlying 90 = some (.array 8 3) := by kernel_rfl
theorem w8_c : Try.prog.cellsOf 90 = 8 := by kernel_rfl
theorem int_c : Try.prog.cellsOf 3 = 1 := by kernel_rfl
theorem key_int (x : Int) (h : 0 ≤ x ∧ x ≤ 2000) : Try.prog.keyLits 8 3 [.int .i64 x] = some [.int .i64 x] := by
  have w := (WalkArith.wf_i64 (n := x) (by omega) : (Lit.int .i64 x).wf = true)
  unfold Program.keyLits
  rw [Try.underlying3]
  exact if_pos ⟨rfl, w⟩
theorem w8_lits (a : Nat → Int) (h : ∀ j, j < 8 → 0 ≤ a j ∧ a j ≤ 2000) : Try.prog.keyLits 9 90 [.int .i64 (a 0), .int .i64 (a 1), .int .i64 (a 2), .int .i64 (a 3), .int .i64 (a 4), .int .i64 (a 5), .int .i64 (a 6), .int .i64 (a 7)] = some [.int .i64 (a 0), .int .i64 (a 1), .int .i64 (a 2), .int .i64 (a 3), .int .i64 (a 4), .int .i64 (a 5), .int .i64 (a 6), .int .i64 (a 7)] := by
  have k0 := key_int _ (h 0 (by omega))
  have k1 := key_int _ (h 1 (by omega))
  have k2 := key_int _ (h 2 (by omega))
  have k3 := key_int _ (h 3 (by omega))
  have k4 := key_int _ (h 4 (by omega))
  have k5 := key_int _ (h 5 (by omega))
  have k6 := key_int _ (h 6 (by omega))
  have k7 := key_int _ (h 7 (by omega))
  clear h
  generalize a 0 = x0 at *
  generalize a 1 = x1 at *
  generalize a 2 = x2 at *
  generalize a 3 = x3 at *
  generalize a 4 = x4 at *
  generalize a 5 = x5 at *
  generalize a 6 = x6 at *
  generalize a 7 = x7 at *
  unfold Program.keyLits
  rw [w8_und]
  dsimp only
  rw [if_pos (by rw [w8_c]; rfl), int_c, show List.range 8 = [0, 1, 2, 3, 4, 5, 6, 7] from rfl]
  simp only [List.mapM_cons, List.mapM_nil, Nat.mul_one, List.drop_zero, List.drop_succ_cons, List.take_succ_cons, List.take_zero, k0, k1, k2, k3, k4, k5, k6, k7]
  rfl
theorem w8_formed (a : Nat → Int) : Value.formed Try.prog 90 (.agg #[.int .i64 (a 0), .int .i64 (a 1), .int .i64 (a 2), .int .i64 (a 3), .int .i64 (a 4), .int .i64 (a 5), .int .i64 (a 6), .int .i64 (a 7)]) = true := by kernel_rfl
theorem w8_guard : Try.prog.eqGuardType Try.prog.depth 90 = false := by kernel_rfl
theorem w8_eql (a b : Nat → Int) (ha : ∀ j, j < 8 → 0 ≤ a j ∧ a j ≤ 2000) (hb : ∀ j, j < 8 → 0 ≤ b j ∧ b j ≤ 2000) : ∃ r : Bool, (∀ w : World, (binOp .eql 90 (.agg #[.int .i64 (a 0), .int .i64 (a 1), .int .i64 (a 2), .int .i64 (a 3), .int .i64 (a 4), .int .i64 (a 5), .int .i64 (a 6), .int .i64 (a 7)]) (.agg #[.int .i64 (b 0), .int .i64 (b 1), .int .i64 (b 2), .int .i64 (b 3), .int .i64 (b 4), .int .i64 (b 5), .int .i64 (b 6), .int .i64 (b 7)])).run Try.prog w = .ok (.bool r) w) ∧ (r = true ↔ ∀ j, j < 8 → a j = b j) := by
  have h := fun w => run_equalIn_deep 9991 9 90 w8_key w 9 9 _ _ _ _ (w8_formed a) (w8_formed b) (w8_lits a ha) (w8_lits b hb)
  have key : ∀ w, ∃ r : Bool, (binOp .eql 90 (.agg #[.int .i64 (a 0), .int .i64 (a 1), .int .i64 (a 2), .int .i64 (a 3), .int .i64 (a 4), .int .i64 (a 5), .int .i64 (a 6), .int .i64 (a 7)]) (.agg #[.int .i64 (b 0), .int .i64 (b 1), .int .i64 (b 2), .int .i64 (b 3), .int .i64 (b 4), .int .i64 (b 5), .int .i64 (b 6), .int .i64 (b 7)])).run Try.prog w = .ok (.bool r) w ∧ (r = true ↔ ∀ j, j < 8 → a j = b j) := by
    intro w
    obtain ⟨r, hr, hiff⟩ := h w
    refine ⟨r, ?_, ?_⟩
    · rw [run_eql_struct]
      rw [show (10000 : Nat) = 9991 + 9 from rfl, hr]
      simp only [Result.andThen_ok]
    · rw [hiff]
      simp only [List.cons.injEq, Lit.int.injEq, true_and, and_true]
      constructor
      · rintro ⟨h0, h1, h2, h3, h4, h5, h6, h7⟩ j hj
        match j, hj with
        | 0, _ => exact h0
        | 1, _ => exact h1
        | 2, _ => exact h2
        | 3, _ => exact h3
        | 4, _ => exact h4
        | 5, _ => exact h5
        | 6, _ => exact h6
        | 7, _ => exact h7
      · intro h
        exact ⟨h 0 (by omega), h 1 (by omega), h 2 (by omega), h 3 (by omega), h 4 (by omega), h 5 (by omega), h 6 (by omega), h 7 (by omega)⟩
  by_cases hP : ∀ j, j < 8 → a j = b j
  · refine ⟨true, fun w => ?_, ⟨fun _ => hP, fun _ => rfl⟩⟩
    obtain ⟨r, hr, hiff⟩ := key w
    rw [hr, hiff.2 hP]
  · refine ⟨false, fun w => ?_, by simp [hP]⟩
    obtain ⟨r, hr, hiff⟩ := key w
    rw [hr, show r = false by cases r; rfl; exact absurd (hiff.1 rfl) hP]
end Go.Proofs.Ytljbjcnfkbmjkaa

namespace Go.Proofs.Ytljbjcnfkbmjkaa
open Go.RowKit Go.Shelf
attribute [local go_sem] Oper.semAt_some

/-- The warmth in a minute of a steady truth: poured at p, the wall at q. -/
def stW (m : Md) (p q : Int) (n : Nat) : List Int := afterL m.give (List.replicate (kR m) p) (List.replicate n q)
theorem stW_zero (m : Md) (p q : Int) : stW m p q 0 = List.replicate (kR m) p := rfl
theorem stW_succ (m : Md) (p q : Int) (n : Nat) : stW m p q (n + 1) = nextL m.give q (stW m p q n) := by
  unfold stW
  rw [List.replicate_succ', afterL_append]; rfl
theorem stW_length (m : Md) (p q : Int) (n : Nat) : (stW m p q n).length = kR m := by rw [stW, afterL_length, List.length_replicate]
theorem stW_in {m : Md} (hm : MdIn m) {p q : Int} (hp : 0 ≤ p ∧ p ≤ 2000) (hq : 0 ≤ q ∧ q ≤ 2000) : ∀ n, ∀ x ∈ stW m p q n, 0 ≤ x ∧ x ≤ 2000
  | 0, x, hx => by rw [stW_zero, List.mem_replicate] at hx; omega
  | n + 1, x, hx => by rw [stW_succ] at hx; exact nextL_in hm.give hq (stW_in hm hp hq n) x hx
theorem la_in {l : List Int} (h : ∀ x ∈ l, 0 ≤ x ∧ x ≤ 2000) (j : Nat) : 0 ≤ la l j ∧ la l j ≤ 2000 := by
  unfold la
  cases hj : l[j]? with
  | none => simp
  | some x => exact h x (List.mem_of_getElem? hj)
theorem la_inj {l l' : List Int} (hl : l.length = l'.length) (h8 : l.length ≤ 8) (h : ∀ j, j < 8 → la l j = la l' j) : l = l' := by
  apply List.ext_getElem? 
  intro j
  by_cases hj : j < l.length
  · rw [la_get hj, la_get (by omega), h j (by omega)]
  · rw [List.getElem?_eq_none (by omega), List.getElem?_eq_none (by omega)]
abbrev encMin (m : Md) (p q : Int) (x : Fin 601) : Array Value := #[.int .i64 (x.1 : Int), .agg #[.int .i64 (la (stW m p q x.1) 0), .int .i64 (la (stW m p q x.1) 1), .int .i64 (la (stW m p q x.1) 2), .int .i64 (la (stW m p q x.1) 3), .int .i64 (la (stW m p q x.1) 4), .int .i64 (la (stW m p q x.1) 5), .int .i64 (la (stW m p q x.1) 6), .int .i64 (la (stW m p q x.1) 7)]]
/-- The first k minutes. -/
def rng : Nat → List (Fin 601)
  | 0 => []
  | k + 1 => rng k ++ (if h : k < 601 then [⟨k, h⟩] else [])
theorem rng_succ {k : Nat} (h : k < 601) : rng (k + 1) = rng k ++ [⟨k, h⟩] := by rw [rng, dif_pos h]
theorem rng_len : ∀ k, (rng k).length ≤ k
  | 0 => Nat.le_refl _
  | k + 1 => by
    have := rng_len k
    rw [rng, List.length_append]
    split <;> simp <;> omega
/-- All minutes, until the warmth stays. -/
def AllMin (m : Md) (p q : Int) (xs : List (Fin 601)) : Prop := ∃ k, k ≤ 600 ∧ xs = rng (k + 1) ∧ (k = 600 ∨ stW m p q (k + 1) = stW m p q k)
def SomeMin (xs : List (Fin 601)) : Prop := ∃ k, k ≤ 600 ∧ xs = rng (k + 1)
/-- What the iterator asks of a round: all blocks stay but L. -/
def KeepL (n₁ L : Nat) (W W' : World) : Prop := Below n₁ W W' ∧ ∀ g T cs, g ≠ L → Blk W g T cs → Blk W' g T cs
theorem keepL_t {n₁ L : Nat} {A B C : World} (h : KeepL n₁ L A B) (k : KeepL n₁ L B C) : KeepL n₁ L A C := ⟨h.1.trans k.1, fun g T cs hg hc => k.2 g T cs hg (h.2 g T cs hg hc)⟩
theorem keepL_b {n₁ L : Nat} {w : World} (hn : n₁ ≤ w.heap.size) (W : World) (l : Nat) (o o' : Obj) (hl : w.heap.size ≤ l) (h : W.heap[l]? = some o) (hc : o.isCells = false) (hw : o.isWalk = false) : KeepL n₁ L W (W.putObj l o') := by
  refine ⟨belowK_b hn W l o o' hl h hc hw, fun g T cs _ hb => ?_⟩
  have hg := grownBy_putObj' W l o'
  refine (hg.block g hb.lt ?_).trans hb
  intro e
  have e2 : g = l := by simpa using e
  subst e2
  unfold Blk at hb
  rw [hb] at h
  cases h
  simp [Obj.isCells] at hc
theorem grown_of_below {a w : World} (h : Below a.heap.size a w) (row : Option Nat) : a.grownBy w row := ⟨h.os, h.tape, h.output, h.size, fun i hi _ => h.block i hi⟩
theorem abides_below {β : Type} {B : Nat} {J : β → World → Prop} (hJ : AbidesFrom B J) {s : β} {W W' : World} (h : J s W) (hb : Below W.heap.size W W') : J s W' := hJ s W W' none h (grown_of_below hb none) (fun r e => by cases e)
theorem grown_set (W : World) (b i : Nat) (v : Value) : W.grownBy (W.setCell ⟨b, i, none⟩ v) (some b) :=
  ⟨rfl, rfl, rfl, by simp, fun k _ hk => by
    have hne : k ≠ b := fun e => hk (by rw [e])
    exact Below.heap_setCell W ⟨b, i, none⟩ v k (fun e => hne e)⟩
end Go.Proofs.Ytljbjcnfkbmjkaa

namespace Go.Proofs.Ytljbjcnfkbmjkaa
open Go.RowKit Go.Shelf

/-- J abides whatever block at or beyond B is turned. -/
def StaysC {β : Type} (B : Nat) (J : β → World → Prop) : Prop := ∀ s W W' row, J s W → W.grownBy W' row → (∀ r, row = some r → B ≤ r) → J s W'
theorem StaysC.below {β : Type} {B : Nat} {J : β → World → Prop} (h : StaysC B J) {s : β} {W W' : World} (hs : J s W) (hb : Below W.heap.size W W') : J s W' := h s W W' none hs (grown_of_below hb none) (fun r e => by cases e)
theorem StaysC.set_ {β : Type} {B : Nat} {J : β → World → Prop} (h : StaysC B J) {s : β} {W : World} (hs : J s W) {g : Nat} (hg : B ≤ g) (k : Nat) (v : Value) : J s (W.setCell ⟨g, k, none⟩ v) :=
  h s W _ (some g) hs (grown_set W g k v) (fun r e => by cases e; exact hg)
/-- The contract of such an iterator. -/
def SeqC {α : Type} (F : Fence) (n : Nat) (P : Program) (g : Nat) (lb : Array Value) (encs : α → Array Value) (Kp : World → World → Prop) (S Sp : List α → Prop) (N : Nat) (w : World) : Prop :=
  ∀ (l : Nat) (J Jx : List α → World → Prop) (W : World), Below w.heap.size w W → StaysC W.heap.size J → StaysC W.heap.size Jx →
    (∀ pre x W1, J pre W1 → pre.length < N → YieldAt F (n - 1) P l (encs x) W1 fun e W' => (e = .returned (.bool true) ∧ J (pre ++ [x]) W' ∧ Kp W1 W') ∨ (e = .returned (.bool false) ∧ Jx (pre ++ [x]) W')) →
    J [] W → CallsIn F n P g (#[.func (.yield l) #[] #[]] ++ lb) W fun e W' => (∃ v, e = .returned v) ∧ ((∃ xs, S xs ∧ J xs W') ∨ ∃ pre, Sp pre ∧ Jx pre W')
/-- The two blocks of a loop's own, from k on. -/
structure LpAt (k : Nat) (r : Loop) (W : World) : Prop where
  dfr : W.heap[k]? = some (.deferred (some []))
  lp : W.heap[k + 1]? = some (.loop r)
theorem LpAt.lt {k : Nat} {r : Loop} {W : World} (h : LpAt k r W) : k + 1 < W.heap.size := (Array.getElem?_eq_some_iff.1 h.lp).1
theorem LpAt.keep {k : Nat} {r : Loop} {W W' : World} {row : Option Nat} (h : LpAt k r W) (hg : W.grownBy W' row) (hr : ∀ j, row = some j → k + 1 < j) : LpAt k r W' :=
  ⟨(hg.block k (by have := h.lt; omega) (fun e => by have := hr _ e.symm; omega)).trans h.dfr, (hg.block (k + 1) h.lt (fun e => by have := hr _ e.symm; omega)).trans h.lp⟩
theorem LpAt.turn {k : Nat} {r : Loop} {W : World} (h : LpAt k r W) (r' : Loop) : LpAt k r' (W.putObj (k + 1) (.loop r')) :=
  ⟨(World.putObj_heap_other (by omega)).trans h.dfr, World.putObj_heap_same h.lt⟩
theorem LpAt.from_ {k : Nat} {r : Loop} {W W' : World} (h : LpAt k r W) (hk : KeepsFrom k W W') : LpAt k r W' := ⟨hk.same _ _ (Nat.le_refl _) h.dfr rfl, hk.same _ _ (by omega) h.lp rfl⟩
/-- A loop's record was turned: nothing else. -/
structure Turned (B l : Nat) (W W' : World) : Prop where
  grown : W.grownBy W' (some l)
  low : B ≤ l
  size : W'.heap.size = W.heap.size
  cells : ∀ {g : Nat} {T : TypeId} {cs : Array Value}, Blk W g T cs → Blk W' g T cs
theorem LpAt.turned {k : Nat} {r : Loop} {W : World} (h : LpAt k r W) (r' : Loop) : Turned k (k + 1) W (W.putObj (k + 1) (.loop r')) :=
  ⟨grownBy_putObj' W _ _, by omega, by simp, fun {g T cs} hb => by
    refine (World.putObj_heap_other (fun e => ?_)).trans hb
    subst e
    have h1 := h.lp
    unfold Blk at hb
    rw [hb] at h1; cases h1⟩

variable {F : Fence} {n : Nat} {P : Program}
theorem range_cells {α : Type} {g : Operand} {ps : Array Tmp} {assign body : Code} {Q : Exit → Act → World → Prop} {a : Act} {w : World}
    (hro : F.round = none) (h1 : 1 ≤ n) {gf : Nat} {lb : Array Value} (hg : a.eval g = .func (.func gf) #[] lb) (hFg : F.fn gf) (eg : ∀ args w, (callFunc gf args).run P w = .ok (.enter gf args) w)
    {encs : α → Array Value} {Kp : World → World → Prop} {S Sp : List α → Prop} {N : Nat} {w0 : World} (hseq : SeqC F (n - 1) P gf lb encs Kp S Sp N w0) (hb0 : Below w0.heap.size w0 w) (hps : ∀ x, (encs x).size = ps.size)
    (hKt : ∀ {A B C : World}, Kp A B → Kp B C → Kp A C) (hKb : ∀ (W : World) (l : Nat) (o o' : Obj), w.heap.size ≤ l → W.heap[l]? = some o → o.isCells = false → o.isWalk = false → Kp W (W.putObj l o'))
    (I : List α → World → Prop) (Ix : Code → List α → World → Prop) (hI : StaysC w.heap.size I) (hIx : ∀ c, StaysC w.heap.size (Ix c)) (h0 : I [] w)
    (hround : ∀ (l : Nat) (pre : List α) (x : α) (W : World), I pre W → pre.length < N → w.heap.size ≤ W.heap.size →
      assign.wpIn (F.inRound l) (n - 1 - 1) P (Exit.then (fun a₁ W1 => KeepsFrom w.heap.size W W1 ∧ Kp W W1 ∧ ∀ W2, Turned w.heap.size l W1 W2 → body.wpIn (F.inRound l) (n - 1 - 1) P (ownPostG w.heap.size Kp I Ix (pre ++ [x]) W2) a₁ W2) (fun _ _ _ => False)) { tmps := (ps.zip (encs x)).foldl (fun t (p, v) => t.setIfInBounds p v) a.tmps, defers := [] } W)
    (hdone : ∀ (D : Nat) (xs : List α) (W : World), w.heap.size ≤ D → S xs → I xs W → W.heap[D]? = some (.deferred (some [])) → Q .normal { a with defers := { target := .collected D, args := #[] } :: a.defers } W)
    (hstop : ∀ (D : Nat) (c : Code) (pre : List α) (W : World), w.heap.size ≤ D → Sp pre → Ix c pre W → W.heap[D]? = some (.deferred (some [])) → c.wpIn F n P Q { a with defers := { target := .collected D, args := #[] } :: a.defers } W) :
    (Code.rangeFunc g ps assign body).wpIn F n P Q a w := by
  refine wpIn_rangeFunc fun fn hfn => ?_
  rw [hro]
  let R (s : LoopState) (j : Option Code) : Loop := { state := s, pending := j, fn, tmps := a.tmps, params := ps, assign, body, defers := w.heap.size }
  let Wl : World := (w.alloc (.deferred (some []))).alloc (.loop (R .ready none))
  have hbl : Below w.heap.size w Wl := ((Below.refl _ w).alloc (Nat.le_refl _) _).alloc (by simp) _
  have hsl : Wl.heap.size = w.heap.size + 2 := by simp [Wl]
  have hA : LpAt w.heap.size (R .ready none) Wl := ⟨(Below.heap_alloc _ _ _ (by simp)).trans (World.alloc_heap_new w _), by
    have h := World.alloc_heap_new (w.alloc (.deferred (some []))) (.loop (R .ready none))
    rwa [World.size_alloc] at h⟩
  refine ⟨w.heap.size + 1, _, Wl, { target := .fn (.func gf) lb, args := #[.func (.yield (w.heap.size + 1)) #[] #[]] }, Wl, gf, #[.func (.yield (w.heap.size + 1)) #[] #[]] ++ lb, Wl, run_enterLoop_outer _ _ _ _ _, ?_, ?_, ?_, fun _ => h1, ?_⟩
  · simp only [resolve, hg]; simp [go_sem]
  · intro f' hf'; simp [Target.leads] at hf'; subst hf'; exact hFg
  · simp [invoke, go_sem, eg]
  refine (hseq (w.heap.size + 1) (fun pre W => I pre W ∧ LpAt w.heap.size (R .ready none) W) (fun pre W => ∃ c, Ix c pre W ∧ LpAt w.heap.size (R .done (some c)) W) Wl (hb0.trans (hbl.mono hb0.size)) ?_ ?_ ?_ ⟨hI.below h0 hbl, hA⟩).mono ?_
  · rintro s A B row ⟨hs, hl⟩ hgr hr
    exact ⟨hI s A B row hs hgr (fun r e => by have := hr r e; omega), hl.keep hgr (fun r e => by have := hr r e; omega)⟩
  · rintro s A B row ⟨c, hs, hl⟩ hgr hr
    exact ⟨c, hIx c s A B row hs hgr (fun r e => by have := hr r e; omega), hl.keep hgr (fun r e => by have := hr r e; omega)⟩
  · rintro pre x W ⟨hi, hl⟩ hlen
    refine ⟨fn, _, assign, body, run_yield (r := R .ready none) hl.lp (hps x), roundIn_of_wpIn hfn ?_⟩
    refine wpIn_mono (hround (w.heap.size + 1) pre x W hi hlen (by have := hl.lt; omega)) ?_
    intro e a1 W1 he
    cases e with
    | normal =>
      obtain ⟨hk1, hp1, hbody⟩ := he
      have hl1 := hl.from_ hk1
      refine ⟨_, run_beginRound hl1.lp rfl, ?_⟩
      have hl2 := hl1.turn { R .ready none with state := .busy }
      have hp2 := hKt hp1 (hKb W1 (w.heap.size + 1) _ (.loop { R .ready none with state := .busy }) (by omega) hl1.lp rfl rfl)
      refine wpIn_mono (hbody _ (hl1.turned _)) ?_
      have hend : ∀ (j : Option Code) (W3 : World), KeepsFrom w.heap.size (W1.putObj (w.heap.size + 1) (.loop { R .ready none with state := .busy })) W3 → LpAt w.heap.size { R .ready none with state := .busy } W3 := fun j W3 hk => hl2.from_ hk
      intro e a3 W3 hpost
      cases e with
      | normal =>
        obtain ⟨hk3, hp3, hi3⟩ := hpost
        have hl3 := hend none W3 hk3
        exact ⟨_, _, run_endRound none hl3.lp, .inl ⟨rfl, ⟨hI _ _ _ _ hi3 (grownBy_putObj' W3 _ _) (fun r e => by cases e; omega), hl3.turn _⟩, hKt (hKt hp2 hp3) (hKb _ _ _ _ (by omega) hl3.lp rfl rfl)⟩⟩
      | ret =>
        obtain ⟨hk3, hi3⟩ := hpost
        have hl3 := hend none W3 hk3
        exact ⟨_, _, run_endRound (some .ret) hl3.lp, .inr ⟨rfl, .ret, hIx _ _ _ _ _ hi3 (grownBy_putObj' W3 _ _) (fun r e => by cases e; omega), hl3.turn _⟩⟩
      | exit id =>
        obtain ⟨hk3, hi3⟩ := hpost
        have hl3 := hend none W3 hk3
        exact ⟨_, _, run_endRound (some (.exit id)) hl3.lp, .inr ⟨rfl, .exit id, hIx _ _ _ _ _ hi3 (grownBy_putObj' W3 _ _) (fun r e => by cases e; omega), hl3.turn _⟩⟩
      | goto t =>
        obtain ⟨hk3, hi3⟩ := hpost
        have hl3 := hend none W3 hk3
        exact ⟨_, _, run_endRound (some (.goto t)) hl3.lp, .inr ⟨rfl, .goto t, hIx _ _ _ _ _ hi3 (grownBy_putObj' W3 _ _) (fun r e => by cases e; omega), hl3.turn _⟩⟩
      | panic ch => exact hpost.elim
      | outgrown => exact hpost.elim
    | _ => exact he.elim
  · rintro e W2 ⟨⟨v, rfl⟩, ⟨xs, hS, hi, hl⟩ | ⟨pre, hSp, c, hi, hl⟩⟩
    · exact ⟨none, _, run_endLoop hl.lp (by simp [R]), hdone _ xs _ (Nat.le_refl _) hS (hI _ _ _ _ hi (grownBy_putObj' W2 _ _) (fun r e => by cases e; omega)) (hl.turn _).dfr⟩
    · exact ⟨some c, _, run_endLoop hl.lp (by simp [R]), hstop _ c pre _ (Nat.le_refl _) hSp (hIx c _ _ _ _ hi (grownBy_putObj' W2 _ _) (fun r e => by cases e; omega)) (hl.turn _).dfr⟩
end Go.Proofs.Ytljbjcnfkbmjkaa
