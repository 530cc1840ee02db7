/- wax.pairs: contract of its iterator. -/
import Derived.Test.YthihpggjglghoaaGreatDoorMixed
import Derived.RangeFuncNested
import Derived.RangeFuncBound
import Derived.RangeFuncCalls
import Derived.RangeFuncLeaves
import Derived.RangeFuncWrites
import Derived.Shelf.RegionOpen
import Derived.OwnWalkIn
import Derived.TacticsInMore
import Derived.LoopNIn
import Derived.LoopIn
namespace Go.Proofs.YthihpggjglghoaaGreatDoor
open Go.RowKit Go.Shelf
attribute [local go_sem] Oper.semAt_some

/-- A mixture of a and b, or a alone, explains the readings. -/
def pairOk (t : Tab) (l : List Int) (a b : Nat) : Bool := !decide ((partsV t l a b).2 < (partsV t l a b).1)
/-- The pairs of a with b below m. -/
def innerF (nk : Nat) (ok : Nat → Nat → Bool) (a : Fin nk) : Nat → List (Fin nk × Fin nk)
  | 0 => []
  | m + 1 => innerF nk ok a m ++ (if h : m < nk then (if a.1 ≤ m ∧ ok a.1 m = true then [(a, ⟨m, h⟩)] else []) else [])
/-- .. of all a below k. -/
def outerF (nk : Nat) (ok : Nat → Nat → Bool) : Nat → List (Fin nk × Fin nk)
  | 0 => []
  | k + 1 => outerF nk ok k ++ (if h : k < nk then innerF nk ok ⟨k, h⟩ nk else [])
theorem innerF_low (nk : Nat) (ok : Nat → Nat → Bool) (a : Fin nk) : ∀ m, m ≤ a.1 → innerF nk ok a m = []
  | 0, _ => rfl
  | m + 1, h => by
    rw [innerF, innerF_low nk ok a m (by omega), dif_pos (by omega), if_neg (by omega)]; rfl
theorem innerF_len (nk : Nat) (ok : Nat → Nat → Bool) (a : Fin nk) : ∀ m, (innerF nk ok a m).length ≤ m
  | 0 => Nat.le_refl _
  | m + 1 => by
    have := innerF_len nk ok a m
    rw [innerF, List.length_append]
    split
    · split <;> simp <;> omega
    · simp; omega
theorem outerF_len (nk : Nat) (ok : Nat → Nat → Bool) : ∀ k, (outerF nk ok k).length ≤ k * nk
  | 0 => by simp [outerF]
  | k + 1 => by
    have := outerF_len nk ok k
    rw [outerF, List.length_append, Nat.succ_mul]
    split
    · have := innerF_len nk ok ⟨k, by assumption⟩ nk; omega
    · simp; omega

abbrev encPair (nk : Nat) (x : Fin nk × Fin nk) : Array Value := #[.int .i64 x.1.1, .int .i64 x.2.1]

theorem grown_of_below {a w : World} (h : Below a.heap.size a w) (row : Option Nat) : a.grownBy w row := ⟨h.os, h.tape, h.output, h.size, fun i hi _ => h.block i hi⟩
theorem abides_below {β : Type} {B : Nat} {J : β → World → Prop} (hJ : AbidesFrom B J) {s : β} {W W' : World} (h : J s W) (hb : Below W.heap.size W W') : J s W' := hJ s W W' none h (grown_of_below hb none) (fun r e => by cases e)
theorem innerF_no {nk : Nat} {ok : Nat → Nat → Bool} {a : Fin nk} {m : Nat} (h : m < nk) (ho : ok a.1 m = false) : innerF nk ok a (m + 1) = innerF nk ok a m := by
  rw [innerF, dif_pos h, if_neg (by simp [ho]), List.append_nil]
theorem innerF_yes {nk : Nat} {ok : Nat → Nat → Bool} {a : Fin nk} {m : Nat} (h : m < nk) (ha : a.1 ≤ m) (ho : ok a.1 m = true) : innerF nk ok a (m + 1) = innerF nk ok a m ++ [(a, ⟨m, h⟩)] := by
  rw [innerF, dif_pos h, if_pos ⟨ha, ho⟩]
theorem outerF_succ {nk : Nat} {ok : Nat → Nat → Bool} {k : Nat} (h : k < nk) : outerF nk ok (k + 1) = outerF nk ok k ++ innerF nk ok ⟨k, h⟩ nk := by
  rw [outerF, dif_pos h]

/-- What the iterator asks of a round: old memory, and its own block. -/
def KeepB (n₁ Bs : Nat) (W W' : World) : Prop := Below n₁ W W' ∧ ∀ cs, Blk W Bs 57 cs → Blk W' Bs 57 cs
theorem keepB_t {n₁ Bs : Nat} {A B C : World} (h : KeepB n₁ Bs A B) (k : KeepB n₁ Bs B C) : KeepB n₁ Bs A C := ⟨h.1.trans k.1, fun cs hc => k.2 cs (h.2 cs hc)⟩
theorem keepB_b {n₁ Bs : Nat} {w : World} (hn : n₁ ≤ w.heap.size) (W : World) (l : Nat) (o o' : Obj) (hl : w.heap.size ≤ l) (h : W.heap[l]? = some o) (hc : o.isCells = false) (hw : o.isWalk = false) : KeepB n₁ Bs W (W.putObj l o') := by
  refine ⟨belowK_b hn W l o o' hl h hc hw, fun cs hb => ?_⟩
  have hg := grownBy_putObj' W l o'
  refine (hg.block Bs hb.lt ?_).trans hb
  intro e
  have e2 : Bs = l := by simpa using e
  subst e2
  unfold Blk at hb
  rw [hb] at h
  cases h
  simp [Obj.isCells] at hc

set_option maxRecDepth 100000 in
set_option maxHeartbeats 2000000 in
theorem pairs_stops {wB w0 : World} {pa ka ra : Option Addr} {pc kc rc : Nat} {t : Tab} {l : List Int} (h : SamIn wB pa ka ra pc kc t l) (Bs : Nat)
    (hbox : Blk w0 Bs 57 #[.slice pa t.ps.length pc, .slice ka t.ks.length kc, .int .i64 t.pu, .slice ra l.length rc]) (hw0 : Below wB.heap.size wB w0) (n : Nat) (hn : 3 ≤ n) :
    SeqStopsK Fence.wide n Tryz.prog 91 #[.pointer (some ⟨Bs, 0, none⟩)] (encPair t.ks.length) (KeepB wB.heap.size Bs) (fun xs => xs = outerF t.ks.length (pairOk t l) t.ks.length) (fun _ => True) (t.ks.length * t.ks.length) w0 := fun lo J Jx W hW hJ hJx hY h0 => by
  have h1 := h.tab.tab.lp
  have h2 := h.tab.tab.lk
  have h3 := h.rds.len
  have HS := Lib.hid h
  have HX := Lib.hid (hbox.on hW)
  have HY := Lib.hid hY
  have hBW : Below wB.heap.size wB W := hw0.trans (hW.mono hw0.size)
  have b1 := ((hbox.on hW).four).2.1
  clear h hbox hY hW hw0
  refine callsIn_of_wp Tryz.func91 rfl trivial ?_ rfl
  simp only [Tryz.ntmps91, List.size_toArray, List.length_cons, List.length_nil, Nat.reduceAdd, Nat.reduceSub, Array.replicate_succ, Array.replicate_zero, List.push_toArray, List.append_toArray, List.nil_append, List.cons_append]
  gi_wp2_with fail
  gi_loopw [9] (fun i wr => ∃ k : Nat, k ≤ t.ks.length ∧ i = .int .i64 k ∧ Below wB.heap.size wB wr ∧ Hid (Blk wr Bs 57 #[.slice pa t.ps.length pc, .slice ka t.ks.length kc, .int .i64 t.pu, .slice ra l.length rc]) ∧ Hid (J (outerF t.ks.length (pairOk t l) k) wr)) (fun i _ => t.ks.length - (intOf i).toNat)
  case atStart => exact ⟨0, Nat.zero_le _, rfl, hBW, HX, h0⟩
  case round =>
    obtain ⟨k, hk, rfl, hbr, HXr, HJ⟩ := hrel
    have c1 := (HXr.out.four).2.1
    clear b1 HX
    by_cases hlt : k < t.ks.length
    · gi_wp2_with fail
      gi_loopw [4] (fun i wi => ∃ m : Nat, k ≤ m ∧ m ≤ t.ks.length ∧ i = .int .i64 m ∧ Below wB.heap.size wB wi ∧ Hid (Blk wi Bs 57 #[.slice pa t.ps.length pc, .slice ka t.ks.length kc, .int .i64 t.pu, .slice ra l.length rc]) ∧ Hid (J (outerF t.ks.length (pairOk t l) k ++ innerF t.ks.length (pairOk t l) ⟨k, hlt⟩ m) wi)) (fun i _ => t.ks.length - (intOf i).toNat)
      case atStart => exact ⟨k, Nat.le_refl _, by omega, rfl, hbr, HXr, by show J _ _; rw [innerF_low _ _ _ _ (Nat.le_refl _), List.append_nil]; exact HJ.out⟩
      case round =>
        obtain ⟨m, hkm, hm, rfl, hbi, HXi, HJi⟩ := hrel
        obtain ⟨d0, d1, d2, d3, _, _, _, _, _⟩ := HXi.out.four
        clear c1 HXr
        by_cases hlt2 : m < t.ks.length
        · have HP := Lib.hid (parts_any (rc := rc) (HS.out.on hbi) k m hlt hlt2)
          have hlen := outerF_len t.ks.length (pairOk t l) k
          have hlen2 := innerF_len t.ks.length (pairOk t l) ⟨k, hlt⟩ m
          have hlen3 : (outerF t.ks.length (pairOk t l) k ++ innerF t.ks.length (pairOk t l) ⟨k, hlt⟩ m).length < t.ks.length * t.ks.length := by
            have h5 : (k + 1) * t.ks.length ≤ t.ks.length * t.ks.length := Nat.mul_le_mul_right _ (by omega)
            rw [Nat.succ_mul] at h5
            rw [List.length_append]
            omega
          have HL3 := Lib.hid hlen3
          clear hlen hlen2 hlen3
          cases ho : pairOk t l k m with
          | false =>
            have hpe : decide ((partsV t l k m).2 < (partsV t l k m).1) = true := by simpa [pairOk] using ho
            have HO := Lib.hid ho
            clear ho
            generalize partsV t l k m = pv at *
            gi_wp2_with fail
            refine ⟨trivial, fun _ => by omega, ?_⟩
            refine (callsIn_wide.2 HP.out).mono ?_
            rintro e w1 ⟨rfl, hb1⟩
            gi_wp2_with fail
            refine ⟨trivial, fun _ => by omega, ?_⟩
            refine (callsIn_wide.2 (empty_any pv.1 pv.2 _)).mono ?_
            rintro e w2 ⟨rfl, hb2⟩
            rw [hpe]
            have hb12 := hb1.trans (hb2.mono hb1.size)
            have hJ2 := abides_below hJ HJi.out hb12
            have HJ2 := Lib.hid hJ2
            clear hJ2
            gi_wp2_with fail
            refine ⟨fun _ h => (by cases h), ?_⟩
            gi_wp2_with fail
            go_roundw
            case rel => exact ⟨m + 1, by omega, by omega, by go_num, hbi.trans (hb12.mono hbi.size), HXi.out.on hb12, by show J _ _; rw [innerF_no hlt2 HO.out]; exact HJ2.out⟩
            case measure => simp [intOf]; omega
          | true =>
            have hpe : decide ((partsV t l k m).2 < (partsV t l k m).1) = false := by simpa [pairOk] using ho
            have HO := Lib.hid ho
            clear ho
            generalize partsV t l k m = pv at *
            gi_wp2_with fail
            refine ⟨trivial, fun _ => by omega, ?_⟩
            refine (callsIn_wide.2 HP.out).mono ?_
            rintro e w1 ⟨rfl, hb1⟩
            gi_wp2_with fail
            refine ⟨trivial, fun _ => by omega, ?_⟩
            refine (callsIn_wide.2 (empty_any pv.1 pv.2 _)).mono ?_
            rintro e w2 ⟨rfl, hb2⟩
            rw [hpe]
            have hb12 := hb1.trans (hb2.mono hb1.size)
            obtain ⟨fn, tmps, assign, body, hy, hR⟩ := HY.out _ (⟨k, hlt⟩, ⟨m, hlt2⟩) w2 (abides_below hJ HJi.out hb12) HL3.out
            dsimp only [encPair] at hy
            have HRR := Lib.hid hR
            clear hR
            gi_wp2_with fail
            refine ⟨fun _ => by omega, ?_⟩
            refine HRR.out.mono ?_
            rintro e W3 (⟨rfl, hJ3, hk3⟩ | ⟨rfl, hJx3⟩)
            · have HJ3 := Lib.hid hJ3
              clear hJ3
              gi_wp2_with fail
              go_roundw
              case rel => exact ⟨m + 1, by omega, by omega, by go_num, (hbi.trans (hb12.mono hbi.size)).trans hk3.1, hk3.2 _ (HXi.out.on hb12), by show J _ _; rw [innerF_yes hlt2 hkm HO.out, ← List.append_assoc]; exact HJ3.out⟩
              case measure => simp [intOf]; omega
            · have HJ3 := Lib.hid hJx3
              clear hJx3
              gi_wp2_with fail
              refine bodyPost_ret (results_none rfl _ _ _) rfl ?_
              exact ⟨⟨_, rfl⟩, .inr ⟨_, trivial, HJ3.out⟩⟩
        · have hme : m = t.ks.length := by omega
          have HJ2 : Hid (J (outerF t.ks.length (pairOk t l) (k + 1)) wr) := by
            show J _ _
            have hh := HJi.out
            rw [congrArg (innerF t.ks.length (pairOk t l) ⟨k, hlt⟩) hme] at hh
            rw [outerF_succ hlt]
            exact hh
          clear hme HJi
          gi_wp2_with fail
          go_roundw
          case rel => exact ⟨k + 1, by omega, by go_num, hbi, HXi, HJ2⟩
          case measure => simp [intOf]; omega
    · have hke : k = t.ks.length := by omega
      have hh := HJ.out
      rw [congrArg (outerF t.ks.length (pairOk t l)) hke] at hh
      have HJ2 := Lib.hid hh
      clear hh hke HJ
      gi_wp2_with fail
      go_end0
      exact ⟨⟨_, rfl⟩, .inl ⟨_, rfl, HJ2.out⟩⟩
end Go.Proofs.YthihpggjglghoaaGreatDoor
