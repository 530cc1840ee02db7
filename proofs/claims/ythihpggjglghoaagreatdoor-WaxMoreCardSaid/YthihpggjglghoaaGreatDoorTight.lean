/- wax.tighten: contract. -/
import Derived.Test.YthihpggjglghoaaGreatDoorBndA
namespace Go.Proofs.YthihpggjglghoaaGreatDoor
open Go.RowKit Go.Shelf

/-- What several bounds leave of a range of parts. -/
def tightL (bs : List (Int × Int)) (p : Int × Int) : Int × Int := bs.foldl (fun p b => applyB b.1 b.2 p) p
theorem tightL_snoc (bs : List (Int × Int)) (b p : Int × Int) : tightL (bs ++ [b]) p = applyB b.1 b.2 (tightL bs p) := by simp [tightL]
theorem applyB_lo (f l : Int) (p : Int × Int) (hl : -1000000000 ≤ l ∧ l ≤ 1000000000) (hp : -1000000000 ≤ p.1 ∧ p.1 ≤ 1000000000) : -1000000000 ≤ (applyB f l p).1 ∧ (applyB f l p).1 ≤ 1000000000 := by
  unfold applyB
  split
  · exact hp
  · split
    · have := ediv_bd l (-f) hl (by omega)
      dsimp only; omega
    · split <;> exact hp

theorem add_zero_at (g k : Nat) : (⟨g, 0, none⟩ : Addr).add k = ⟨g, k, none⟩ := by unfold Addr.add; split <;> simp_all

set_option maxRecDepth 100000 in
set_option maxHeartbeats 1000000 in
theorem tighten_any {w : World} {B0 : Nat} {A : Option Addr} {c : Nat} {bs : List (Int × Int)} (p : Int × Int) (hB : Bnds w B0 (.slice A bs.length c) bs) (hn : bs.length ≤ 1000) (hp : -1000000000 ≤ p.1 ∧ p.1 ≤ 1000000000)
    (hbd : ∀ b ∈ bs, (-1000000000 ≤ b.1 ∧ b.1 ≤ 1000000000) ∧ (-1000000000 ≤ b.2 ∧ b.2 ≤ 1000000000)) :
    Calls Tryz.prog 58 #[.agg #[.int .i64 p.1, .int .i64 p.2], .slice A bs.length c] w fun e w' => e = .returned (.agg #[.int .i64 (tightL bs p).1, .int .i64 (tightL bs p).2]) ∧ Below w.heap.size w w' := by
  obtain ⟨xs, hown, hcap⟩ := hB
  have HO := Lib.hid hown
  have HC := Lib.hid hcap
  have HB := Lib.hid hbd
  clear hown hcap hbd
  have eg : ∀ args w, (callFunc 104 args).run Tryz.prog w = .ok (.enter 104 args) w := enters_of Tryz.func104 (by kernel_rfl) rfl
  go_enter Tryz.func58, Tryz.ntmps58
  go_wp2_with fail
  go_loopw [9] (fun i wr => ∃ (k : Nat) (q : Int × Int), k ≤ bs.length ∧ i = .int .i64 k ∧ Below w.heap.size w wr ∧ w.heap.size + 1 < wr.heap.size ∧ wr.cell? ⟨w.heap.size, 0, none⟩ = some (.int .i64 q.1) ∧ wr.cell? ⟨w.heap.size, 1, none⟩ = some (.int .i64 q.2) ∧ wr.frozen? ⟨w.heap.size, 0, none⟩ = false ∧ wr.frozen? ⟨w.heap.size, 1, none⟩ = false ∧ Hid (q = tightL (bs.take k) p) ∧ (-1000000000 ≤ q.1 ∧ q.1 ≤ 1000000000) ∧
    wr.cell? ⟨w.heap.size + 1, 0, none⟩ = some (.int .i64 0) ∧ wr.cell? ⟨w.heap.size + 1, 1, none⟩ = some (.int .i64 0) ∧ wr.frozen? ⟨w.heap.size + 1, 0, none⟩ = false ∧ wr.frozen? ⟨w.heap.size + 1, 1, none⟩ = false) (fun i _ => bs.length - (intOf i).toNat)
  case atStart => exact ⟨0, p, Nat.zero_le _, rfl, (((Below.refl _ w).alloc (Nat.le_refl _) _).alloc (by simp) _), by simp, by simp, by simp, by simp, by simp, rfl, hp, by simp, by simp, by simp, by simp⟩
  case round =>
    obtain ⟨k, q, hk, rfl, hb, hsz, c0, c1, f0, f1, HQ, hq, r0, r1, g0, g1⟩ := hrel
    by_cases hlt : k < bs.length
    · obtain ⟨y, hy⟩ : ∃ y, bs[k]? = some y := ⟨bs[k], List.getElem?_eq_getElem hlt⟩
      obtain ⟨p1, p2, _, _, o1, o2, hx⟩ := HC.out k y hy
      obtain ⟨⟨y1, y2⟩, ⟨z1, z2⟩⟩ := HB.out y (List.mem_of_getElem? hy)
      obtain ⟨g, cap, hv, _, hg⟩ := HO.out.form (by omega)
      obtain ⟨rfl, rfl⟩ : A = some ⟨g, 0, none⟩ ∧ c = cap := by simpa using hv
      have hx0 := HO.out.cells (g := g) rfl k _ hx
      rw [add_zero_at] at hx0
      have hcg := (hb.cell (p := ⟨g, k, none⟩) hg).trans hx0
      clear hx0
      have n1 := o1.lt
      have n2 := o2.lt
      have hbnd := Lib.hid (fun (W : World) (hB : Below w.heap.size w W) (hs : w.heap.size ≤ W.heap.size) => bound_any y.1 y.2 q p1 p2 W ⟨y1, y2⟩ ⟨z1, z2⟩ hq (by omega) (by omega) (o1.below hB n1).cell (o2.below hB n2).cell)
      have hlo := applyB_lo y.1 y.2 q ⟨z1, z2⟩ hq
      have HY := Lib.hid hy
      clear hy hx hv
      go_wp2_with fail
      refine (hbnd.out _ hb hb.size).mono ?_
      rintro e w1 ⟨rfl, hb1⟩
      have hk1 := kept_of hb1
      have d0 := hk1 _ _ c0
      have d1 := hk1 _ _ c1
      have d2 := hk1 _ _ r0
      have d3 := hk1 _ _ r1
      have e0 := (hb1.frozen (p := ⟨w.heap.size, 0, none⟩) (by simp; omega)).trans f0
      have e1 := (hb1.frozen (p := ⟨w.heap.size, 1, none⟩) (by simp; omega)).trans f1
      have e2 := (hb1.frozen (p := ⟨w.heap.size + 1, 0, none⟩) (by simp; omega)).trans g0
      have e3 := (hb1.frozen (p := ⟨w.heap.size + 1, 1, none⟩) (by simp; omega)).trans g1
      have hbw := hb.trans (hb1.mono hb.size)
      have hsz1 := hb1.size
      have hq' : Hid (applyB y.1 y.2 q = tightL (bs.take (k + 1)) p) := by
        show _ = _
        rw [List.take_add_one, HY.out]
        simp only [Option.toList]
        rw [tightL_snoc, ← HQ.out]
      generalize applyB y.1 y.2 q = q' at *
      clear hk1 c0 c1 r0 r1 f0 f1 g0 g1 hbnd
      go_wp2_with fail
      go_roundw
      case rel => exact ⟨k + 1, q', by omega, by go_num, by repeat (first | exact hbw | refine Below.setCell ?_ (by simp) _), by simp; omega, by simp [go_sem, *], by simp [go_sem, *], by simp [go_sem, *], by simp [go_sem, *], hq', hlo, by simp [go_sem, *], by simp [go_sem, *], by simp [go_sem, *], by simp [go_sem, *]⟩
      case measure => simp [intOf]; omega
    · have hke : k = bs.length := by omega
      have HQ' : Hid (q = tightL bs p) := by
        show _ = _
        rw [HQ.out, hke, List.take_length]
      clear hke HQ
      go_wp2_with fail
      refine bodyPost_ret (v := .agg #[.int .i64 q.1, .int .i64 q.2]) ?_ rfl ⟨by rw [HQ'.out], by repeat (first | exact hb | refine Below.setCell ?_ (by simp) _)⟩
      simp [results, Tryz.results58, go_sem, *]
end Go.Proofs.YthihpggjglghoaaGreatDoor
