/- wax.Sets: contract. -/
import Derived.Test.YthihpggjglghoaaGreatDoorWithin
import Derived.Test.YthihpggjglghoaaGreatDoorLayI
namespace Go.Proofs.YthihpggjglghoaaGreatDoor
open Go.RowKit Go.Shelf Go.Maps

theorem sortsA (m : Nat) : AnyZI.SortsIn Tryz.prog Tryz.sortedA_ren Fence.wide m :=
  ⟨fun blk off cap ss W hH hblk hsz => callsIn_wide.2 (AnyM.slices_Sort_int Tryz.sortA blk off cap ss W hH hblk hsz),
   fun p cap W => callsIn_wide.2 (AnyM.slices_Sort_int_none Tryz.sortA p cap W)⟩
/-- maps.Keys. -/
theorem keys_any (b : Nat) (W : World) : Calls Tryz.prog 37 #[.map (some b)] W fun e w' => e = .returned (.func (.func 66) #[] #[.pointer (some ⟨W.heap.size, 0, none⟩)]) ∧ w' = W.alloc (.cells #[.map (some b)] 87) :=
  callsIn_wide.1 (AnyZI.keys_in Tryz.keysA Fence.wide 5 trivial rfl (some b) W)
set_option maxRecDepth 100000 in
set_option maxHeartbeats 1000000 in
/-- slices.Sorted of it. -/
theorem sorted_any {H : Type} (b nn : Nat) (D0 : DataW H) (R : Value → Option (DataW H × List MemPlace)) (w : World) (hown : w.ownsMap Tryz.prog 3 R b nn D0) (hmax : size D0 ≤ 64) :
    Calls Tryz.prog 36 #[.func (.func 66) #[] #[.pointer (some ⟨w.heap.size, 0, none⟩)]] (w.alloc (.cells #[.map (some b)] 87)) fun e w' => ∃ (v : Value) (ss : List Int), e = .returned v ∧ ss.Perm (intKeys D0) ∧
      w'.ownsRow (w.heap.size + 1) 3 1 v ss.length ((ss.mergeSort leI).map encZ) ∧ (v = .slice none 0 0 ↔ ss = []) ∧ Below (w.heap.size + 1) (w.alloc (.cells #[.map (some b)] 87)) w' := by
  have hbl := hown.lt
  have hm1 : size D0 ≤ maxLen := Nat.le_trans hmax (by decide)
  have hm2 : size D0 * 8 ≤ 140737488355328 := by omega
  have hseq : SeqGives Fence.wide 2 Tryz.prog 66 #[.pointer (some ⟨w.heap.size, 0, none⟩)] encZ (fun ss => ss.Perm (intKeys D0)) (size D0) (w.alloc (.cells #[.map (some b)] 87)) :=
    AnyZI.keys_gives (ρ := Tryz.keysA_ren) { Tryz.keysA with } Fence.wide _ trivial rfl (by omega) w.heap.size b nn D0 _ (by simp) (by simp) (by
      obtain ⟨es, clock, hb, Ft, hs, hD⟩ := hown
      exact ⟨es, clock, (Below.heap_alloc _ _ b hbl).trans hb, Ft, hs, hD⟩)
  have cS := AnyZI.sorted_in Tryz.sortedA Fence.wide 5 trivial trivial trivial trivial rfl (by omega) (sortsA _) (enters_of Tryz.func65 (by kernel_rfl) rfl) 66 #[.pointer (some ⟨w.heap.size, 0, none⟩)] trivial (enters_of Tryz.func66 (by kernel_rfl) rfl) _ _ hm1 hm2 _ hseq
  refine (callsIn_wide.1 cS).mono ?_
  rintro e w' ⟨v, ss, rfl, hS, hrow, hnil, hb⟩
  exact ⟨v, ss, rfl, hS, by have h := hrow; rw [World.size_alloc] at h; exact h, hnil, by simpa using hb⟩
theorem size_own {H : Type} {P : Program} {K : TypeId} {R : Value → Option (DataW H × List MemPlace)} {b n : Nat} {D : DataW H} {w : World} (h : w.ownsMap P K R b n D) : size D ≤ n := by
  obtain ⟨es, clock, _, _, hs, rfl⟩ := h
  rw [size_eq, length_sorted, List.length_map, Array.length_toList]
  exact hs
/-- The sets, rising. -/
def setsV (t : Tab) (l : List Int) : List Int := ((List.range 256).filter fun s => decide (s ∈ setList t l)).map fun s : Nat => (s : Int)
theorem setsV_sorted {t : Tab} {l : List Int} (hn : t.ks.length ≤ 8) {ss : List Int} {H : Type} {b n : Nat} {D : DataW H} {w : World} (hown : w.ownsMap Tryz.prog 3 (plainElem (H := H) Tryz.prog 4) b n D) (hD : D = setsD (outerF t.ks.length (pairOk t l) t.ks.length)) (hp : ss.Perm (intKeys D)) :
    ss.mergeSort leI = setsV t l := by
  have law : Keyed Tryz.prog 3 := int_keyed Tryz.underlying3
  obtain ⟨es, hE, hpw, _⟩ := hown.entries law
  obtain ⟨es', hE', hko⟩ := hown.keysOf
  obtain rfl : es = es' := by rw [hE] at hE'; simpa using hE'
  have hpw2 : (setsV t l).Pairwise (fun a b => leI a b = true) := by
    refine List.pairwise_map.2 ((List.Pairwise.filter _ List.pairwise_le_range).imp ?_)
    intro a b hab
    simp [leI]; omega
  have hnd : (setsV t l).Nodup := by
    refine List.pairwise_map.2 ((List.Pairwise.filter _ List.nodup_range).imp ?_)
    intro a b hab e
    exact hab (by omega)
  have hperm : (setsV t l).Perm (intKeys D) := by
    rw [hE]
    refine perm_intKeys hpw (fun p hp => by obtain ⟨v, hv⟩ := hko p hp; obtain ⟨x, _, hx, _⟩ := Maps.keyOf_i64 Tryz.underlying3 hv; exact ⟨x, hx⟩) hnd (fun x => ?_)
    rw [← hE, hD, has_sets]
    unfold setsV
    rw [List.mem_map]
    constructor
    · rintro ⟨s, hs, rfl⟩
      exact ⟨s, of_decide_eq_true (List.mem_filter.1 hs).2, rfl⟩
    · rintro ⟨s, hs, rfl⟩
      refine ⟨s, List.mem_filter.2 ⟨List.mem_range.2 ?_, decide_eq_true hs⟩, rfl⟩
      obtain ⟨x, _, rfl⟩ := List.mem_map.1 hs
      exact pairSet_lt x hn
  rw [mergeSort_of_perm_i (hp.trans hperm.symm)]
  exact List.mergeSort_of_pairwise hpw2

/-- A slice that a call made, and an error. -/
def OneOut (w : World) (R : List Int × Int) : Ending → World → Prop := fun e w' => ∃ v, e = .returned (.tuple #[v, .int .i64 R.2]) ∧ IntsOut w.heap.size w' v R.1 ∧ Below w.heap.size w w'
/-- What Sets returns. -/
def setsT (t : Tab) (l : List Int) : List Int × Int := if lookErr t l ≠ 0 then ([], lookErr t l) else (setsV t l, 0)

set_option maxRecDepth 100000 in
set_option maxHeartbeats 4000000 in
theorem setsT_ok {w : World} {pa ka ra : Option Addr} {pc kc rc : Nat} {t : Tab} {l : List Int} (h : RdIn w pa ka ra pc kc t l) (h0 : lookErr t l = 0) :
    Calls Tryz.prog 12 #[.agg #[.slice pa t.ps.length pc, .slice ka t.ks.length kc, .int .i64 t.pu], .slice ra l.length rc] w (OneOut w (setsV t l, 0)) := by
  have hB0 : Below w.heap.size w (w.alloc (.cells #[.slice pa t.ps.length pc, .slice ka t.ks.length kc, .int .i64 t.pu] 25)) := ((Below.refl _ w).alloc (Nat.le_refl _) _)
  have HL := Lib.hid ((h.on hB0).look (rc := rc) h0)
  have h1 := h.tab.tab.lp
  have h2 := h.tab.tab.lk
  have h3 := h.rds.len
  have HS := Lib.hid (h.sam h0)
  have hn8 : t.ks.length ≤ 8 := HS.out.val.nk.2
  clear h h0
  go_enter Tryz.func12, Tryz.ntmps12
  go_wp2_with fail
  refine HL.out.mono ?_
  rintro e w1 ⟨rfl, hb1⟩
  have hbw := hB0.trans (hb1.mono hB0.size)
  clear HL hb1
  go_wp2_with fail
  refine (sets_any (H := Unit) (HS.out.on (hbw.alloc hbw.size _))).mono ?_
  rintro e w2 ⟨rfl, hown, hb2⟩
  have hbw2 := (hbw.alloc hbw.size _).trans (hb2.mono (by have := hbw.size; simp; omega))
  simp only [World.size_alloc] at hown ⊢
  have hsD : size (setsD (H := Unit) (outerF t.ks.length (pairOk t l) t.ks.length)) ≤ 64 := by
    have h4 := size_own hown
    have h5 := outerF_len t.ks.length (pairOk t l) t.ks.length
    have h7 : t.ks.length * t.ks.length ≤ 8 * 8 := Nat.mul_le_mul hn8 hn8
    omega
  have HV := Lib.hid (fun (ss : List Int) (hp : ss.Perm (intKeys (setsD (H := Unit) (outerF t.ks.length (pairOk t l) t.ks.length)))) => setsV_sorted hn8 hown rfl hp)
  generalize setsV t l = sv at *
  generalize setsD (H := Unit) (outerF t.ks.length (pairOk t l) t.ks.length) = D at *
  generalize (outerF t.ks.length (pairOk t l) t.ks.length).length = nD at *
  have HSO := Lib.hid (sorted_any _ nD D _ w2 hown hsD)
  clear hb2 HS hown hsD
  go_wp2_with fail
  refine (keys_any _ _).mono ?_
  rintro e w3 ⟨rfl, rfl⟩
  go_wp2_with fail
  refine HSO.out.mono ?_
  rintro e w4 ⟨v, ss, rfl, hp, hrow, _, hb4⟩
  have hw2 := hbw2.size
  have hbw4 := (hbw2.alloc hw2 _).trans (hb4.mono (by omega))
  have hlen : ss.length = sv.length := by rw [← HV.out ss hp]; exact (List.length_mergeSort ss).symm
  rw [HV.out ss hp, hlen] at hrow
  have HROW := Lib.hid hrow
  clear hrow hp hlen
  go_wp2_with fail
  refine bodyPost_ret (v := .tuple #[v, .int .i64 0]) ?_ rfl ⟨_, rfl, IntsOut.base HROW.out (by omega), hbw4⟩
  simp [results, Tryz.results12, go_sem, *]

set_option maxRecDepth 100000 in
set_option maxHeartbeats 2000000 in
theorem setsT_look {w : World} {pa ka ra : Option Addr} {pc kc rc : Nat} {t : Tab} {l : List Int} (h : RdIn w pa ka ra pc kc t l) (h0 : lookErr t l ≠ 0) :
    Calls Tryz.prog 12 #[.agg #[.slice pa t.ps.length pc, .slice ka t.ks.length kc, .int .i64 t.pu], .slice ra l.length rc] w (OneOut w ([], lookErr t l)) := by
  have hB0 : Below w.heap.size w (w.alloc (.cells #[.slice pa t.ps.length pc, .slice ka t.ks.length kc, .int .i64 t.pu] 25)) := ((Below.refl _ w).alloc (Nat.le_refl _) _)
  have HL := Lib.hid (look_err (rc := rc) (h.on hB0).tab (h.on hB0).rds h0)
  have h1 := h.tab.tab.lp
  have h2 := h.tab.tab.lk
  have h3 := h.rds.len
  clear h
  generalize lookErr t l = z at *
  have z2 : (z != 0) = true := by simpa using h0
  go_enter Tryz.func12, Tryz.ntmps12
  go_wp2_with fail
  refine HL.out.mono ?_
  rintro e w1 ⟨rfl, hb1⟩
  have hbw := hB0.trans (hb1.mono hB0.size)
  clear HL hb1
  go_wp2_with fail
  refine bodyPost_ret (v := .tuple #[.slice none 0 0, .int .i64 z]) ?_ rfl ⟨_, rfl, World.ownsRow_nil _ _ _ _, hbw.alloc hbw.size _⟩
  simp [results, Tryz.results12, go_sem, *]

/-- **Sets returns setsT.** -/
theorem setsT_any {w : World} {pa ka ra : Option Addr} {pc kc rc : Nat} {t : Tab} {l : List Int} (h : RdIn w pa ka ra pc kc t l) :
    Calls Tryz.prog 12 #[.agg #[.slice pa t.ps.length pc, .slice ka t.ks.length kc, .int .i64 t.pu], .slice ra l.length rc] w (OneOut w (setsT t l)) := by
  unfold setsT
  by_cases h0 : lookErr t l = 0
  · rw [if_neg (by simpa using h0)]
    exact setsT_ok h h0
  · rw [if_pos h0]
    exact setsT_look h h0
end Go.Proofs.YthihpggjglghoaaGreatDoor
