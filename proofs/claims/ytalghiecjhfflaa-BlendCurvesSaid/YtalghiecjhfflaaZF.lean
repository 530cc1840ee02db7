/- The law: valid, turn, Parted. -/
import Derived.Test.YtalghiecjhfflaaZE
import Derived.LoopIn
namespace Go.Proofs.Ytalghiecjhfflaa
open Go.RowKit Go.Shelf Go.Maps
attribute [local go_sem] Oper.semAt_some

def encU (z : Int) (_ : Nat) : Value := .int .u16 z
/-- A slice of small numbers that comes in. -/
structure U16In (w : World) (ra : Option Addr) (l : List Int) : Prop where
  at_ : RowAt 1 encU w w.heap.size ra l
  len : l.length ≤ 9223372036854775807
  rng : ∀ z ∈ l, 0 ≤ z ∧ z ≤ 65535
theorem U16In.on {w w' : World} {ra : Option Addr} {l : List Int} (h : U16In w ra l) (hb : Below w.heap.size w w') : U16In w' ra l := ⟨(RowAt.below h.at_ hb (Nat.le_refl _)).mono hb.size, h.len, h.rng⟩
/-- The n-th number of a list, by turns. -/
def turnV (l : List Int) (n : Nat) : Int := (l[n % l.length]?).getD 0
def amV (lo hi z : Int) : Int := lo + z % (hi - lo + 1)
theorem turnV_rng {l : List Int} (h : ∀ z ∈ l, 0 ≤ z ∧ z ≤ 65535) (n : Nat) : 0 ≤ turnV l n ∧ turnV l n ≤ 65535 := by
  unfold turnV
  cases hx : l[n % l.length]? with
  | none => simp
  | some x => exact h x (List.mem_of_getElem? hx)
theorem amV_rng {lo hi z : Int} (h : lo ≤ hi) : lo ≤ amV lo hi z ∧ amV lo hi z ≤ hi := by
  have h1 := Int.emod_nonneg z (show hi - lo + 1 ≠ 0 by omega)
  have h2 := Int.emod_lt_of_pos z (show 0 < hi - lo + 1 by omega)
  unfold amV
  omega
set_option maxRecDepth 100000 in
set_option maxHeartbeats 1000000 in
theorem lturn_any {w : World} {A : Option Addr} {c : Nat} {l : List Int} (h : U16In w A l) (n : Nat) (_hn : n ≤ 100000) :
    Calls Try.prog 46 #[.slice A l.length c, .int .i64 (n : Int)] w fun e w' => e = .returned (.int .i64 (turnV l n)) ∧ w' = w := by
  have hl := h.len
  by_cases h0 : l.length = 0
  · have H := Lib.hid (show turnV l n = 0 by unfold turnV; rw [List.getElem?_eq_none (by omega)]; rfl)
    have h0' : ((l.length : Int) == 0) = true := by simp [h0]
    go_enter Try.func46, Try.ntmps46
    go_wp2_with fail
    go_ret
    exact ⟨ret_i64 H.out.symm, rfl⟩
  · have h0' : ((l.length : Int) == 0) = false := by rw [beq_eq_false_iff_ne]; omega
    have hk : n % l.length < l.length := Nat.mod_lt _ (by omega)
    obtain ⟨x, hx⟩ : ∃ x, l[n % l.length]? = some x := ⟨l[n % l.length], List.getElem?_eq_getElem hk⟩
    have H := Lib.hid (show turnV l n = x by unfold turnV; rw [hx]; rfl)
    have hr := h.rng x (List.mem_of_getElem? hx)
    obtain ⟨b, o, rfl, _, hc⟩ := h.at_.one hx
    have hc' : w.cell? ⟨b, o + n % l.length, none⟩ = some (.int .u16 x) := hc
    clear hx hc h
    have hz : ¬ ((l.length : Int) = 0) := by omega
    have hm : (n : Int).tmod (l.length : Int) = ((n % l.length : Nat) : Int) := by rw [Int.tmod_eq_emod_of_nonneg (by omega)]; simp
    have hm2 : (n : Int) % (l.length : Int) = ((n % l.length : Nat) : Int) := by simp
    have hlt : ((n % l.length : Nat) : Int) < (l.length : Int) := by omega
    have hge : 0 ≤ ((n % l.length : Nat) : Int) := by omega
    generalize hq : n % l.length = q at *
    go_enter Try.func46, Try.ntmps46
    go_wp2_with fail
    go_ret
    exact ⟨ret_i64 H.out.symm, rfl⟩


set_option maxRecDepth 100000 in
theorem lvalid_any {w : World} {A : Option Addr} {c : Nat} {l : List Bw} (h : BwsIn w A l) :
    Calls Try.prog 36 #[.slice A l.length c] w fun e w' => e = .returned (.bool (bdE l == 0)) ∧ Below w.heap.size w w' := by
  have HC := Lib.hid (rcheck_any (c := c) h)
  have HE := Lib.hid (show bdE l = (checkB l).2.2 from rfl)
  clear h
  generalize checkB l = z at *
  rw [HE.out]
  go_enter Try.func36, Try.ntmps36
  go_wp2_with (first
    | (go_at_call 16; (with_reducible refine HC.out.mono ?_); rintro e w1 ⟨rfl, hb⟩; have HB := Lib.hid hb; clear hb)
    | fail)
  go_ret
  exact ⟨rfl, HB.out⟩
/-- A recipe by turns: what stands, what is left. -/
def parS (t : List Int) : Nat → List Int × Int
  | 0 => ([], 20)
  | k + 1 => ((parS t k).1 ++ [turnV t k % ((parS t k).2 + 1)], (parS t k).2 - turnV t k % ((parS t k).2 + 1))
def parL (m : Nat) (t : List Int) : List Int := (parS t (m - 1)).1 ++ [(parS t (m - 1)).2]
theorem sumL_snoc (l : List Int) (x : Int) : sumL (l ++ [x]) = sumL l + x := by
  induction l with
  | nil => simp [sumL]
  | cons a l ih => simp only [List.cons_append, sumL, ih]; omega
theorem parS_ok {t : List Int} (h : ∀ z ∈ t, 0 ≤ z ∧ z ≤ 65535) : ∀ k, (parS t k).1.length = k ∧ (0 ≤ (parS t k).2 ∧ (parS t k).2 ≤ 20) ∧ (∀ n ∈ (parS t k).1, 0 ≤ n ∧ n ≤ 20) ∧ sumL (parS t k).1 + (parS t k).2 = 20
  | 0 => by simp [parS, sumL]
  | k + 1 => by
    obtain ⟨h1, h2, h3, h4⟩ := parS_ok h k
    have ht := turnV_rng h k
    have m1 := Int.emod_nonneg (turnV t k) (show (parS t k).2 + 1 ≠ 0 by omega)
    have m2 := Int.emod_lt_of_pos (turnV t k) (show 0 < (parS t k).2 + 1 by omega)
    simp only [parS, List.length_append, List.length_singleton, sumL_snoc, h1]
    refine ⟨trivial, by omega, fun n hn => ?_, by omega⟩
    rcases List.mem_append.1 hn with hn | hn
    · exact h3 n hn
    · simp at hn; omega
theorem parL_len {t : List Int} (h : ∀ z ∈ t, 0 ≤ z ∧ z ≤ 65535) {m : Nat} (hm : 1 ≤ m) : (parL m t).length = m := by
  unfold parL
  rw [List.length_append, (parS_ok h (m - 1)).1]
  simp; omega
theorem parL_ok {t : List Int} (h : ∀ z ∈ t, 0 ≤ z ∧ z ≤ 65535) {m : Nat} (hm : 1 ≤ m) : RcOk m (parL m t) := by
  obtain ⟨h1, h2, h3, h4⟩ := parS_ok h (m - 1)
  refine ⟨parL_len h hm, fun n hn => ?_, ?_⟩
  · rcases List.mem_append.1 hn with hn | hn
    · exact h3 n hn
    · simp at hn; subst hn; exact h2
  · unfold parL; rw [sumL_snoc]; omega
set_option maxRecDepth 100000 in
set_option maxHeartbeats 2000000 in
theorem lparted_any {w : World} {A : Option Addr} {c : Nat} {t : List Int} (h : U16In w A t) {m : Nat} (hm : 1 ≤ m) (hm2 : m ≤ 1000) :
    Calls Try.prog 37 #[.int .i64 (m : Int), .slice A t.length c] w fun e w' => ∃ v, e = .returned v ∧ IntsOut w.heap.size w' v (parL m t) ∧ Below w.heap.size w w' := by
  have HI := Lib.hid h
  have HR := Lib.hid h.rng
  clear h
  go_enter Try.func37, Try.ntmps37
  go_wp2_with fail
  go_loopw [5, 6, 7] (fun v p i W => ∃ k : Nat, k ≤ m - 1 ∧ i = .int .i64 k ∧ p = .int .i64 (parS t k).2 ∧ Hid (IntsOut w.heap.size W v (parS t k).1) ∧ Hid (Below w.heap.size w W)) (fun _ _ i _ => m - 1 - (intOf i).toNat)
  case atStart => exact ⟨0, by omega, rfl, rfl, IntsOut.nil _ _, Below.refl _ _⟩
  case round =>
    obtain ⟨k, hk, rfl, rfl, HO, HB⟩ := hrel
    have g0 : IntKind.i64.wrap ((k : Int) + 1) = (k : Int) + 1 := IntWalk.i64_in _ (by omega)
    obtain ⟨hl, h2, -, -⟩ := parS_ok HR.out k
    have HLL : Hid ((parS t k).1.length < 1000000) := by show _ < _; omega
    by_cases hlt : k < m - 1
    · have hlt2 : (k : Int) + 1 < m := by omega
      have ht := turnV_rng HR.out k
      have HT := Lib.hid (lturn_any (c := c) (HI.out.on HB.out) k (by omega))
      have HS := Lib.hid (show parS t (k + 1) = ((parS t k).1 ++ [turnV t k % ((parS t k).2 + 1)], (parS t k).2 - turnV t k % ((parS t k).2 + 1)) from rfl)
      have m1 := Int.emod_nonneg (turnV t k) (show (parS t k).2 + 1 ≠ 0 by omega)
      have m2 := Int.emod_lt_of_pos (turnV t k) (show 0 < (parS t k).2 + 1 by omega)
      generalize turnV t k = z at *
      generalize (parS t k).2 = p at *
      generalize (parS t k).1 = lk at *
      have g1 : IntKind.i64.wrap (p + 1) = p + 1 := IntWalk.i64_in _ (by omega)
      have g2 : z.tmod (p + 1) = z % (p + 1) := Int.tmod_eq_emod_of_nonneg ht.1
      have g3 : IntKind.i64.wrap (z % (p + 1)) = z % (p + 1) := IntWalk.i64_in _ (by omega)
      have g4 : IntKind.i64.wrap (p - z % (p + 1)) = p - z % (p + 1) := IntWalk.i64_in _ (by omega)
      have g5 : ¬ (p + 1 = 0) := by omega
      have HM := Lib.hid (And.intro m1 m2)
      clear m1 m2 hl
      go_wp2_with (first
        | (go_at_call 46; (with_reducible refine HT.out.mono ?_); rintro e w1 ⟨rfl, hw⟩; rw [hw]; clear hw)
        | (at_builtin; go_must (refine app_list rfl _ _ rfl (l := lk) rfl (own_below HO.out ((Below.refl _ wr).alloc (Nat.le_refl _) _)) (z % (p + 1)) rfl (Blk.newat rfl) HLL.out (by have := HB.out.size; simp; omega) ?_); intro g cap w6 r1 r2 r3 r4; have HO2 := Lib.hid r1; have HB2 := Lib.hid ((HB.out.alloc HB.out.size _).trans r2); clear r1 r2 r3 r4)
        | fail)
      go_roundw
      case rel => exact ⟨k + 1, by omega, by go_num, by rw [HS.out], by show IntsOut _ _ _ _; rw [HS.out]; exact HO2.out, HB2.out⟩
      case measure => simp [intOf]; omega
    · obtain rfl : k = m - 1 := by omega
      have hge : ¬ ((m - 1 : Nat) : Int) + 1 < m := by omega
      have HS := Lib.hid (show parL m t = (parS t (m - 1)).1 ++ [(parS t (m - 1)).2] from rfl)
      clear hl h2
      generalize (parS t (m - 1)).2 = p at *
      generalize (parS t (m - 1)).1 = lk at *
      go_wp2_with (first
        | (at_builtin; go_must (refine app_list rfl _ _ rfl (l := lk) rfl (own_below HO.out ((Below.refl _ wr).alloc (Nat.le_refl _) _)) p rfl (Blk.newat rfl) HLL.out (by have := HB.out.size; simp; omega) ?_); intro g cap w6 r1 r2 r3 r4; have HO2 := Lib.hid r1; have HB2 := Lib.hid ((HB.out.alloc HB.out.size _).trans r2); clear r1 r2 r3 r4)
        | fail)
      go_ret
      exact ⟨_, rfl, by rw [HS.out]; exact HO2.out, HB2.out⟩
end Go.Proofs.Ytalghiecjhfflaa
