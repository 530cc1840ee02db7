/- wax.everyKind, kindsIn: contracts. -/
import Derived.Test.YthihpggjglghoaaGreatDoorSets
namespace Go.Proofs.YthihpggjglghoaaGreatDoor
open Go.RowKit Go.Shelf

theorem every_fin : ∀ n : Fin 9, wrap64 (wrap64 (2 ^ n.1) - 1) = ((2 ^ n.1 - 1 : Nat) : Int) := by decide +kernel
theorem every_eq {n : Nat} (h : n ≤ 8) : wrap64 (wrap64 (2 ^ n) - 1) = ((2 ^ n - 1 : Nat) : Int) := every_fin ⟨n, by omega⟩

set_option maxRecDepth 100000 in
set_option maxHeartbeats 2000000 in
theorem everyKind_any (c0 c3 : Value) (ka : Option Addr) (n kc : Nat) (pu : Int) (h : n ≤ 8) (w : World) :
    Calls Tryz.prog 60 #[.agg #[c0, .slice ka n kc, .int .i64 pu, c3]] w fun e w' => e = .returned (.int .i64 ((2 ^ n - 1 : Nat) : Int)) ∧ Below w.heap.size w w' := by
  go_enter Tryz.func60, Tryz.ntmps60
  go_wp2_with fail
  go_ret
  exact ⟨ret_i64 (every_eq h), (Below.refl _ w).alloc (Nat.le_refl _) _⟩

/-- The kinds below k of a set. -/
def kinF (m : Nat) : Nat → List Int
  | 0 => []
  | k + 1 => kinF m k ++ (if m.testBit k then [(k : Int)] else [])
theorem kinF_len (m : Nat) : ∀ k, (kinF m k).length ≤ k
  | 0 => by simp [kinF]
  | k + 1 => by
    have := kinF_len m k
    rw [kinF, List.length_append]
    split <;> simp <;> omega
def kinV (m : Nat) : List Int := kinF m 8
theorem and_fin : ∀ m : Fin 256, ∀ k : Fin 8, (bits BinOp.and IntKind.i64 ((m.1 : Int) / 2 ^ k.1) 1 == 1) = m.1.testBit k.1 := by decide +kernel
theorem and_bit {m k : Nat} (h : m < 256) (hk : k < 8) : (bits BinOp.and IntKind.i64 ((m : Int) / 2 ^ k) 1 == 1) = m.testBit k := and_fin ⟨m, h⟩ ⟨k, hk⟩
theorem infoInt : (Tryz.prog.info? 3).map (fun i => (i.zero, i.size, i.bytes)) = some (some (.int .i64 0), 1, 8) := by kernel_rfl
/-- A slice of ints that a call made. -/
def IntsOut (B : Nat) (w' : World) (v : Value) (l : List Int) : Prop := w'.ownsRow B 3 1 v l.length (l.map (Value.int .i64))

set_option maxRecDepth 100000 in
set_option maxHeartbeats 2000000 in
theorem kindsIn_any (m : Nat) (h : m < 256) (w : World) :
    Calls Tryz.prog 61 #[.int .i64 m] w fun e w' => ∃ v, e = .returned v ∧ IntsOut w.heap.size w' v (kinV m) ∧ (v = .slice none 0 0 ↔ kinV m = []) ∧ Below w.heap.size w w' := by
  obtain ⟨i0, hi0, hz0, hz1, hz2⟩ := info_parts infoInt
  go_enter Tryz.func61, Tryz.ntmps61
  go_wp2_with fail
  go_loopw [3, 5] (fun v i wr => ∃ k : Nat, k ≤ 8 ∧ i = .int .i64 k ∧ Hid (IntsOut w.heap.size wr v (kinF m k)) ∧ Hid (v = .slice none 0 0 ↔ kinF m k = []) ∧ Below w.heap.size w wr) (fun _ i _ => 8 - (intOf i).toNat)
  case atStart => exact ⟨0, Nat.zero_le _, rfl, World.ownsRow_nil _ _ _ _, by show _ ↔ _; simp [kinF], Below.refl _ _⟩
  case round =>
    obtain ⟨k, hk, rfl, HO, HN, hbr⟩ := hrel
    by_cases hlt : k < 8
    · have hbit := and_bit h hlt
      have hl := kinF_len m k
      cases hb : m.testBit k with
      | true =>
        rw [hb] at hbit
        have HB := Lib.hid hb
        clear hb
        go_wp2_with (first
          | (at_builtin; refine wpList_append_lies _ rfl _ _ 34 rfl w.heap.size 3 i0 (.int .i64 0) 1 8 Tryz.underlying34 hi0 hz0 hz1 hz2 rfl (by decide) _ _ _ rfl (World.ownsRow.alloc HO.out _) ⟨wr.heap.size, 0, none⟩ 1 1 [.int .i64 k] rfl rfl ?c1 ?c2 (by decide) ?c3 ?c4 ?c5 _ rfl ?_)
          | go_in)
        case c1 =>
          intro j u hj
          match j, hj with
          | 0, hj => simp at hj; subst hj; simp [Addr.add]
        case c2 => intro u hu; simp at hu; subst hu; rfl
        case c3 => unfold maxLen; omega
        case c4 => omega
        case c5 => have := hbr.size; simp; omega
        · intro g cap w1 hown hgrow hat hglt
          go_wp2_with fail
          go_roundw
          case rel =>
            refine ⟨k + 1, by omega, by go_num, ?_, ?_, ?_⟩
            · show IntsOut _ _ _ (kinF m (k + 1))
              rw [show kinF m (k + 1) = kinF m k ++ [(k : Int)] from by rw [kinF, if_pos HB.out]]
              unfold IntsOut
              simpa using hown
            · show _ ↔ _
              rw [kinF, if_pos HB.out]
              simp
            · exact hbr.trans (((Below.refl _ wr).alloc hbr.size _).grown hgrow (by have := hbr.size; simp; omega) (fun r e => (World.ownsRow.lt HO.out r e).1))
          case measure => simp [intOf]; omega
      | false =>
        rw [hb] at hbit
        have HB := Lib.hid hb
        clear hb
        go_wp2_with fail
        go_roundw
        case rel => exact ⟨k + 1, by omega, by go_num, by show IntsOut _ _ _ _; rw [kinF, HB.out]; simpa using HO.out, by show _ ↔ _; rw [kinF, HB.out]; simpa using HN.out, hbr⟩
        case measure => simp [intOf]; omega
    · have hke : k = 8 := by omega
      subst hke
      go_wp2_with fail
      go_ret
      exact ⟨_, rfl, HO.out, HN.out, hbr⟩
end Go.Proofs.YthihpggjglghoaaGreatDoor
