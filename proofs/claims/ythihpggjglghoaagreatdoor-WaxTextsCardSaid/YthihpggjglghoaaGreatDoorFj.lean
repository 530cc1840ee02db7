/- Contracts of layer wax, a part: the reference, arguments that come in, and what the law needs of both. No statement is proved here. -/
import Derived.Test.YthihpggjglghoaaGreatDoorRd
import Derived.Test.YthihpggjglghoaaGreatDoorWriteA
import Derived.Lib.IndexBytes
import Derived.Lib.SplitLaws
import Derived.Test.YthihpggjglghoaaGreatDoorOpen
import Derived.Laws.IdiomStrings
import Derived.Test.YthihpggjglghoaaGreatDoorOut
import Derived.WalkKit
import Derived.ProofKit
import Derived.OpenShut
import Derived.Deep.Slices
import Derived.Lib.SmallJoins
import Derived.Test.YthihpggjglghoaaGreatDoorBlk
import Derived.Test.YthihpggjglghoaaGreatDoorPof
import Derived.RegionDies
import Derived.Deep.RegionLaw
import Derived.Deep.RegionHeld3
import Derived.Deep.DeepMust
import Derived.Test.YthihpggjglghoaaGreatDoorRft
import Derived.Test.YthihpggjglghoaaGreatDoorLine
import Derived.Test.YthihpggjglghoaaGreatDoorCards
import Derived.Test.YthihpggjglghoaaGreatDoorTie
import Derived.Deep.DeepHandedRow
import Derived.Deep.DeepWitnessRowRef
import Derived.Lib.LaidTab
import Derived.Stop.LaidErr
import Derived.LaidMore
import Derived.Shelf.Vars
import Derived.Lib.LaidU8
namespace Go.Proofs.YthihpggjglghoaaGreatDoor

theorem ib_spec (c : UInt8) : ∀ l : List UInt8, (Lib.indexByte l c = -1 ∧ c ∉ l) ∨ ∃ a b, l = a ++ c :: b ∧ c ∉ a ∧ Lib.indexByte l c = a.length
  | [] => .inl ⟨rfl, by simp⟩
  | x :: l => by
    unfold Lib.indexByte
    by_cases hx : x = c
    · right
      exact ⟨[], l, by simp [hx], by simp, by simp [hx]⟩
    · have hb : (x == c) = false := by simpa using hx
      rcases ib_spec c l with ⟨h1, h2⟩ | ⟨a, b, rfl, h2, h3⟩
      · left
        rw [hb, h1]
        exact ⟨rfl, by simp [h2, Ne.symm hx]⟩
      · right
        refine ⟨x :: a, b, rfl, by simp [h2, Ne.symm hx], ?_⟩
        rw [hb, h3]
        have hn : (((a.length : Nat) : Int) == -1) = false := by
          rw [beq_eq_false_iff_ne]; omega
        rw [hn]
        simp
theorem ib_hit (c : UInt8) (a b : List UInt8) (h : c ∉ a) : Lib.index (a ++ c :: b) [c] = a.length := by
  rw [Lib.index_one]
  rcases ib_spec c (a ++ c :: b) with ⟨_, h2⟩ | ⟨a', b', he, h2, h3⟩
  · simp at h2
  · rw [h3]
    rcases List.append_eq_append_iff.1 he with ⟨u, rfl, hu⟩ | ⟨u, rfl, hu⟩
    · cases u with
      | nil => simp
      | cons y u =>
        simp only [List.cons_append, List.cons.injEq] at hu
        rw [← hu.1] at h2
        simp at h2
    · cases u with
      | nil => simp
      | cons y u =>
        simp only [List.cons_append, List.cons.injEq] at hu
        rw [← hu.1] at h
        simp at h
theorem ib_miss (c : UInt8) (a : List UInt8) (h : c ∉ a) : Lib.index a [c] = -1 := by
  rw [Lib.index_one]
  rcases ib_spec c a with ⟨h1, _⟩ | ⟨a', b', rfl, _, _⟩
  · exact h1
  · simp at h
theorem cut_hit (a b : List UInt8) (h : (10 : UInt8) ∉ a) : Lib.cut (a ++ 10 :: b) [10] = (a, b, true) := by
  unfold Lib.cut
  rw [ib_hit 10 a b h, if_pos (by omega)]
  simp
theorem cut_inv {s : List UInt8} (h : (Lib.cut s [10]).2.2 = true) : s = (Lib.cut s [10]).1 ++ 10 :: (Lib.cut s [10]).2.1 := by
  have hi := Lib.index_one s 10
  rcases ib_spec 10 s with ⟨h1, _⟩ | ⟨a, b, rfl, h2, _⟩
  · unfold Lib.cut at h
    rw [hi, h1] at h
    simp at h
  · rw [cut_hit a b h2]
theorem join_split (k : Nat) : ∀ s : List UInt8, Lib.join (Lib.splitK [32] 0 k s) [32] = s := by
  induction k with
  | zero => intro s; exact Lib.join_one _ _
  | succ k ih =>
    intro s
    unfold Lib.splitK
    rcases ib_spec 32 s with ⟨h1, h2⟩ | ⟨a, b, rfl, h2, _⟩
    · rw [ib_miss 32 s h2]
      simp [Lib.join_one]
    · rw [ib_hit 32 a b h2]
      have hn : (((a.length : Nat) : Int) == -1) = false := by
        rw [beq_eq_false_iff_ne]; omega
      rw [hn]
      simp only [Bool.false_eq_true, if_false, Int.toNat_natCast, Nat.add_zero, List.length_singleton]
      rw [List.take_left, show (a ++ 32 :: b).drop (a.length + 1) = b by simp]
      have hj := ih b
      rw [Lib.join_cons]
      cases hs : Lib.splitK [32] 0 k b with
      | nil => rw [hs] at hj; cases k <;> simp [Lib.splitK] at hs <;> split at hs <;> simp at hs
      | cons y ys =>
        rw [hs, Lib.join_cons] at hj
        rw [← hj]
        simp [Lib.joinTail]
theorem split_join : ∀ (ws : List (List UInt8)), ws ≠ [] → (∀ w ∈ ws, (32 : UInt8) ∉ w) → Lib.splitK [32] 0 (ws.length - 1) (Lib.join ws [32]) = ws ∧ (Lib.join ws [32]).count 32 = ws.length - 1
  | [], h, _ => absurd rfl h
  | [w], _, hw => by
    have h0 := hw w (by simp)
    rw [Lib.join_one]
    exact ⟨rfl, List.count_eq_zero.2 h0⟩
  | w :: v :: ws, _, hw => by
    have h0 := hw w (by simp)
    obtain ⟨h1, h2⟩ := split_join (v :: ws) (by simp) (fun x hx => hw x (by simp [hx]))
    have hj : Lib.join (w :: v :: ws) [32] = w ++ 32 :: Lib.join (v :: ws) [32] := by
      rw [Lib.join_cons, Lib.join_cons]
      simp [Lib.joinTail]
    rw [hj]
    constructor
    · simp only [List.length_cons, Nat.add_sub_cancel] at h1 ⊢
      rw [Lib.splitK, ib_hit 32 w _ h0]
      have hn : (((w.length : Nat) : Int) == -1) = false := by
        rw [beq_eq_false_iff_ne]; omega
      rw [hn]
      simp only [Bool.false_eq_true, if_false, Int.toNat_natCast, Nat.add_zero, List.length_singleton]
      rw [List.take_left, show (w ++ 32 :: Lib.join (v :: ws) [32]).drop (w.length + 1) = Lib.join (v :: ws) [32] by simp, h1]
    · rw [List.count_append, List.count_cons, List.count_eq_zero.2 h0, h2]
      simp

theorem ba_ext {a b : ByteArray} (h : a.data.toList = b.data.toList) : a = b := by
  cases a; cases b; simp only [ByteArray.mk.injEq]
  exact Array.toList_inj.1 h
theorem ba_app (a b : ByteArray) : (a ++ b).data.toList = a.data.toList ++ b.data.toList := by simp
theorem joinB_list (l : List ByteArray) : (joinB l).data.toList = Lib.join (l.map (·.data.toList)) [32] := by simp [joinB]
theorem lineB_list (l : List ByteArray) : (lineB l).data.toList = Lib.join (l.map (·.data.toList)) [32] ++ [10] := by
  unfold lineB
  rw [ba_app, joinB_list]
theorem cut_line {ws : List ByteArray} (r : ByteArray) (h : ∀ w ∈ ws, (10 : UInt8) ∉ w.data.toList) (_hne : ws ≠ []) : cutF (lineB ws ++ r) = joinB ws ∧ cutR (lineB ws ++ r) = r ∧ cutB (lineB ws ++ r) = true := by
  have hj : (10 : UInt8) ∉ (joinB ws).data.toList := by
    rw [joinB_list]
    intro hm
    clear _hne
    induction ws with
    | nil => simp [Lib.join_nil] at hm
    | cons w ws ih =>
      rw [List.map_cons, Lib.join_cons] at hm
      simp only [Lib.joinTail, List.mem_append, List.mem_flatten, List.mem_map] at hm
      rcases hm with hm | ⟨l, ⟨v, ⟨b, hb, rfl⟩, rfl⟩, hm⟩
      · exact h w (by simp) hm
      · simp only [List.mem_append, List.mem_singleton] at hm
        rcases hm with hm | hm
        · simp at hm
        · exact h b (by simp [hb]) hm
  have he : (lineB ws ++ r).data.toList = (joinB ws).data.toList ++ 10 :: r.data.toList := by
    rw [ba_app, lineB_list, joinB_list]; simp
  have hc := cut_hit (joinB ws).data.toList r.data.toList hj
  rw [← he] at hc
  refine ⟨?_, ?_, ?_⟩
  · unfold cutF; rw [hc]
  · unfold cutR; rw [hc]
  · unfold cutB; rw [hc]
theorem line_of_cut {s : ByteArray} (h : cutB s = true) : s = lineB (wordsV (cutF s)) ++ cutR s := by
  apply ba_ext
  have h1 := cut_inv h
  have hw : (wordsV (cutF s)).map (·.data.toList) = Lib.splitK [32] 0 (Lib.countB (cutF s) ⟨#[32]⟩) (cutF s).data.toList := Lib.splitB_data _ _ _ _
  rw [ba_app, lineB_list, hw, join_split]
  have h2 : (cutF s).data.toList = (Lib.cut s.data.toList [10]).1 := by simp [cutF]
  have h3 : (cutR s).data.toList = (Lib.cut s.data.toList [10]).2.1 := by simp [cutR]
  rw [h2, h3]
  simpa using h1
theorem map_inj {l m : List ByteArray} (h : l.map (·.data.toList) = m.map (·.data.toList)) : l = m :=
  List.map_inj_right (fun _ _ e => ba_ext e) |>.1 h
theorem words_line {ws : List ByteArray} (hne : ws ≠ []) (h : ∀ w ∈ ws, (32 : UInt8) ∉ w.data.toList) : wordsV (joinB ws) = ws := by
  apply map_inj
  have hw : (wordsV (joinB ws)).map (·.data.toList) = Lib.splitK [32] 0 (Lib.countB (joinB ws) ⟨#[32]⟩) (joinB ws).data.toList := Lib.splitB_data _ _ _ _
  obtain ⟨h1, h2⟩ := split_join (ws.map (·.data.toList)) (by simpa using hne) (fun w hw => by
    obtain ⟨b, hb, rfl⟩ := List.mem_map.1 hw
    exact h b hb)
  have hc : Lib.countB (joinB ws) ⟨#[32]⟩ = (ws.map (·.data.toList)).length - 1 := by
    show Lib.count (joinB ws).data.toList [32] = _
    rw [Lib.count_one, joinB_list, h2]
  rw [hw, hc, joinB_list, h1]
end Go.Proofs.YthihpggjglghoaaGreatDoor

namespace Go.Proofs.YthihpggjglghoaaGreatDoor

theorem tl_inj {a b : ByteArray} (h : a.toList = b.toList) : a = b := by
  rw [ByteArray.toList_eq, ByteArray.toList_eq] at h
  exact ba_ext h
theorem numV_inv {s : ByteArray} {v : Int} (h : numV s = some v) : itoaB v = s := by
  unfold numV at h
  split at h
  · split at h
    · rename_i hq
      simp only [Option.some.injEq] at h
      subst h
      exact tl_inj (by simpa using hq)
    · cases h
  · cases h
theorem propsW_inv : ∀ (ws : List ByteArray) (l : List Pr), propsW ws = some l → ws = l.flatMap fun p => [p.nm, itoaB p.er]
  | [], l, h => by
    simp only [propsW, Option.some.injEq] at h
    subst h; rfl
  | [a], l, h => by simp [propsW] at h
  | a :: b :: r, l, h => by
    simp only [propsW] at h
    split at h
    · cases h
    · rename_i v hv
      rw [Option.map_eq_some_iff] at h
      obtain ⟨l', hl', rfl⟩ := h
      rw [propsW_inv r l' hl', ← numV_inv hv]
      simp
theorem spansW_inv : ∀ (ws : List ByteArray) (l : List (Int × Int)), spansW ws = some l → ws = l.flatMap fun r => [itoaB r.1, itoaB r.2]
  | [], l, h => by
    simp only [spansW, Option.some.injEq] at h
    subst h; rfl
  | [a], l, h => by simp [spansW] at h
  | a :: b :: r, l, h => by
    simp only [spansW] at h
    split at h
    · rename_i x y hx hy
      rw [Option.map_eq_some_iff] at h
      obtain ⟨l', hl', rfl⟩ := h
      rw [spansW_inv r l' hl', ← numV_inv hx, ← numV_inv hy]
      simp
    · cases h
theorem tstV_inv {s cr : ByteArray} {l : List Pr} {ws : List ByteArray} (h : tstV s = some (l, cr, ws)) : s = lineB (propW l) ++ cr := by
  unfold tstV at h
  split at h
  · rename_i hc
    have hl := line_of_cut hc
    generalize wordsV (cutF s) = wv at *
    cases wv with
    | nil => cases h
    | cons a r =>
      simp only [tstW] at h
      split at h
      · rename_i hq
        rw [Option.map_eq_some_iff] at h
        obtain ⟨l', hl', he⟩ := h
        simp only [Prod.mk.injEq] at he
        obtain ⟨rfl, rfl, rfl⟩ := he
        have ha : a = testsW := tl_inj (by simpa using hq)
        refine hl.trans ?_
        rw [propsW_inv r _ hl', ha]
        rfl
      · cases h
  · cases h
theorem purV_inv {s cr : ByteArray} {pu : Int} {ws : List ByteArray} (h : purV s = some (pu, cr, ws)) : s = lineB [⟨#[112, 117, 114, 101]⟩, itoaB pu] ++ cr := by
  unfold purV at h
  split at h
  · rename_i hc
    have hl := line_of_cut hc
    generalize wordsV (cutF s) = wv at *
    unfold purW at h
    split at h
    · rename_i a b
      split at h
      · rename_i hq
        rw [Option.map_eq_some_iff] at h
        obtain ⟨v, hv, he⟩ := h
        simp only [Prod.mk.injEq] at he
        obtain ⟨rfl, rfl, rfl⟩ := he
        have ha : a = pureW := tl_inj (by simpa using hq)
        rw [numV_inv hv]
        rw [ha] at hl
        exact hl
      · cases h
    · cases h
  · cases h
theorem kndV_inv {s cr : ByteArray} {x : ByteArray × List (Int × Int)} {ws : List ByteArray} (h : kndV s = some (x, cr, ws)) : s = lineB (kindW x.1 x.2) ++ cr := by
  unfold kndV at h
  split at h
  · rename_i hc
    have hl := line_of_cut hc
    generalize wordsV (cutF s) = wv at *
    cases wv with
    | nil => cases h
    | cons a r =>
      simp only [kndW] at h
      rw [Option.map_eq_some_iff] at h
      obtain ⟨l', hl', he⟩ := h
      simp only [Prod.mk.injEq] at he
      obtain ⟨rfl, rfl, rfl⟩ := he
      refine hl.trans ?_
      rw [spansW_inv r _ hl']
      rfl
  · cases h
/-- The lines of kinds. -/
def catK : List (ByteArray × List (Int × Int)) → ByteArray
  | [] => ⟨#[]⟩
  | k :: l => lineB (kindW k.1 k.2) ++ catK l
theorem kindsV_inv : ∀ (f : Nat) (s : ByteArray) (kl : List (ByteArray × List (Int × Int))), s.size < f → kindsV f s = some kl → s = catK kl
  | 0, s, kl, hf, _ => by omega
  | f + 1, s, kl, hf, h => by
    simp only [kindsV] at h
    split at h
    · rename_i hq
      simp only [Option.some.injEq] at h
      subst h
      exact tl_inj (show s.toList = ByteArray.toList ⟨#[]⟩ from by simpa using hq)
    · cases hkn : kndV s with
      | none => rw [hkn] at h; cases h
      | some y =>
        obtain ⟨x, r, ws⟩ := y
        rw [hkn] at h
        simp only [Option.map_eq_some_iff] at h
        obtain ⟨l', hl', rfl⟩ := h
        obtain ⟨_, _, hlt⟩ := kndV_some hkn
        have hi := kndV_inv hkn
        rw [kindsV_inv f r l' (by omega) hl'] at hi
        exact hi
theorem app_assoc (a b c : ByteArray) : a ++ b ++ c = a ++ (b ++ c) := ba_ext (by simp)
theorem app_nil (a : ByteArray) : a ++ ⟨#[]⟩ = a := ba_ext (by simp)
theorem fold_cat (ks : List Kd) : ∀ s : ByteArray, ks.foldl (fun s k => s ++ lineB (kindW k.nm k.rs)) s = s ++ catK (ks.map fun k => (k.nm, k.rs)) := by
  induction ks with
  | nil => intro s; exact (app_nil s).symm
  | cons k ks ih =>
    intro s
    rw [List.foldl_cons, ih, List.map_cons, catK, app_assoc]
theorem textV_eq (t : Tab) : textV t = lineB (propW t.ps) ++ (lineB [⟨#[112, 117, 114, 101]⟩, itoaB t.pu] ++ catK (t.ks.map fun k => (k.nm, k.rs))) := by
  unfold textV textK headV
  rw [fold_cat, app_assoc]
theorem rtV_inv {s : ByteArray} {x : List Pr × Int × List (ByteArray × List (Int × Int))} (h : rtV s = some x) : s = lineB (propW x.1) ++ (lineB [⟨#[112, 117, 114, 101]⟩, itoaB x.2.1] ++ catK x.2.2) := by
  unfold rtV at h
  cases h1 : tstV s with
  | none => rw [h1] at h; cases h
  | some y =>
    obtain ⟨l, cr, ws⟩ := y
    rw [h1] at h
    simp only at h
    cases h2 : purV cr with
    | none => rw [h2] at h; cases h
    | some z =>
      obtain ⟨pu, cr2, ws2⟩ := z
      rw [h2] at h
      simp only [Option.map_eq_some_iff] at h
      obtain ⟨kl, hkl, rfl⟩ := h
      have e1 := tstV_inv h1
      have e2 := purV_inv h2
      have e3 := kindsV_inv _ _ _ (Nat.lt_succ_self _) hkl
      rw [← e3, ← e2]
      exact e1
/-- Write of what Read returns is the text. -/
theorem read_write {s : ByteArray} {l : List Pr} {pu : Int} {ks : List Kd} (h : readV s = (some (l, pu, ks.map fun k => (k.nm, k.rs)), 0)) : writeV ⟨l, ks, pu⟩ = (s, 0) := by
  unfold readV at h
  split at h
  · cases h
  · split at h
    · cases h
    · rename_i x hx
      split at h
      · rename_i hc
        simp only [Prod.mk.injEq, Option.some.injEq, and_true] at h
        subst h
        rw [checkT_plain] at hc
        unfold writeV
        rw [if_neg (by rw [hc]; simp), textV_eq]
        exact Prod.ext (rtV_inv hx).symm rfl
      · cases h
end Go.Proofs.YthihpggjglghoaaGreatDoor

namespace Go.Proofs.YthihpggjglghoaaGreatDoor

theorem dd_digits (u : Nat) : ∀ c ∈ Lib.decDigits u, 48 ≤ c.toNat ∧ c.toNat ≤ 57 := by
  induction u using Nat.strongRecOn with
  | _ u ih =>
    intro c hc
    rw [Lib.decDigits] at hc
    split at hc
    · rename_i h
      simp only [List.mem_singleton] at hc
      subst hc
      rw [UInt8.toNat_ofNat_of_lt' (by show 48 + u < 256; omega)]
      omega
    · rename_i h
      rw [List.mem_append] at hc
      rcases hc with hc | hc
      · exact ih (u / 10) (by omega) c hc
      · simp only [List.mem_singleton] at hc
        subst hc
        rw [UInt8.toNat_ofNat_of_lt' (by show 48 + u % 10 < 256; omega)]
        omega
theorem parse_snoc (c : UInt8) : ∀ (l : List UInt8) (acc v : Nat), Lib.parseUint10 acc l = .ok v → Lib.parseUint10 acc (l ++ [c]) = Lib.parseUint10 v [c]
  | [], acc, v, h => by
    simp only [Lib.parseUint10, Lib.NumEnd.ok.injEq] at h
    subst h; rfl
  | x :: l, acc, v, h => by
    rw [List.cons_append]
    rw [Lib.parseUint10] at h ⊢
    split at h
    · rename_i h1
      split at h
      · cases h
      · rename_i h2
        split at h
        · cases h
        · rename_i h3
          rw [if_pos h1, if_neg h2, if_neg h3]
          exact parse_snoc c l _ v h
    · cases h
theorem dd_parse (u : Nat) : u < 1000000000000000000 → Lib.parseUint10 0 (Lib.decDigits u) = .ok u := by
  induction u using Nat.strongRecOn with
  | _ u ih =>
    intro hu
    rw [Lib.decDigits]
    split
    · rename_i h
      have hc : (UInt8.ofNat (48 + u)).toNat = 48 + u := UInt8.toNat_ofNat_of_lt' (by show 48 + u < 256; omega)
      rw [Lib.parseUint10, hc, if_pos (by omega), if_neg (by omega), if_neg (by omega), Lib.parseUint10]
      congr 1
      omega
    · rename_i h
      have hc : (UInt8.ofNat (48 + u % 10)).toNat = 48 + u % 10 := UInt8.toNat_ofNat_of_lt' (by show 48 + u % 10 < 256; omega)
      rw [parse_snoc _ _ _ _ (ih (u / 10) (by omega) (by omega)), Lib.parseUint10, hc, if_pos (by omega), if_neg (by omega), if_neg (by omega), Lib.parseUint10]
      congr 1
      omega
theorem dd_len : ∀ (k u : Nat), u < 10 ^ (k + 1) → (Lib.decDigits u).length ≤ k + 1
  | 0, u, h => by
    rw [Lib.decDigits, dif_pos (by simpa using h)]
    simp
  | k + 1, u, h => by
    rw [Lib.decDigits]
    split
    · simp
    · have := dd_len k (u / 10) (by rw [Nat.pow_succ] at h; omega)
      simp only [List.length_append, List.length_singleton]
      omega
theorem dd_ne (u : Nat) : Lib.decDigits u ≠ [] := by
  rw [Lib.decDigits]
  split <;> simp
theorem itoaB_list {n : Int} (h : 0 ≤ n) : (itoaB n).data.toList = Lib.decDigits n.toNat := by
  unfold itoaB Lib.itoa
  rw [if_neg (by omega)]
theorem numV_itoa {n : Int} (h : 0 ≤ n) (h2 : n ≤ 1000000) : numV (itoaB n) = some n := by
  have hl := itoaB_list h
  have ha : Lib.atoiAll (itoaB n).data.toList = .ok n := by
    rw [hl]
    cases hd : Lib.decDigits n.toNat with
    | nil => exact absurd hd (dd_ne _)
    | cons c r =>
      have hc := dd_digits n.toNat c (by rw [hd]; simp)
      unfold Lib.atoiAll
      simp only
      rw [if_neg (by omega)]
      have hp := dd_parse n.toNat (by omega)
      rw [hd] at hp
      unfold Lib.parseMag
      rw [if_neg (by simp), hp]
      simp only
      rw [if_neg (by omega), if_neg (by omega), if_neg (by omega)]
      congr 1
      omega
  unfold numV
  rw [ha]
  simp
theorem itoaB_no {n : Int} (h : 0 ≤ n) (c : UInt8) (hc : c.toNat < 48) : c ∉ (itoaB n).data.toList := by
  rw [itoaB_list h]
  intro hm
  have := dd_digits _ c hm
  omega
theorem itoaB_len {n : Int} (h : 0 ≤ n) (h2 : n ≤ 100000) : (itoaB n).data.toList.length ≤ 6 := by
  rw [itoaB_list h]
  exact dd_len 5 _ (by omega)
theorem rest_chars : ∀ (l : List UInt8) (b : Nat), nameRest b l = true → ∀ c ∈ l, c.toNat = 45 ∨ (97 ≤ c.toNat ∧ c.toNat ≤ 122)
  | [], _, _, c, hc => by simp at hc
  | x :: l, b, h, c, hc => by
    unfold nameRest at h
    rcases List.mem_cons.1 hc with rfl | hc
    · split at h
      · rename_i h1; exact .inr h1
      · split at h
        · rename_i h1; exact .inl h1.1
        · cases h
    · split at h
      · exact rest_chars l _ h c hc
      · split at h
        · exact rest_chars l _ h c hc
        · cases h
theorem name_no {s : ByteArray} (h : nameB s = true) (c : UInt8) (hc : c.toNat < 45) : c ∉ s.data.toList := by
  unfold nameB at h
  rw [Bool.and_eq_true] at h
  intro hm
  rcases rest_chars _ _ h.2 c hm with h1 | h1 <;> omega
theorem name_len {s : ByteArray} (h : nameB s = true) : s.data.toList.length ≤ 20 := by
  unfold nameB at h
  rw [Bool.and_eq_true, decide_eq_true_eq] at h
  have : s.data.toList.length = s.size := by simp
  omega
theorem propsW_all (l : List Pr) (h : ∀ p ∈ l, 0 ≤ p.er ∧ p.er ≤ 1000000) : propsW (l.flatMap fun p => [p.nm, itoaB p.er]) = some l := by
  induction l with
  | nil => rfl
  | cons p l ih =>
    have h0 := h p (by simp)
    simp only [List.flatMap_cons, List.cons_append, List.nil_append, propsW]
    rw [numV_itoa h0.1 h0.2, ih (fun q hq => h q (by simp [hq]))]
    rfl
theorem spansW_all (l : List (Int × Int)) (h : ∀ r ∈ l, (0 ≤ r.1 ∧ r.1 ≤ 1000000) ∧ (0 ≤ r.2 ∧ r.2 ≤ 1000000)) : spansW (l.flatMap fun r => [itoaB r.1, itoaB r.2]) = some l := by
  induction l with
  | nil => rfl
  | cons p l ih =>
    have h0 := h p (by simp)
    simp only [List.flatMap_cons, List.cons_append, List.nil_append, spansW]
    rw [numV_itoa h0.1.1 h0.1.2, numV_itoa h0.2.1 h0.2.2, ih (fun q hq => h q (by simp [hq]))]
    rfl
/-- A line is read as its words. -/
theorem line_read {ws : List ByteArray} (r : ByteArray) (hne : ws ≠ []) (h : ∀ w ∈ ws, (10 : UInt8) ∉ w.data.toList ∧ (32 : UInt8) ∉ w.data.toList) : cutB (lineB ws ++ r) = true ∧ wordsV (cutF (lineB ws ++ r)) = ws ∧ cutR (lineB ws ++ r) = r := by
  obtain ⟨h1, h2, h3⟩ := cut_line r (fun w hw => (h w hw).1) hne
  exact ⟨h3, by rw [h1]; exact words_line hne (fun w hw => (h w hw).2), h2⟩
theorem propW_words {t : Tab} (hv : Valid t) : ∀ w ∈ propW t.ps, (10 : UInt8) ∉ w.data.toList ∧ (32 : UInt8) ∉ w.data.toList := by
  intro w hw
  rcases List.mem_cons.1 hw with rfl | hw
  · exact ⟨by decide, by decide⟩
  · obtain ⟨p, hp, hw⟩ := List.mem_flatMap.1 hw
    simp only [List.mem_cons, List.not_mem_nil, or_false] at hw
    rcases hw with rfl | rfl
    · exact ⟨name_no (hv.pn p hp) _ (by decide), name_no (hv.pn p hp) _ (by decide)⟩
    · exact ⟨itoaB_no (hv.er p hp).1 _ (by decide), itoaB_no (hv.er p hp).1 _ (by decide)⟩
theorem kindW_words {t : Tab} (hv : Valid t) (k : Kd) (hk : k ∈ t.ks) : ∀ w ∈ kindW k.nm k.rs, (10 : UInt8) ∉ w.data.toList ∧ (32 : UInt8) ∉ w.data.toList := by
  intro w hw
  rcases List.mem_cons.1 hw with rfl | hw
  · exact ⟨name_no (hv.kn k hk) _ (by decide), name_no (hv.kn k hk) _ (by decide)⟩
  · obtain ⟨r, hr, hw⟩ := List.mem_flatMap.1 hw
    have hb := hv.rs k hk r hr
    simp only [List.mem_cons, List.not_mem_nil, or_false] at hw
    rcases hw with rfl | rfl
    · exact ⟨itoaB_no hb.1 _ (by decide), itoaB_no hb.1 _ (by decide)⟩
    · exact ⟨itoaB_no (by omega) _ (by decide), itoaB_no (by omega) _ (by decide)⟩
theorem tst_read {t : Tab} (hv : Valid t) (r : ByteArray) : tstV (lineB (propW t.ps) ++ r) = some (t.ps, r, []) := by
  obtain ⟨h1, h2, h3⟩ := line_read r (by simp [propW]) (propW_words hv)
  unfold tstV
  rw [if_pos h1, h2, h3]
  show tstW r (testsW :: _) = _
  rw [tstW, if_pos (by simp), propsW_all _ (fun p hp => by have := hv.er p hp; omega)]
  rfl
theorem pur_read {t : Tab} (hv : Valid t) (r : ByteArray) : purV (lineB [⟨#[112, 117, 114, 101]⟩, itoaB t.pu] ++ r) = some (t.pu, r, []) := by
  have hp := hv.pu
  obtain ⟨h1, h2, h3⟩ := line_read (ws := [⟨#[112, 117, 114, 101]⟩, itoaB t.pu]) r (by simp) (fun w hw => by
    simp only [List.mem_cons, List.not_mem_nil, or_false] at hw
    rcases hw with rfl | rfl
    · exact ⟨by decide, by decide⟩
    · exact ⟨itoaB_no (by omega) _ (by decide), itoaB_no (by omega) _ (by decide)⟩)
  unfold purV
  rw [if_pos h1, h2, h3]
  show purW r [pureW, itoaB t.pu] = _
  rw [purW, if_pos (by simp), numV_itoa (by omega) (by omega)]
  rfl
theorem knd_read {t : Tab} (hv : Valid t) (k : Kd) (hk : k ∈ t.ks) (r : ByteArray) : kndV (lineB (kindW k.nm k.rs) ++ r) = some ((k.nm, k.rs), r, []) := by
  obtain ⟨h1, h2, h3⟩ := line_read r (by simp [kindW]) (kindW_words hv k hk)
  unfold kndV
  rw [if_pos h1, h2, h3]
  show kndW r (k.nm :: _) = _
  rw [kndW, spansW_all _ (fun x hx => by have := hv.rs k hk x hx; omega)]
  rfl
theorem line_size (ws : List ByteArray) : 0 < (lineB ws).size := by
  have : (lineB ws).data.toList.length = (lineB ws).size := by simp
  rw [← this, lineB_list]
  simp
theorem kinds_read {t : Tab} (hv : Valid t) : ∀ (ks : List Kd), (∀ k ∈ ks, k ∈ t.ks) → ∀ f, (catK (ks.map fun k => (k.nm, k.rs))).size < f → kindsV f (catK (ks.map fun k => (k.nm, k.rs))) = some (ks.map fun k => (k.nm, k.rs))
  | [], _, f, hf => kindsV_end (by simp [catK])
  | k :: ks, h, f, hf => by
    simp only [List.map_cons, catK] at hf ⊢
    have hz := line_size (kindW k.nm k.rs)
    rw [ByteArray.size_append] at hf
    obtain ⟨g, rfl⟩ : ∃ g, f = g + 1 := ⟨f - 1, by omega⟩
    have hne : ((lineB (kindW k.nm k.rs) ++ catK (ks.map fun k => (k.nm, k.rs))).toList == ByteArray.toList ⟨#[]⟩) = false := by
      rw [beq_eq_false_iff_ne]
      intro e
      have e2 := congrArg ByteArray.size (tl_inj e)
      rw [ByteArray.size_append] at e2
      have e3 : ByteArray.size ⟨#[]⟩ = 0 := rfl
      omega
    rw [kindsV_step hne (knd_read hv k (h k (by simp)) _), kinds_read hv ks (fun x hx => h x (by simp [hx])) g (by omega)]
    rfl
theorem rt_read {t : Tab} (hv : Valid t) : rtV (textV t) = some (t.ps, t.pu, t.ks.map fun k => (k.nm, k.rs)) := by
  rw [textV_eq]
  unfold rtV
  rw [tst_read hv]
  simp only
  rw [pur_read hv]
  simp only
  rw [kinds_read hv t.ks (fun k hk => hk) _ (Nat.lt_succ_self _)]
  rfl
theorem lens_cons (x : List UInt8) (r : List (List UInt8)) : Lib.lens (x :: r) = x.length + Lib.lens r := by simp [Lib.lens]
theorem lens_nil : Lib.lens [] = 0 := rfl
theorem lens_two {α : Type} (f g : α → ByteArray) (K : Nat) : ∀ l : List α, (∀ x ∈ l, (f x).data.toList.length + (g x).data.toList.length ≤ K) → Lib.lens ((l.flatMap fun x => [f x, g x]).map (·.data.toList)) ≤ K * l.length
  | [], _ => by simp [lens_nil]
  | x :: l, h => by
    have h0 := h x (by simp)
    have h1 := lens_two f g K l (fun y hy => h y (by simp [hy]))
    simp only [List.flatMap_cons, List.cons_append, List.nil_append, List.map_cons, lens_cons, List.length_cons] at h1 ⊢
    rw [Nat.mul_add]
    omega
theorem text_size {t : Tab} (hv : Valid t) : (textV t).size ≤ 2000 := by
  have hp := hv.np
  have hk := hv.nk
  have e1 : (lineB (propW t.ps)).size ≤ 200 := by
    have hs : (lineB (propW t.ps)).data.toList.length = (lineB (propW t.ps)).size := by simp
    rw [← hs, lineB_list, propW, List.map_cons, List.length_append, Lib.join_length, List.length_map]
    have hl := lens_two (fun p : Pr => p.nm) (fun p => itoaB p.er) 26 t.ps (fun p hp => by
      have a := name_len (hv.pn p hp)
      have b := itoaB_len (hv.er p hp).1 (by have := (hv.er p hp).2; omega)
      omega)
    have hc := propW_len t.ps
    simp only [propW, List.length_cons] at hc
    simp only [lens_cons, List.length_singleton]
    have : 26 * t.ps.length ≤ 130 := by omega
    simp only [List.length_cons, List.length_nil] at hl hc ⊢
    omega
  have e2 : (lineB [⟨#[112, 117, 114, 101]⟩, itoaB t.pu]).size ≤ 20 := by
    have hs : (lineB [⟨#[112, 117, 114, 101]⟩, itoaB t.pu]).data.toList.length = (lineB [⟨#[112, 117, 114, 101]⟩, itoaB t.pu]).size := by simp
    rw [← hs, lineB_list, List.map_cons, List.length_append, Lib.join_length]
    have b := itoaB_len (n := t.pu) (by have := hv.pu; omega) (by have := hv.pu; omega)
    have h4 : (ByteArray.data ⟨#[112, 117, 114, 101]⟩).toList.length = 4 := rfl
    simp only [lens_cons, lens_nil, List.length_cons, List.length_nil, List.map_cons, List.map_nil]
    omega
  have e3 : ∀ ks : List Kd, (∀ k ∈ ks, k ∈ t.ks) → (catK (ks.map fun k => (k.nm, k.rs))).size ≤ 100 * ks.length := by
    intro ks
    induction ks with
    | nil => intro _; exact Nat.le_refl 0
    | cons k ks ih =>
      intro h
      have hi := ih (fun x hx => h x (by simp [hx]))
      have hkm := h k (by simp)
      have hrl := hv.rl k hkm
      have hs : (lineB (kindW k.nm k.rs)).data.toList.length = (lineB (kindW k.nm k.rs)).size := by simp
      have hl := lens_two (fun r : Int × Int => itoaB r.1) (fun r => itoaB r.2) 12 k.rs (fun r hr => by
        have hb := hv.rs k hkm r hr
        have a := itoaB_len (n := r.1) (by omega) (by omega)
        have b := itoaB_len (n := r.2) (by omega) (by omega)
        omega)
      have hn := name_len (hv.kn k hkm)
      have hc : (k.rs.flatMap fun r => [itoaB r.1, itoaB r.2]).length = 2 * k.rs.length := by
        have : ∀ l : List (Int × Int), (l.flatMap fun r => [itoaB r.1, itoaB r.2]).length = 2 * l.length := by
          intro l
          induction l with
          | nil => rfl
          | cons x r ih => rw [List.flatMap_cons, List.length_append, ih, List.length_cons]; simp; omega
        exact this _
      have hz : (lineB (kindW k.nm k.rs)).size ≤ 100 := by
        rw [← hs, lineB_list, kindW, List.map_cons, List.length_append, Lib.join_length, List.length_map]
        simp only [lens_cons, List.length_singleton]
        have : 12 * k.rs.length ≤ 60 := by omega
        omega
      simp only [List.map_cons, catK, List.length_cons]
      rw [ByteArray.size_append]
      omega
  have e4 := e3 t.ks (fun k hk => hk)
  rw [textV_eq, ByteArray.size_append, ByteArray.size_append]
  have : 100 * t.ks.length ≤ 800 := by omega
  omega
/-- Read of what Write returns is the table. -/
theorem write_read {t : Tab} (hc : (checkT t).2.2 = 0) : readV (textV t) = (some (t.ps, t.pu, t.ks.map fun k => (k.nm, k.rs)), 0) ∧ (textV t).size ≤ 2000 := by
  have hv := valid_of hc
  have hs := text_size hv
  refine ⟨?_, hs⟩
  unfold readV
  rw [if_neg (by omega), rt_read hv]
  simp only
  rw [checkT_plain, if_pos hc]
end Go.Proofs.YthihpggjglghoaaGreatDoor

namespace Go.Proofs.YthihpggjglghoaaGreatDoor

/-- A list parted at a byte. -/
def splitL (c : UInt8) : List UInt8 → List (List UInt8)
  | [] => [[]]
  | x :: l => if x = c then [] :: splitL c l else match splitL c l with
    | [] => []
    | h :: r => (x :: h) :: r
theorem splitL_no {c : UInt8} : ∀ l : List UInt8, c ∉ l → splitL c l = [l]
  | [], _ => rfl
  | x :: l, h => by
    have h1 : x ≠ c := fun e => h (by simp [e])
    rw [splitL, if_neg h1, splitL_no l (fun e => h (by simp [e]))]
theorem splitL_at {c : UInt8} (b : List UInt8) : ∀ a : List UInt8, c ∉ a → splitL c (a ++ c :: b) = a :: splitL c b
  | [], _ => by rw [List.nil_append, splitL, if_pos rfl]
  | x :: a, h => by
    have h1 : x ≠ c := fun e => h (by simp [e])
    rw [List.cons_append, splitL, if_neg h1, splitL_at b a (fun e => h (by simp [e]))]

/-- The parts that end before a byte, and where the next one begins. -/
def partsB (c : UInt8) (s : ByteArray) : Nat → List ByteArray × Nat
  | 0 => ([], 0)
  | i + 1 => if s.data[i]? = some c then ((partsB c s i).1 ++ [s.extract (partsB c s i).2 i], i + 1) else partsB c s i
/-- A string parted at a byte. -/
def splitV (c : UInt8) (s : ByteArray) : List ByteArray := (partsB c s s.size).1 ++ [s.extract (partsB c s s.size).2 s.size]
theorem ext_list (s : ByteArray) (a b : Nat) : (s.extract a b).data.toList = (s.data.toList.drop a).take (b - a) := by
  simp [ByteArray.data_extract, Array.toList_extract, List.extract_eq_take_drop]
theorem parts_inv (c : UInt8) (s : ByteArray) : ∀ i, i ≤ s.size → (partsB c s i).2 ≤ i ∧ splitL c s.data.toList = (partsB c s i).1.map (·.data.toList) ++ splitL c (s.data.toList.drop (partsB c s i).2) ∧ c ∉ (s.data.toList.drop (partsB c s i).2).take (i - (partsB c s i).2)
  | 0, _ => by simp [partsB]
  | i + 1, h => by
    obtain ⟨h1, h2, h3⟩ := parts_inv c s i (by omega)
    have hlen : s.data.toList.length = s.size := by simp
    have hg : s.data.toList[i]? = s.data[i]? := by simp
    obtain ⟨x, hx⟩ : ∃ x, s.data.toList[i]? = some x := ⟨_, List.getElem?_eq_getElem (by omega)⟩
    rw [partsB]
    generalize partsB c s i = p at *
    obtain ⟨o, b⟩ := p
    dsimp only at *
    have hdd : s.data.toList.drop i = x :: s.data.toList.drop (i + 1) := by
      obtain ⟨hlt, he⟩ := List.getElem?_eq_some_iff.1 hx
      rw [List.drop_eq_getElem_cons hlt, he]
    have hd : s.data.toList.drop b = (s.data.toList.drop b).take (i - b) ++ x :: s.data.toList.drop (i + 1) := by
      rw [← hdd]
      have h4 : s.data.toList.drop i = (s.data.toList.drop b).drop (i - b) := by rw [List.drop_drop]; congr 1; omega
      rw [h4, List.take_append_drop]
    by_cases hc : s.data[i]? = some c
    · rw [if_pos hc]
      obtain rfl : x = c := by rw [hg, hc] at hx; exact (Option.some.inj hx).symm
      refine ⟨Nat.le_refl _, ?_, by simp⟩
      rw [h2]
      conv => lhs; rw [hd]
      rw [splitL_at _ _ h3, List.map_append, List.map_cons, List.map_nil, ext_list, List.append_assoc]
      rfl
    · rw [if_neg hc]
      refine ⟨by omega, h2, ?_⟩
      have hxc : x ≠ c := fun e => hc (by rw [← hg, hx, e])
      dsimp only
      rw [hd, List.take_append]
      intro hm
      rcases List.mem_append.1 hm with hm | hm
      · rw [List.take_take] at hm
        refine h3 ?_
        have : min (i + 1 - b) (i - b) = i - b := by omega
        rwa [this] at hm
      · have hl : ((s.data.toList.drop b).take (i - b)).length = i - b := by rw [List.length_take, List.length_drop, hlen]; omega
        rw [hl, show i + 1 - b - (i - b) = 1 by omega] at hm
        simp at hm
        exact hxc hm.symm
theorem splitV_list (c : UInt8) (s : ByteArray) : (splitV c s).map (·.data.toList) = splitL c s.data.toList := by
  obtain ⟨h1, h2, h3⟩ := parts_inv c s s.size (Nat.le_refl _)
  have hlen : s.data.toList.length = s.size := by simp
  unfold splitV
  rw [List.map_append, h2, List.map_cons, List.map_nil, ext_list]
  rw [List.take_of_length_le (by rw [List.length_drop, hlen]; exact Nat.le_refl _)] at h3 ⊢
  rw [splitL_no _ h3]
theorem splitV_at {c : UInt8} {a b s : ByteArray} (hs : s.data.toList = a.data.toList ++ c :: b.data.toList) (h : c ∉ a.data.toList) : splitV c s = a :: splitV c b := by
  apply map_inj
  rw [splitV_list, hs, splitL_at _ _ h, List.map_cons, splitV_list]
theorem splitV_no {c : UInt8} {a : ByteArray} (h : c ∉ a.data.toList) : splitV c a = [a] := by
  apply map_inj
  rw [splitV_list, splitL_no _ h]
  rfl
theorem partsB_len (c : UInt8) (s : ByteArray) : ∀ i, (partsB c s i).1.length ≤ i
  | 0 => by simp [partsB]
  | i + 1 => by
    have := partsB_len c s i
    rw [partsB]
    split
    · simp; omega
    · omega
theorem splitV_len (c : UInt8) (s : ByteArray) : 1 ≤ (splitV c s).length ∧ (splitV c s).length ≤ s.size + 1 := by
  have := partsB_len c s s.size
  unfold splitV
  simp
  omega
theorem ext_size (s : ByteArray) (a b : Nat) : (s.extract a b).size ≤ s.size := by
  rw [ByteArray.size_extract]; omega
theorem partsB_small (c : UInt8) (s : ByteArray) : ∀ i, ∀ x ∈ (partsB c s i).1, x.size ≤ s.size
  | 0, x, h => by simp [partsB] at h
  | i + 1, x, h => by
    rw [partsB] at h
    split at h
    · rcases List.mem_append.1 h with h | h
      · exact partsB_small c s i x h
      · rw [List.mem_singleton] at h
        subst h
        exact ext_size _ _ _
    · exact partsB_small c s i x h
theorem splitV_small (c : UInt8) (s : ByteArray) : ∀ x ∈ splitV c s, x.size ≤ s.size := by
  intro x h
  unfold splitV at h
  rcases List.mem_append.1 h with h | h
  · exact partsB_small c s _ x h
  · rw [List.mem_singleton] at h
    subst h
    exact ext_size _ _ _
/-- The words of a line. -/
theorem words_back : ∀ (ws : List ByteArray), ws ≠ [] → (∀ w ∈ ws, (32 : UInt8) ∉ w.data.toList) → splitV 32 (joinB ws) = ws
  | [], h, _ => absurd rfl h
  | [w], _, h => by
    have e : joinB [w] = w := ba_ext (by rw [joinB_list]; simp [Lib.join_one])
    rw [e]
    exact splitV_no (h w (by simp))
  | w :: v :: r, _, h => by
    have hj : (joinB (w :: v :: r)).data.toList = w.data.toList ++ 32 :: (joinB (v :: r)).data.toList := by
      rw [joinB_list, joinB_list, List.map_cons, List.map_cons, Lib.join_cons, Lib.join_cons]
      simp [Lib.joinTail]
    rw [splitV_at hj (h w (by simp)), words_back (v :: r) (by simp) (fun x hx => h x (by simp [hx]))]
theorem join_no {c : UInt8} (hc : c ≠ 32) {ws : List ByteArray} (h : ∀ w ∈ ws, c ∉ w.data.toList) : c ∉ (joinB ws).data.toList := by
  rw [joinB_list]
  intro hm
  induction ws with
  | nil => simp [Lib.join_nil] at hm
  | cons w ws ih =>
    rw [List.map_cons, Lib.join_cons] at hm
    simp only [Lib.joinTail, List.mem_append, List.mem_flatten, List.mem_map] at hm
    rcases hm with hm | ⟨l, ⟨v, ⟨b, hb, rfl⟩, rfl⟩, hm⟩
    · exact h w (by simp) hm
    · simp only [List.mem_append, List.mem_singleton] at hm
      rcases hm with hm | hm
      · exact hc hm
      · exact h b (by simp [hb]) hm
theorem line_back {ws : List ByteArray} (r : ByteArray) (h : ∀ w ∈ ws, (10 : UInt8) ∉ w.data.toList) : splitV 10 (lineB ws ++ r) = joinB ws :: splitV 10 r :=
  splitV_at (by rw [ba_app, lineB_list, joinB_list]; simp) (join_no (by decide) h)

/-- A number of at most six digits; -1: it is none. -/
def digB (c : UInt8) : Bool := decide (48 ≤ c.toNat ∧ c.toNat ≤ 57)
def digsV (l : List UInt8) : Nat := l.foldl (fun n c => 10 * n + (c.toNat - 48)) 0
def numR (s : ByteArray) : Int := if 1 ≤ s.size ∧ s.size ≤ 6 ∧ s.data.toList.all digB = true then (digsV s.data.toList : Nat) else -1
theorem digs_dd (u : Nat) : digsV (Lib.decDigits u) = u := by
  induction u using Nat.strongRecOn with
  | _ u ih =>
    rw [Lib.decDigits]
    split
    · rename_i h
      have hc : (UInt8.ofNat (48 + u)).toNat = 48 + u := UInt8.toNat_ofNat_of_lt' (by show 48 + u < 256; omega)
      unfold digsV
      simp only [List.foldl_cons, List.foldl_nil, hc]
      omega
    · rename_i h
      have hc : (UInt8.ofNat (48 + u % 10)).toNat = 48 + u % 10 := UInt8.toNat_ofNat_of_lt' (by show 48 + u % 10 < 256; omega)
      have hi := ih (u / 10) (by omega)
      unfold digsV at *
      rw [List.foldl_append, hi]
      simp only [List.foldl_cons, List.foldl_nil, hc]
      omega
theorem numR_itoa {n : Int} (h : 0 ≤ n) (h2 : n ≤ 100000) : numR (itoaB n) = n := by
  have hl := itoaB_list h
  have hs : (itoaB n).data.toList.length = (itoaB n).size := by simp
  have h6 := itoaB_len h h2
  have h1 : (itoaB n).data.toList.length ≠ 0 := by
    rw [hl]
    intro e
    exact dd_ne _ (List.eq_nil_of_length_eq_zero e)
  unfold numR
  rw [if_pos, hl, digs_dd]
  · omega
  · refine ⟨by omega, by omega, ?_⟩
    rw [hl, List.all_eq_true]
    intro c hc
    exact decide_eq_true (dd_digits _ c hc)
theorem digs_lt : ∀ (k : Nat) (l : List UInt8), l.length ≤ k → l.all digB = true → digsV l < 10 ^ l.length := by
  intro k l _ h
  have key : ∀ (l : List UInt8) (n : Nat), l.all digB = true → l.foldl (fun n c => 10 * n + (c.toNat - 48)) n + 1 ≤ 10 ^ l.length * (n + 1) := by
    intro l
    induction l with
    | nil => intro n _; simp
    | cons c l ih =>
      intro n h
      simp only [List.all_cons, Bool.and_eq_true] at h
      have hc := of_decide_eq_true h.1
      have h2 := ih (10 * n + (c.toNat - 48)) h.2
      rw [List.foldl_cons, List.length_cons, Nat.pow_succ]
      refine Nat.le_trans h2 ?_
      rw [Nat.mul_assoc]
      exact Nat.mul_le_mul_left _ (by omega)
  have := key l 0 h
  unfold digsV
  omega
theorem numR_bd (s : ByteArray) : -1 ≤ numR s ∧ numR s ≤ 999999 := by
  unfold numR
  split
  · rename_i h
    have h1 := digs_lt _ s.data.toList (Nat.le_refl _) h.2.2
    have hs : s.data.toList.length = s.size := by simp
    have h2 : (10 : Nat) ^ s.data.toList.length ≤ 10 ^ 6 := Nat.pow_le_pow_right (by omega) (by omega)
    omega
  · omega

/-- The words of a row; how many pairs follow the first one; a table as far as it goes. -/
def wordsAt (R : List ByteArray) (i : Nat) : List ByteArray := splitV 32 ((R[i]?).getD ⟨#[]⟩)
def cntW (w : List ByteArray) : Nat := (w.length - 1) / 2
def wordW (w : List ByteArray) (i : Nat) : ByteArray := (w[i]?).getD ⟨#[]⟩
def prsW (w : List ByteArray) : Nat → List Pr
  | 0 => []
  | j + 1 => prsW w j ++ [⟨wordW w (2 * j + 1), numR (wordW w (2 * j + 2))⟩]
def spsW (w : List ByteArray) : Nat → List (Int × Int)
  | 0 => []
  | j + 1 => spsW w j ++ [(numR (wordW w (2 * j + 1)), numR (wordW w (2 * j + 2)))]
theorem prsW_len (w : List ByteArray) : ∀ j, (prsW w j).length = j
  | 0 => rfl
  | j + 1 => by rw [prsW, List.length_append, prsW_len w j]; rfl
theorem spsW_len (w : List ByteArray) : ∀ j, (spsW w j).length = j
  | 0 => rfl
  | j + 1 => by rw [spsW, List.length_append, spsW_len w j]; rfl
def psR (R : List ByteArray) (i : Nat) : List Pr := if i = 0 then [] else prsW (wordsAt R 0) (cntW (wordsAt R 0))
def puR (R : List ByteArray) (i : Nat) : Int := if i ≤ 1 then 0 else if (wordsAt R 1).length = 2 then numR (wordW (wordsAt R 1) 1) else 0
def ksR (R : List ByteArray) : Nat → List (ByteArray × List (Int × Int))
  | 0 => []
  | i + 1 => if i ≤ 1 then [] else ksR R i ++ [(wordW (wordsAt R i) 0, spsW (wordsAt R i) (cntW (wordsAt R i)))]
theorem ksR_len (R : List ByteArray) : ∀ i, (ksR R i).length = i - 2
  | 0 => rfl
  | i + 1 => by
    rw [ksR]
    split
    · simp; omega
    · rw [List.length_append, ksR_len R i]; simp; omega
/-- What a text looks like. -/
def parsedV (s : ByteArray) : List Pr × Int × List (ByteArray × List (Int × Int)) :=
  (psR (splitV 10 s) ((splitV 10 s).length - 1), puR (splitV 10 s) ((splitV 10 s).length - 1), ksR (splitV 10 s) ((splitV 10 s).length - 1))
/-- What the reference's Read returns. -/
def readR (s : ByteArray) : Option (List Pr × Int × List (ByteArray × List (Int × Int))) × Int :=
  if 2000 < s.size then (none, 3) else if (checkT (plainT (parsedV s))).2.2 = 0 ∧ textV (plainT (parsedV s)) = s then (some (parsedV s), 0) else (none, 6)

theorem flat_twoB {α : Type} (f g : α → ByteArray) : ∀ (l : List α) (i : Nat) (x : α), l[i]? = some x → (l.flatMap fun x => [f x, g x])[i * 2]? = some (f x) ∧ (l.flatMap fun x => [f x, g x])[i * 2 + 1]? = some (g x)
  | [], i, x, h => by simp at h
  | y :: l, 0, x, h => by simp at h; subst h; simp
  | y :: l, i + 1, x, h => by
    have := flat_twoB f g l i x (by simpa using h)
    simp only [List.flatMap_cons, List.cons_append, List.nil_append]
    rw [show (i + 1) * 2 = i * 2 + 1 + 1 by omega, show i * 2 + 1 + 1 + 1 = (i * 2 + 1) + 1 + 1 by omega]
    simpa using this
theorem prsW_flat (h : ByteArray) (l : List Pr) (hl : ∀ p ∈ l, 0 ≤ p.er ∧ p.er ≤ 100000) : ∀ j, j ≤ l.length → prsW (h :: l.flatMap fun p => [p.nm, itoaB p.er]) j = l.take j
  | 0, _ => by simp [prsW]
  | j + 1, hj => by
    obtain ⟨p, hp⟩ : ∃ p, l[j]? = some p := ⟨_, List.getElem?_eq_getElem (by omega)⟩
    obtain ⟨h1, h2⟩ := flat_twoB (fun p : Pr => p.nm) (fun p => itoaB p.er) l j p hp
    have hb := hl p (List.mem_of_getElem? hp)
    rw [prsW, prsW_flat h l hl j (by omega)]
    unfold wordW
    rw [show 2 * j + 1 = j * 2 + 1 by omega, show 2 * j + 2 = (j * 2 + 1) + 1 by omega, List.getElem?_cons_succ, List.getElem?_cons_succ, h1, h2]
    simp only [Option.getD_some]
    rw [numR_itoa hb.1 hb.2, List.take_add_one, hp]
    rfl
theorem spsW_flat (h : ByteArray) (l : List (Int × Int)) (hl : ∀ p ∈ l, (0 ≤ p.1 ∧ p.1 ≤ 100000) ∧ 0 ≤ p.2 ∧ p.2 ≤ 100000) : ∀ j, j ≤ l.length → spsW (h :: l.flatMap fun r => [itoaB r.1, itoaB r.2]) j = l.take j
  | 0, _ => by simp [spsW]
  | j + 1, hj => by
    obtain ⟨p, hp⟩ : ∃ p, l[j]? = some p := ⟨_, List.getElem?_eq_getElem (by omega)⟩
    obtain ⟨h1, h2⟩ := flat_twoB (fun r : Int × Int => itoaB r.1) (fun r => itoaB r.2) l j p hp
    have hb := hl p (List.mem_of_getElem? hp)
    rw [spsW, spsW_flat h l hl j (by omega)]
    unfold wordW
    rw [show 2 * j + 1 = j * 2 + 1 by omega, show 2 * j + 2 = (j * 2 + 1) + 1 by omega, List.getElem?_cons_succ, List.getElem?_cons_succ, h1, h2]
    simp only [Option.getD_some]
    rw [numR_itoa hb.1.1 hb.1.2, numR_itoa hb.2.1 hb.2.2, List.take_add_one, hp]
    rfl
theorem flat_len {α : Type} (f g : α → ByteArray) : ∀ l : List α, (l.flatMap fun x => [f x, g x]).length = 2 * l.length
  | [] => rfl
  | x :: l => by rw [List.flatMap_cons, List.length_append, flat_len f g l, List.length_cons]; simp; omega
theorem catK_rows {t : Tab} (hv : Valid t) : ∀ ks : List Kd, (∀ k ∈ ks, k ∈ t.ks) → splitV 10 (catK (ks.map fun k => (k.nm, k.rs))) = (ks.map fun k => joinB (kindW k.nm k.rs)) ++ [⟨#[]⟩]
  | [], _ => splitV_no (by simp [catK])
  | k :: ks, h => by
    rw [List.map_cons, catK, line_back _ (fun w hw => (kindW_words hv k (h k (by simp)) w hw).1), catK_rows hv ks (fun x hx => h x (by simp [hx]))]
    rfl
theorem rows_text {t : Tab} (hv : Valid t) : splitV 10 (textV t) = joinB (propW t.ps) :: joinB [⟨#[112, 117, 114, 101]⟩, itoaB t.pu] :: ((t.ks.map fun k => joinB (kindW k.nm k.rs)) ++ [⟨#[]⟩]) := by
  have hp := hv.pu
  rw [textV_eq, line_back _ (fun w hw => (propW_words hv w hw).1), line_back _ (fun w hw => by
    simp only [List.mem_cons, List.not_mem_nil, or_false] at hw
    rcases hw with rfl | rfl
    · decide
    · exact itoaB_no (by omega) _ (by decide)), catK_rows hv t.ks (fun k hk => hk)]
theorem ksR_text {t : Tab} (hv : Valid t) (R : List ByteArray) (hR : R = joinB (propW t.ps) :: joinB [⟨#[112, 117, 114, 101]⟩, itoaB t.pu] :: ((t.ks.map fun k => joinB (kindW k.nm k.rs)) ++ [⟨#[]⟩])) :
    ∀ j, j ≤ t.ks.length → ksR R (2 + j) = (t.ks.take j).map fun k => (k.nm, k.rs)
  | 0, _ => by simp [ksR]
  | j + 1, hj => by
    obtain ⟨k, hk⟩ : ∃ k, t.ks[j]? = some k := ⟨_, List.getElem?_eq_getElem (by omega)⟩
    have hkm := List.mem_of_getElem? hk
    have hrow : R[2 + j]? = some (joinB (kindW k.nm k.rs)) := by
      rw [hR, show 2 + j = (j + 1) + 1 by omega, List.getElem?_cons_succ, List.getElem?_cons_succ, List.getElem?_append_left (by simpa using (List.getElem?_eq_some_iff.1 hk).1), List.getElem?_map, hk]
      rfl
    have hw : wordsAt R (2 + j) = kindW k.nm k.rs := by
      unfold wordsAt
      rw [hrow]
      exact words_back _ (by simp [kindW]) (fun w hw => (kindW_words hv k hkm w hw).2)
    rw [show 2 + (j + 1) = (2 + j) + 1 by omega, ksR, if_neg (by omega), ksR_text hv R hR j (by omega), hw]
    have hc : cntW (kindW k.nm k.rs) = k.rs.length := by
      unfold cntW kindW
      rw [List.length_cons, flat_len (fun r : Int × Int => itoaB r.1) (fun r => itoaB r.2)]
      omega
    rw [hc]
    unfold kindW
    rw [spsW_flat k.nm k.rs (fun r hr => by have := hv.rs k hkm r hr; omega) _ (Nat.le_refl _), List.take_of_length_le (Nat.le_refl _), List.take_add_one, hk, List.map_append]
    rfl
/-- The text of a table looks like it. -/
theorem parsed_text {t : Tab} (hv : Valid t) : parsedV (textV t) = (t.ps, t.pu, t.ks.map fun k => (k.nm, k.rs)) := by
  have hpu := hv.pu
  unfold parsedV
  have hR := rows_text hv
  generalize splitV 10 (textV t) = R at *
  have hlen : R.length - 1 = 2 + t.ks.length := by rw [hR]; simp; omega
  rw [hlen]
  have hw0 : wordsAt R 0 = propW t.ps := by
    unfold wordsAt
    rw [hR]
    exact words_back _ (by simp [propW]) (fun w hw => (propW_words hv w hw).2)
  have hw1 : wordsAt R 1 = [⟨#[112, 117, 114, 101]⟩, itoaB t.pu] := by
    unfold wordsAt
    rw [hR]
    exact words_back _ (by simp) (fun w hw => by
      simp only [List.mem_cons, List.not_mem_nil, or_false] at hw
      rcases hw with rfl | rfl
      · decide
      · exact itoaB_no (by omega) _ (by decide))
  have hc : cntW (propW t.ps) = t.ps.length := by
    unfold cntW propW
    rw [List.length_cons, flat_len (fun p : Pr => p.nm) (fun p => itoaB p.er)]
    omega
  refine Prod.ext ?_ (Prod.ext ?_ ?_)
  · show psR R _ = _
    unfold psR
    rw [if_neg (by omega), hw0, hc]
    unfold propW
    rw [prsW_flat _ t.ps (fun p hp => by have := hv.er p hp; omega) _ (Nat.le_refl _), List.take_of_length_le (Nat.le_refl _)]
  · show puR R _ = _
    unfold puR
    rw [if_neg (by omega), hw1, if_pos (by rfl)]
    exact numR_itoa (by omega) (by omega)
  · show ksR R _ = _
    rw [ksR_text hv R hR _ (Nat.le_refl _), List.take_of_length_le (Nat.le_refl _)]
theorem plainT_text (x : List Pr × Int × List (ByteArray × List (Int × Int))) : (plainT x).ps = x.1 ∧ (plainT x).pu = x.2.1 ∧ ((plainT x).ks.map fun k => (k.nm, k.rs)) = x.2.2 := by
  refine ⟨rfl, rfl, ?_⟩
  unfold plainT
  simp [List.map_map, Function.comp_def]
/-- Both readers agree. -/
theorem readR_eq (s : ByteArray) : readR s = readV s := by
  cases hR : readV s with
  | mk X n =>
    cases X with
    | some x =>
      have hn : n = 0 ∧ ¬ 2000 < s.size ∧ (checkT (plainT x)).2.2 = 0 := by
        unfold readV at hR
        split at hR
        · simp at hR
        · rename_i h1
          split at hR
          · simp at hR
          · split at hR
            · rename_i h2
              simp only [Prod.mk.injEq, Option.some.injEq] at hR
              obtain ⟨rfl, rfl⟩ := hR
              exact ⟨rfl, h1, h2⟩
            · simp at hR
      obtain ⟨rfl, h1, h2⟩ := hn
      have h3 := read_write (l := (plainT x).ps) (pu := (plainT x).pu) (ks := (plainT x).ks) (s := s) (by
        rw [hR, (plainT_text x).1, (plainT_text x).2.1, (plainT_text x).2.2])
      have h4 : textV (plainT x) = s := by
        have h5 : writeV (plainT x) = (s, 0) := h3
        unfold writeV at h5
        rw [if_neg (by simpa using h2)] at h5
        exact congrArg Prod.fst h5
      have h5 : parsedV s = x := by
        have := parsed_text (valid_of h2)
        rw [h4] at this
        rw [this, (plainT_text x).1, (plainT_text x).2.1, (plainT_text x).2.2]
      unfold readR
      rw [if_neg h1, h5, if_pos ⟨h2, h4⟩]
    | none =>
      unfold readR
      by_cases h1 : 2000 < s.size
      · rw [if_pos h1]
        unfold readV at hR
        rw [if_pos h1] at hR
        exact hR
      · rw [if_neg h1]
        have hn : n = 6 := by
          unfold readV at hR
          rw [if_neg h1] at hR
          split at hR
          · exact (congrArg Prod.snd hR).symm
          · split at hR
            · simp at hR
            · exact (congrArg Prod.snd hR).symm
        rw [if_neg, hn]
        rintro ⟨h2, h3⟩
        have h4 := (write_read h2).1
        rw [h3, hR] at h4
        simp at h4
end Go.Proofs.YthihpggjglghoaaGreatDoor

namespace Go.Proofs.YthihpggjglghoaaGreatDoor
open Go.RowKit Go.Shelf

def inB (n lo hi : Int) : Bool := decide (lo ≤ n) && decide (n ≤ hi)
theorem inB_t {n lo hi : Int} (h1 : lo ≤ n) (h2 : n ≤ hi) : inB n lo hi = true := by simp [inB, h1, h2]
theorem inB_f {n lo hi : Int} (h : ¬ (lo ≤ n ∧ n ≤ hi)) : inB n lo hi = false := by
  unfold inB
  rw [Bool.and_eq_false_iff, decide_eq_false_iff_not, decide_eq_false_iff_not]
  omega
theorem inB_iff {n lo hi : Int} : inB n lo hi = true ↔ (lo ≤ n ∧ n ≤ hi) := by
  unfold inB
  rw [Bool.and_eq_true, decide_eq_true_eq, decide_eq_true_eq]
theorem rin_any (n lo hi : Int) (w : World) :
    Calls Tryz.prog 34 #[.int .i64 n, .int .i64 lo, .int .i64 hi] w fun e w' => e = .returned (.bool (inB n lo hi)) ∧ w' = w := by
  by_cases h1 : lo ≤ n
  · by_cases h2 : n ≤ hi
    · have H := Lib.hid (inB_t h1 h2)
      go_enter Tryz.func34, Tryz.ntmps34
      go_wp2
      go_ret
      exact ⟨ret_bool H.out.symm, rfl⟩
    · have H := Lib.hid (inB_f (n := n) (lo := lo) (hi := hi) (by omega))
      go_enter Tryz.func34, Tryz.ntmps34
      go_wp2
      go_ret
      exact ⟨ret_bool H.out.symm, rfl⟩
  · have H := Lib.hid (inB_f (n := n) (lo := lo) (hi := hi) (by omega))
    go_enter Tryz.func34, Tryz.ntmps34
    go_wp2
    go_ret
    exact ⟨ret_bool H.out.symm, rfl⟩

theorem nameRest_last : ∀ (l : List UInt8) (b : Nat), nameRest b l = true → ∀ x, l.getLast? = some x → x.toNat ≠ 45
  | [], _, _, x, hx => by simp at hx
  | [c], b, h, x, hx => by
    simp at hx
    subst hx
    intro e
    simp [nameRest, e] at h
  | c :: d :: l, b, h, x, hx => by
    rw [List.getLast?_cons_cons] at hx
    unfold nameRest at h
    split at h
    · exact nameRest_last (d :: l) _ h x hx
    · split at h
      · exact nameRest_last (d :: l) _ h x hx
      · cases h
/-- The byte before place k; a hyphen before the first one. -/
def befAt (s : ByteArray) (k : Nat) : Nat := if k = 0 then 45 else ((s.data.toList[k - 1]?).map UInt8.toNat).getD 45
theorem rest_step {s : ByteArray} {k : Nat} (h : k < s.size) : nameRest (befAt s k) (s.data.toList.drop k) = (if 97 ≤ (s[k]'h).toNat ∧ (s[k]'h).toNat ≤ 122 then nameRest (befAt s (k + 1)) (s.data.toList.drop (k + 1)) else if (s[k]'h).toNat = 45 ∧ befAt s k ≠ 45 then nameRest (befAt s (k + 1)) (s.data.toList.drop (k + 1)) else false) := by
  have hb : befAt s (k + 1) = (s[k]'h).toNat := by
    unfold befAt
    rw [if_neg (by omega), Nat.add_sub_cancel, List.getElem?_eq_getElem (by simpa using h)]
    rfl
  rw [drop_cons s k h, nameRest, hb]
  split
  · rfl
  · split
    · rename_i h2; rw [h2.1]
    · rfl
theorem bef_succ {s : ByteArray} {k : Nat} (h : k < s.size) : befAt s (k + 1) = (s[k]'h).toNat := by
  unfold befAt
  rw [if_neg (by omega), Nat.add_sub_cancel, List.getElem?_eq_getElem (by simpa using h)]
  rfl
theorem rest_end {s : ByteArray} (h : 0 < s.size) (hl : (s[s.size - 1]'(by omega)).toNat ≠ 45) : nameRest (befAt s s.size) (s.data.toList.drop s.size) = true := by
  have h1 := bef_succ (s := s) (k := s.size - 1) (by omega)
  rw [show s.size - 1 + 1 = s.size by omega] at h1
  rw [List.drop_of_length_le (by simp), nameRest, h1]
  simpa using hl
theorem nameB_len {s : ByteArray} (h : ¬ (1 ≤ s.size ∧ s.size ≤ 20)) : nameB s = false := by
  unfold nameB
  by_cases h2 : s.size ≤ 20
  · have h0 : s.data.toList = [] := by
      apply List.eq_nil_of_length_eq_zero
      have : s.data.toList.length = s.size := by simp
      omega
    rw [h0]
    simp [nameRest]
  · simp [h2]
theorem nameB_first {s : ByteArray} (h : 0 < s.size) (h0 : (s[0]'h).toNat = 45) : nameB s = false := by
  unfold nameB
  have hd := drop_cons s 0 h
  rw [List.drop_zero] at hd
  rw [hd, nameRest, if_neg (by omega), if_neg (by simp)]
  simp
theorem nameB_last {s : ByteArray} (h : 0 < s.size) (h0 : (s[s.size - 1]'(by omega)).toNat = 45) : nameB s = false := by
  unfold nameB
  rw [Bool.and_eq_false_iff]
  right
  cases hn : nameRest 45 s.data.toList with
  | false => rfl
  | true =>
    refine absurd h0 (nameRest_last _ _ hn _ ?_)
    rw [List.getLast?_eq_getElem?, List.getElem?_eq_getElem (by simp; omega)]
    simp
    rfl
theorem nameB_rest {s : ByteArray} (h2 : s.size ≤ 20) : nameB s = nameRest (befAt s 0) (s.data.toList.drop 0) := by
  unfold nameB
  rw [List.drop_zero]
  simp [h2, befAt]
end Go.Proofs.YthihpggjglghoaaGreatDoor

namespace Go.Proofs.YthihpggjglghoaaGreatDoor
open Go.RowKit Go.Shelf

theorem itoaB_small {n : Int} (h : 0 ≤ n) (h2 : n < 10) : (⟨[UInt8.ofNat (48 + n % 10).toNat].toArray⟩ : ByteArray) = itoaB n := by
  apply ba_ext
  rw [itoaB_list h, Lib.decDigits_one (by omega)]
  rw [show (48 + n % 10).toNat = 48 + n.toNat by omega]
theorem itoaB_step {n : Int} (h : 10 ≤ n) : itoaB (n / 10) ++ (⟨[UInt8.ofNat (48 + n % 10).toNat].toArray⟩ : ByteArray) = itoaB n := by
  apply ba_ext
  rw [ba_app, itoaB_list (by omega), itoaB_list (by omega)]
  conv => rhs; rw [Lib.decDigits]
  rw [dif_neg (by omega), show (n / 10).toNat = n.toNat / 10 by omega, show (48 + n % 10).toNat = 48 + n.toNat % 10 by omega]
theorem conv_byte (W : World) (b : Nat) (d : Int) (h0 : 0 ≤ d) (h1 : d ≤ 255) (hc : W.cell? ⟨b, 0, none⟩ = some (.int .u8 d)) :
    (convert 120 9 (.slice (some ⟨b, 0, none⟩) 1 1)).run Tryz.prog W = .ok (.string ⟨[UInt8.ofNat d.toNat].toArray⟩) W := by
  refine run_convert_bytes_back (P := Tryz.prog) W 120 9 5 ⟨b, 0, none⟩ 1 [UInt8.ofNat d.toNat] Tryz.underlying120 Tryz.underlying5 Tryz.underlying9 (fun j hj => ?_)
  obtain rfl : j = 0 := by simpa using hj
  have h2 : (UInt8.ofNat d.toNat).toNat = d.toNat := UInt8.toNat_ofNat_of_lt' (by show d.toNat < 256; omega)
  have h3 : ((d.toNat : Nat) : Int) = d := by omega
  show W.cell? ((⟨b, 0, none⟩ : Addr).add 0) = some (.int .u8 (((UInt8.ofNat d.toNat).toNat : Nat) : Int))
  rw [h2, h3]
  simpa [Addr.add] using hc

set_option maxRecDepth 100000 in
set_option maxHeartbeats 1000000 in
theorem rdigits_any (k : Nat) : ∀ (n : Int) (w : World), n ≤ k → 0 ≤ n → n ≤ 1000000 →
    Calls Tryz.prog 47 #[.int .i64 n] w fun e w' => e = .returned (.string (itoaB n)) ∧ Below w.heap.size w w' := by
  induction k with
  | zero =>
    intro n w hk h0 hb
    obtain rfl : n = 0 := by omega
    have hcv := conv_byte (w.alloc (.cells #[.int .u8 48] 5)) w.heap.size 48 (by omega) (by omega) (by simp)
    have HB := Lib.hid ((Below.refl _ w).alloc (Nat.le_refl _) (.cells #[.int .u8 48] 5))
    have HS := Lib.hid (itoaB_small (n := 0) (by omega) (by omega))
    go_enter Tryz.func47, Tryz.ntmps47
    go_wp2_with fail
    go_ret
    exact ⟨ret_str HS.out, HB.out⟩
  | succ k ih =>
    intro n w hk h0 hb
    obtain ⟨d, hd, hd2, hd0, hd9⟩ : ∃ d : Int, n.tmod 10 = d ∧ n % 10 = d ∧ 0 ≤ d ∧ d ≤ 9 := ⟨n % 10, Int.tmod_eq_emod_of_nonneg h0, rfl, by omega, by omega⟩
    have hw8 : IntKind.u8.wrap (48 + d) = 48 + d := IntWalk.u8_in _ (by omega)
    have hcv := conv_byte (w.alloc (.cells #[.int .u8 (48 + d)] 5)) w.heap.size (48 + d) (by omega) (by omega) (by simp)
    have HB := Lib.hid ((Below.refl _ w).alloc (Nat.le_refl _) (.cells #[.int .u8 (48 + d)] 5))
    by_cases hn : n < 10
    · have HS := Lib.hid (itoaB_small (n := n) (by omega) hn)
      rw [hd2] at HS
      generalize (⟨[UInt8.ofNat (48 + d).toNat].toArray⟩ : ByteArray) = c at *
      go_enter Tryz.func47, Tryz.ntmps47
      go_wp2_with fail
      go_ret
      exact ⟨ret_str HS.out, HB.out⟩
    · have HS := Lib.hid (itoaB_step (n := n) (by omega))
      rw [hd2] at HS
      have hcs : (⟨[UInt8.ofNat (48 + d).toNat].toArray⟩ : ByteArray).size = 1 := rfl
      obtain ⟨q, hq, hq2⟩ : ∃ q : Int, n.tdiv 10 = q ∧ n / 10 = q := ⟨n / 10, Int.tdiv_eq_ediv_of_nonneg h0, rfl⟩
      rw [hq2] at HS
      have hiz := itoaB_size q (by omega) (by omega)
      have HI := Lib.hid (fun (W : World) => ih q W (by omega) (by omega) (by omega))
      generalize (⟨[UInt8.ofNat (48 + d).toNat].toArray⟩ : ByteArray) = c at *
      have hsum : ¬ 9223372036854775807 < (itoaB q).size + c.size := by omega
      clear ih
      generalize itoaB q = s at *
      go_enter Tryz.func47, Tryz.ntmps47
      go_wp2_with fail
      (with_reducible refine (HI.out _).mono ?_)
      rintro e w1 ⟨rfl, hb1⟩
      go_wp2_with fail
      go_ret
      exact ⟨ret_str HS.out, HB.out.trans (hb1.mono HB.out.size)⟩

/-! ### Number -/
theorem numR_len {s : ByteArray} (h : ¬ (1 ≤ s.size ∧ s.size ≤ 6)) : numR s = -1 := by
  unfold numR
  rw [if_neg (fun g => h ⟨g.1, g.2.1⟩)]
theorem numR_bad {s : ByteArray} {k : Nat} (h : k < s.size) (hb : digB (s[k]'h) = false) : numR s = -1 := by
  unfold numR
  rw [if_neg]
  rintro ⟨_, _, g⟩
  rw [List.all_eq_true] at g
  have := g (s[k]'h) (by
    have : s.data.toList[k]? = some (s[k]'h) := by
      rw [List.getElem?_eq_getElem (by simpa using h)]; rfl
    exact List.mem_of_getElem? this)
  rw [hb] at this
  cases this
theorem numR_all {s : ByteArray} (h : 1 ≤ s.size ∧ s.size ≤ 6) (ha : (s.data.toList.take s.size).all digB = true) : numR s = (digsV (s.data.toList.take s.size) : Nat) := by
  have hs : s.data.toList.length = s.size := by simp
  rw [List.take_of_length_le (by omega)] at ha ⊢
  unfold numR
  rw [if_pos ⟨h.1, h.2, ha⟩]
theorem take_dig {s : ByteArray} {k : Nat} (h : k < s.size) : s.data.toList.take (k + 1) = s.data.toList.take k ++ [s[k]'h] := by
  rw [List.take_add_one, List.getElem?_eq_getElem (by simpa using h)]
  rfl
theorem digs_step {s : ByteArray} {k : Nat} (h : k < s.size) : digsV (s.data.toList.take (k + 1)) = 10 * digsV (s.data.toList.take k) + ((s[k]'h).toNat - 48) := by
  rw [take_dig h]
  unfold digsV
  rw [List.foldl_append]
  rfl
theorem all_step {s : ByteArray} {k : Nat} (h : k < s.size) (ha : (s.data.toList.take k).all digB = true) (hb : digB (s[k]'h) = true) : (s.data.toList.take (k + 1)).all digB = true := by
  rw [take_dig h, List.all_append, ha]
  simp [hb]
theorem digs_bd {s : ByteArray} {k : Nat} (hk : k ≤ 6) (_hs : k ≤ s.size) (ha : (s.data.toList.take k).all digB = true) : digsV (s.data.toList.take k) < 1000000 := by
  have h1 := digs_lt _ (s.data.toList.take k) (Nat.le_refl _) ha
  have h2 : (10 : Nat) ^ (s.data.toList.take k).length ≤ 10 ^ 6 := Nat.pow_le_pow_right (by omega) (by rw [List.length_take]; omega)
  omega

set_option maxRecDepth 100000 in
set_option maxHeartbeats 1000000 in
theorem rnumber_any (s : ByteArray) (w : World) (hmax : s.size ≤ 9223372036854775807) :
    Calls Tryz.prog 56 #[.string s] w fun e w' => e = .returned (.int .i64 (numR s)) ∧ w' = w := by
  by_cases hl : 1 ≤ s.size ∧ s.size ≤ 6
  · have hin : inB (s.size : Int) 1 6 = true := inB_t (by omega) (by omega)
    have HL := Lib.hid hl
    obtain ⟨hl1, hl2⟩ := hl
    go_enter Tryz.func56, Tryz.ntmps56
    go_wp2_with (go_at_call 34; refine (rin_any _ _ _ _).mono ?_; rintro e w' ⟨rfl, rfl⟩)
    go_loop [3, 4] (fun v i => ∃ k : Nat, k ≤ s.size ∧ i = .int .i64 k ∧ ∃ n : Nat, v = .int .i64 n ∧ n < 1000000 ∧ Hid (n = digsV (s.data.toList.take k) ∧ (s.data.toList.take k).all digB = true)) (fun _ i => s.size - (intOf i).toNat)
    case atStart => exact ⟨0, by omega, rfl, 0, rfl, by omega, by simp [digsV], by simp⟩
    case round =>
      obtain ⟨k, hk, rfl, n, rfl, hn, HN⟩ := hrel
      by_cases hlt : k < s.size
      · have bd1 : ((s[k]'hlt).toNat : Int) ≤ 255 := by have := (s[k]'hlt).toNat_lt; omega
        have bd0 : (0 : Int) ≤ ((s[k]'hlt).toNat : Int) := by omega
        by_cases hd : 48 ≤ (s[k]'hlt).toNat ∧ (s[k]'hlt).toNat ≤ 57
        · have f3 : inB ((s[k]'hlt).toNat : Int) 48 57 = true := inB_t (by omega) (by omega)
          have hal := all_step hlt HN.out.2 (decide_eq_true hd)
          have hbd := digs_bd (by omega) (by omega) hal
          have hst := digs_step hlt
          rw [← HN.out.1] at hst
          have HN2 := Lib.hid (And.intro hst hal)
          rw [hst] at hbd
          have f4 : IntKind.u8.wrap (((s[k]'hlt).toNat : Int) - 48) = ((s[k]'hlt).toNat : Int) - 48 := IntWalk.u8_in _ (by omega)
          have f5 : 10 * (n : Int) + (((s[k]'hlt).toNat : Int) - 48) = ((10 * n + ((s[k]'hlt).toNat - 48) : Nat) : Int) := by omega
          clear hst hal HN
          obtain ⟨hd1, hd2⟩ := hd
          go_wp2_with (go_at_call 34; refine (rin_any _ _ _ _).mono ?_; rintro e w' ⟨rfl, rfl⟩)
          go_round
          case rel => exact ⟨k + 1, by omega, by go_num, 10 * n + ((s[k]'hlt).toNat - 48), by first | rw [f5] | go_num, hbd, ⟨HN2.out.1.symm, HN2.out.2⟩⟩
          case measure => simp [intOf]; omega
        · have f3 : inB ((s[k]'hlt).toNat : Int) 48 57 = false := inB_f (by omega)
          have H := Lib.hid (numR_bad hlt (decide_eq_false hd))
          clear hd HN
          go_wp2_with (go_at_call 34; refine (rin_any _ _ _ _).mono ?_; rintro e w' ⟨rfl, rfl⟩)
          go_ret
          exact ⟨ret_i64 H.out.symm, rfl⟩
      · have hke : k = s.size := by omega
        have H := Lib.hid (numR_all HL.out (by rw [← hke]; exact HN.out.2))
        rw [← hke, ← HN.out.1] at H
        clear HN
        go_wp2_with (go_at_call 34; refine (rin_any _ _ _ _).mono ?_; rintro e w' ⟨rfl, rfl⟩)
        go_ret
        exact ⟨ret_i64 H.out.symm, rfl⟩
  · have hin : inB (s.size : Int) 1 6 = false := inB_f (by omega)
    have H := Lib.hid (numR_len hl)
    clear hl
    go_enter Tryz.func56, Tryz.ntmps56
    go_wp2_with (go_at_call 34; refine (rin_any _ _ _ _).mono ?_; rintro e w' ⟨rfl, rfl⟩)
    go_ret
    exact ⟨ret_i64 H.out.symm, rfl⟩
end Go.Proofs.YthihpggjglghoaaGreatDoor

namespace Go.Proofs.YthihpggjglghoaaGreatDoor
open Go.RowKit Go.Shelf

theorem partsB_yes {c : UInt8} {s : ByteArray} {k : Nat} (h : k < s.size) (hc : (s[k]'h) = c) : partsB c s (k + 1) = ((partsB c s k).1 ++ [s.extract (partsB c s k).2 k], k + 1) := by
  rw [partsB, if_pos]
  rw [← hc]
  exact Array.getElem?_eq_getElem h
theorem partsB_not {c : UInt8} {s : ByteArray} {k : Nat} (h : k < s.size) (hc : ¬ (s[k]'h) = c) : partsB c s (k + 1) = partsB c s k := by
  rw [partsB, if_neg]
  intro e
  rw [Array.getElem?_eq_getElem h] at e
  exact hc (Option.some.inj e)
theorem StrsOut.shape {B : Nat} {w : World} {v : Value} {l : List ByteArray} (h : StrsOut B w v l) : ∃ A c, v = .slice A l.length c := by
  rcases h.2 with ⟨hv, h0⟩ | ⟨g, cap, cur, hv, _⟩
  · exact ⟨none, 0, by rw [hv, h0]⟩
  · exact ⟨_, _, hv⟩
theorem StrsOut.snoc {B : Nat} {w : World} {v : Value} {l : List ByteArray} {x : ByteArray} {n : Nat} (hn : n = l.length) (h : w.ownsRow B 9 1 v (n + 1) (l.map Value.string ++ [.string x])) : StrsOut B w v (l ++ [x]) := by
  unfold StrsOut
  subst hn
  simpa using h
theorem StrsOut.len {B : Nat} {w : World} {v : Value} {l : List ByteArray} {n : Nat} (hn : n = l.length) (h : StrsOut B w v l) : w.ownsRow B 9 1 v n (l.map Value.string) := by
  subst hn
  exact h
theorem StrsOut.on {B : Nat} {w w' : World} {v : Value} {l : List ByteArray} (h : StrsOut B w v l) (hb : Below w.heap.size w w') : StrsOut B w' v l := own_below h hb

set_option maxRecDepth 100000 in
set_option maxHeartbeats 2000000 in
theorem rsplit_any (s : ByteArray) (c : UInt8) (w : World) (hs : s.size ≤ 1000000) :
    Calls Tryz.prog 55 #[.string s, .int .u8 c.toNat] w fun e w' => ∃ A cap, e = .returned (.slice A (splitV c s).length cap) ∧ StrsOut w.heap.size w' (.slice A (splitV c s).length cap) (splitV c s) ∧ Below w.heap.size w w' := by
  obtain ⟨i0, hi0, hz0, hz1, hz2⟩ := info_parts infoStr
  go_enter Tryz.func55, Tryz.ntmps55
  go_wp2_with fail
  go_loopw [5, 6, 7] (fun v b i wr => ∃ k : Nat, k ≤ s.size ∧ i = .int .i64 k ∧ ∃ bn : Nat, b = .int .i64 bn ∧ bn ≤ k ∧ ∃ ps, Hid (bn = (partsB c s k).2 ∧ ps = (partsB c s k).1) ∧ ps.length ≤ k ∧ Hid (StrsOut w.heap.size wr v ps) ∧ Below w.heap.size w wr) (fun _ _ i _ => s.size - (intOf i).toNat)
  case atStart => exact ⟨0, Nat.zero_le _, rfl, 0, rfl, Nat.le_refl _, [], ⟨rfl, rfl⟩, Nat.le_refl _, World.ownsRow_nil _ _ _ _, Below.refl _ _⟩
  case round =>
    obtain ⟨k, hk, rfl, bn, rfl, hbn, ps, HP, hpl, HO, hbr⟩ := hrel
    obtain ⟨A, cap, rfl⟩ := HO.out.shape
    obtain ⟨n, hn⟩ : ∃ n, n = ps.length := ⟨_, rfl⟩
    rw [← hn] at HO hpl ⊢
    have HN := Lib.hid hn
    clear hn
    by_cases hlt : k < s.size
    · have bd1 : ((s[k]'hlt).toNat : Int) ≤ 255 := by have := (s[k]'hlt).toNat_lt; omega
      by_cases hc : (s[k]'hlt) = c
      · have f1 : (((s[k]'hlt).toNat : Int) == (c.toNat : Int)) = true := by rw [hc]; simp
        have f2 : (s[k]'hlt).toNat = c.toNat := by rw [hc]
        have HY := Lib.hid (partsB_yes hlt hc)
        clear hc
        go_wp2_with (first
          | (at_builtin; refine wpList_append_lies _ rfl _ _ 60 rfl w.heap.size 9 i0 (.string ⟨#[]⟩) 1 16 Tryz.underlying60 hi0 hz0 hz1 hz2 rfl (by decide) (.slice A n cap) n (ps.map Value.string) rfl (World.ownsRow.alloc (HO.out.len HN.out) _) ⟨_, 0, none⟩ 1 1 [.string (s.extract bn k)] rfl rfl ?c1 ?c2 (by decide) ?c3 ?c4 ?c5 _ rfl ?_)
          | go_in)
        case c1 =>
          intro j u hj
          match j, hj with
          | 0, hj => simp at hj; subst hj; simp [Addr.add]
        case c2 => intro u hu; simp at hu; subst hu; rfl
        case c3 => unfold maxLen; omega
        case c4 => omega
        case c5 => have := hbr.size; simp; omega
        · intro g cap2 w1 hown hgrow hat hglt
          have HO2 := Lib.hid (StrsOut.snoc HN.out hown)
          have HB2 := Lib.hid (hbr.trans (((Below.refl _ wr).alloc hbr.size _).grown hgrow (by have := hbr.size; simp; omega) (fun r e => (World.ownsRow.lt HO.out r e).1)))
          clear hown hgrow hat
          go_wp2_with fail
          go_roundw
          case rel => exact ⟨k + 1, by omega, by go_num, k + 1, by go_num, by omega, ps ++ [s.extract bn k], ⟨by rw [HY.out], by rw [HY.out, ← HP.out.1, ← HP.out.2]⟩, by rw [List.length_append, ← HN.out]; simp; omega, HO2, HB2.out⟩
          case measure => simp [intOf]; omega
      · have f1 : (((s[k]'hlt).toNat : Int) == (c.toNat : Int)) = false := by
          rw [beq_eq_false_iff_ne]
          intro e
          exact hc (UInt8.toNat_inj.1 (by omega))
        have f2 : ¬ (s[k]'hlt).toNat = c.toNat := fun e => hc (UInt8.toNat_inj.1 e)
        have HY := Lib.hid (partsB_not hlt hc)
        clear hc
        go_wp2_with fail
        go_roundw
        case rel => exact ⟨k + 1, by omega, by go_num, bn, rfl, by omega, ps, ⟨by rw [HY.out]; exact HP.out.1, by rw [HY.out]; exact HP.out.2⟩, by rw [← HN.out]; omega, HO, hbr⟩
        case measure => simp [intOf]; omega
    · have hke : k = s.size := by omega
      have HS := Lib.hid (show splitV c s = ps ++ [s.extract bn s.size] by unfold splitV; rw [← hke, ← HP.out.1, ← HP.out.2])
      clear HP
      go_wp2_with (first
        | (at_builtin; refine wpList_append_lies _ rfl _ _ 60 rfl w.heap.size 9 i0 (.string ⟨#[]⟩) 1 16 Tryz.underlying60 hi0 hz0 hz1 hz2 rfl (by decide) (.slice A n cap) n (ps.map Value.string) rfl (World.ownsRow.alloc (HO.out.len HN.out) _) ⟨_, 0, none⟩ 1 1 [.string (s.extract bn s.size)] rfl rfl ?c1 ?c2 (by decide) ?c3 ?c4 ?c5 _ rfl ?_)
        | go_in)
      case c1 =>
        intro j u hj
        match j, hj with
        | 0, hj => simp at hj; subst hj; simp [Addr.add]
      case c2 => intro u hu; simp at hu; subst hu; rfl
      case c3 => unfold maxLen; omega
      case c4 => omega
      case c5 => have := hbr.size; simp; omega
      · intro g cap2 w1 hown hgrow hat hglt
        have HO2 := Lib.hid (StrsOut.snoc HN.out hown)
        have HB2 := Lib.hid (hbr.trans (((Below.refl _ wr).alloc hbr.size _).grown hgrow (by have := hbr.size; simp; omega) (fun r e => (World.ownsRow.lt HO.out r e).1)))
        have hln : (splitV c s).length = n + 1 := by rw [HS.out, List.length_append, ← HN.out]; rfl
        rw [← HS.out] at HO2
        clear hown hgrow hat
        go_wp2_with fail
        go_ret
        exact ⟨some ⟨g, 0, none⟩, cap2, by rw [hln]; simp, by rw [hln]; exact HO2.out, HB2.out⟩
end Go.Proofs.YthihpggjglghoaaGreatDoor

namespace Go.Proofs.YthihpggjglghoaaGreatDoor
open Go.ChangeShapes Go.WideShapes Go.RowKit Go.Deep Go.Joins

theorem plain_of {w : World} {a : Addr} {v : Value} (h : w.cell? a = some v) : a = ⟨a.block, a.off, none⟩ := by
  obtain ⟨b, o, s⟩ := a
  have hs : s = none := by simpa using World.cell?_spot h
  subst hs
  rfl
section
variable {H : Type} {enc : TypeId × Value → H} {W W' : World}

theorem open_rows {α : Type} [Inhabited α] {t e : TypeId} {sz fuel : Nat} {c0 : Value} {x : DataW H × List MemPlace} {en : α → Nat → Value} {Q : α → Prop} (ht : Tryz.prog.underlying t = some (.slice e)) (hsz : Tryz.prog.cellsOf e = sz) (hpos : 0 < sz)
    (h : DataW.trod enc Tryz.prog W 0 (fun _ => true) true fuel t [c0] = some x)
    (hel : ∀ (n : Nat) (cs : List Value) (y : DataW H × List MemPlace), cs.length = sz → DataW.trod enc Tryz.prog W 0 (fun _ => true) true n e cs = some y → ∃ z : α, (∀ j, j < sz → cs[j]? = some (en z j)) ∧ Q z) :
    ∃ (A : Option Addr) (l : List α) (c : Nat), c0 = .slice A l.length c ∧ RowAt sz en W W.heap.size A l ∧ l.length ≤ c ∧ l.length ≤ maxLen ∧ ∀ z ∈ l, Q z := by
  rcases open_slice ht h with ⟨hcs, _⟩ | ⟨a, len, cap, m, n, D, Pl, hcs, _, hl, hm, hmm, _, hx⟩
  · simp only [List.cons.injEq, and_true] at hcs
    subst hcs
    exact ⟨none, [], 0, rfl, RowAt.nil, by simp, by simp, fun z hz => by simp at hz⟩
  · simp only [List.cons.injEq, and_true] at hcs
    subst hcs
    have hmc : m = cap := by rw [hmm]; simp
    obtain ⟨f, hf⟩ := choose_lt (α := α) (n := len) (p := fun i z => (∀ j, j < sz → W.cell? (a.add (i * sz + j)) = some (en z j)) ∧ Q z) (fun i hi => by
      obtain ⟨cs, h1, h2⟩ := hx i (by omega)
      rw [hsz] at h1
      obtain ⟨_, hlen, hc⟩ := World.cells?_some h1
      obtain ⟨z, hz, hq⟩ := hel n cs _ hlen h2
      refine ⟨z, fun j hj => ?_, hq⟩
      have h3 := hc j hj
      rw [add_add] at h3
      rw [h3]
      exact hz j hj)
    refine ⟨some a, (List.range len).map f, cap, by simp, fun hp => ?_, by simpa using hl, by simp; omega, fun z hz => ?_⟩
    · have hlen0 : 0 < len := by simpa using hp
      have hc0 := (hf 0 hlen0).1 0 hpos
      have hpl : a = ⟨a.block, a.off, none⟩ := by
        have h0 : W.cell? a = some (en (f 0) 0) := by simpa [Addr.add] using hc0
        exact plain_of h0
      refine ⟨a.block, a.off, by rw [← hpl], ?_, fun i z hi j hj => ?_⟩
      · rcases Nat.lt_or_ge a.block W.heap.size with h' | h'
        · exact h'
        · rw [hpl] at hc0
          simp only [Nat.zero_mul, Nat.add_zero, Addr.add, World.cell?] at hc0
          rw [Array.getElem?_eq_none (by simpa using h')] at hc0
          cases hc0
      · rw [List.getElem?_map] at hi
        obtain ⟨i', hi', rfl⟩ := Option.map_eq_some_iff.1 hi
        obtain ⟨hlt, hii⟩ := List.getElem?_eq_some_iff.1 hi'
        simp at hlt hii
        subst hii
        have h3 := (hf i hlt).1 j hj
        rw [hpl, add_plain] at h3
        rw [Nat.add_assoc]
        exact h3
    · obtain ⟨i, hi, rfl⟩ := List.mem_map.1 hz
      exact (hf i (by simpa using hi)).2

instance : Inhabited Pr := ⟨⟨⟨#[]⟩, 0⟩⟩
instance : Inhabited Kd := ⟨⟨⟨#[]⟩, none, 0, []⟩⟩
theorem el_int (n : Nat) (cs : List Value) (y : DataW H × List MemPlace) (_ : cs.length = 1) (h : DataW.trod enc Tryz.prog W 0 (fun _ => true) true n 3 cs = some y) : ∃ z : Int, (∀ j, j < 1 → cs[j]? = some (encI z j)) ∧ (Lit.int .i64 z).wf = true := by
  obtain ⟨z, rfl, _, hw⟩ := DataW.trod_int Tryz.underlying3 h
  exact ⟨z, fun j hj => by obtain rfl : j = 0 := by omega
                           rfl, hw⟩
set_option maxRecDepth 100000 in
theorem el_span (n : Nat) (cs : List Value) (y : DataW H × List MemPlace) (hl : cs.length = 2) (h : DataW.trod enc Tryz.prog W 0 (fun _ => true) true n 43 cs = some y) : ∃ z : Int × Int, (∀ j, j < 2 → cs[j]? = some (encS z j)) ∧ True := by
  obtain ⟨y0, y1, m, _, _, h0, h1⟩ := trod_struct2 Tryz.underlying43 h
  match cs, hl with
  | [u0, u1], _ =>
    obtain ⟨a, ea, _⟩ := DataW.trod_int Tryz.underlying3 (show DataW.trod enc Tryz.prog W 0 (fun _ => true) true m 3 [u0] = some y0 from h0)
    obtain ⟨b, eb, _⟩ := DataW.trod_int Tryz.underlying3 (show DataW.trod enc Tryz.prog W 0 (fun _ => true) true m 3 [u1] = some y1 from h1)
    simp only [List.cons.injEq, and_true] at ea eb
    subst ea; subst eb
    exact ⟨(a, b), fun j hj => by match j, hj with
      | 0, _ => rfl
      | 1, _ => rfl, trivial⟩
set_option maxRecDepth 100000 in
theorem el_prop (n : Nat) (cs : List Value) (y : DataW H × List MemPlace) (hl : cs.length = 2) (h : DataW.trod enc Tryz.prog W 0 (fun _ => true) true n 47 cs = some y) : ∃ z : Pr, (∀ j, j < 2 → cs[j]? = some (encP z j)) ∧ z.nm.size ≤ maxLen := by
  obtain ⟨y0, y1, m, _, _, h0, h1⟩ := trod_struct2 Tryz.underlying47 h
  match cs, hl with
  | [u0, u1], _ =>
    obtain ⟨a, ea, _, hs⟩ := DataW.trod_string Tryz.underlying9 (show DataW.trod enc Tryz.prog W 0 (fun _ => true) true m 9 [u0] = some y0 from h0)
    obtain ⟨b, eb, _⟩ := DataW.trod_int Tryz.underlying3 (show DataW.trod enc Tryz.prog W 0 (fun _ => true) true m 3 [u1] = some y1 from h1)
    simp only [List.cons.injEq, and_true] at ea eb
    subst ea; subst eb
    exact ⟨⟨a, b⟩, fun j hj => by match j, hj with
      | 0, _ => rfl
      | 1, _ => rfl, hs⟩
theorem c_int : Tryz.prog.cellsOf 3 = 1 := by kernel_rfl
theorem c_span : Tryz.prog.cellsOf 43 = 2 := by kernel_rfl
theorem c_prop : Tryz.prog.cellsOf 47 = 2 := by kernel_rfl
theorem c_kind : Tryz.prog.cellsOf 51 = 2 := by kernel_rfl
theorem c_tab : Tryz.prog.cellsOf 25 = 3 := by kernel_rfl
set_option maxRecDepth 100000 in
theorem el_kind (n : Nat) (cs : List Value) (y : DataW H × List MemPlace) (hl : cs.length = 2) (h : DataW.trod enc Tryz.prog W 0 (fun _ => true) true n 51 cs = some y) : ∃ z : Kd, (∀ j, j < 2 → cs[j]? = some (encK z j)) ∧ (z.nm.size ≤ maxLen ∧ SpansAt W W.heap.size z.ad z.rs ∧ z.rs.length ≤ maxLen ∧ z.rs.length ≤ z.cp) := by
  obtain ⟨y0, y1, m, _, _, h0, h1⟩ := trod_struct2 Tryz.underlying51 h
  match cs, hl with
  | [u0, u1], _ =>
    obtain ⟨a, ea, _, hs⟩ := DataW.trod_string Tryz.underlying9 (show DataW.trod enc Tryz.prog W 0 (fun _ => true) true m 9 [u0] = some y0 from h0)
    obtain ⟨A, l, c, eb, hr, hc, hm, _⟩ := open_rows (α := Int × Int) (en := encS) Tryz.underlying49 c_span (by omega) (show DataW.trod enc Tryz.prog W 0 (fun _ => true) true m 49 [u1] = some y1 from h1) el_span
    simp only [List.cons.injEq, and_true] at ea
    subst ea; subst eb
    exact ⟨⟨a, A, c, l⟩, fun j hj => by match j, hj with
      | 0, _ => rfl
      | 1, _ => rfl, hs, hr, hm, hc⟩
set_option maxRecDepth 100000 in
/-- A list of ints that came in. -/
theorem open_ints_in {v : Value} {d : DataW H} {p : List MemPlace} (h : DataW.Trod enc Tryz.prog W 0 (fun _ => true) true 34 v d p) (hv : ∃ A l c, v = .slice A l c) : ∃ A l c, v = .slice A l.length c ∧ IntsIn W A l ∧ ∀ z ∈ l, (Lit.int .i64 z).wf = true := by
  obtain ⟨A0, l0, c0, rfl⟩ := hv
  obtain ⟨fuel, hf⟩ := h
  obtain ⟨A, l, c, e, hr, hc, hm, hq⟩ := open_rows (α := Int) (en := encI) Tryz.underlying34 c_int (by omega) (show DataW.trod enc Tryz.prog W 0 (fun _ => true) true fuel 34 [.slice A0 l0 c0] = some (d, p) by simpa [Value.cells] using hf) el_int
  exact ⟨A, l, c, e, ⟨hr, by unfold maxLen at hm; omega⟩, hq⟩
set_option maxRecDepth 100000 in
/-- A table that came in. -/
theorem open_table {v : Value} {d : DataW H} {p : List MemPlace} {b0 : Nat} (hv : Value.okWide Tryz.prog W .any b0 25 v) (h : DataW.Trod enc Tryz.prog W 0 (fun _ => true) true 25 v d p) :
    ∃ pa pc ka kc t, v = .agg #[.slice pa t.ps.length pc, .slice ka t.ks.length kc, .int .i64 t.pu] ∧ TabIn W pa ka pc kc t := by
  obtain ⟨v0, v1, v2, y0, y1, y2, n, rfl, _, _, h0, h1, h2⟩ := open_agg3 Tryz.underlying25 (by kernel_rfl) c_tab hv h
  obtain ⟨pa, ps, pc, rfl, hp, hpc, hpm, hpq⟩ := open_rows (α := Pr) (en := encP) Tryz.underlying22 c_prop (by omega) h0 el_prop
  obtain ⟨ka, ks, kc, rfl, hk, hkc, hkm, hkq⟩ := open_rows (α := Kd) (en := encK) Tryz.underlying23 c_kind (by omega) h1 el_kind
  obtain ⟨z, ez, _⟩ := DataW.trod_int Tryz.underlying3 h2
  simp only [List.cons.injEq, and_true] at ez
  subst ez
  unfold maxLen at hpm hkm hpq hkq
  refine ⟨pa, pc, ka, kc, ⟨ps, ks, z⟩, rfl, ⟨hp, ⟨hk, fun k hkk => ⟨(hkq k hkk).2.1, by have := (hkq k hkk).2.2.1; omega⟩⟩, by show ps.length ≤ _; omega, by show ks.length ≤ _; omega⟩, hpc, hkc, fun p hpp => by have := hpq p hpp; omega, fun k hkk => by have := (hkq k hkk).1; omega⟩
set_option maxRecDepth 100000 in
theorem laidOut : laidOutB Tryz.prog = true := by kernel_rfl
/-- The arguments read on as they did. -/
theorem trodAll_below {P : Program} (hl : laidOutB P = true) (hb : Below W.heap.size W W') (ts : List TypeId) : ∀ (vs : List Value) (ds : List (DataW H)) (ps : List MemPlace), (ts.all fun t => P.readableRec t && decide (t < P.types.size)) = true →
    DataW.TrodAll enc P W 0 (fun _ => true) true ts vs ds ps → (∀ x ∈ ps, x.block < W.heap.size) → DataW.TrodAll enc P W' 0 (fun b => decide (b < W.heap.size)) true ts vs ds ps := by
  induction ts with
  | nil =>
    intro vs ds ps _ h _
    obtain ⟨rfl, rfl, rfl⟩ := trodAll_nil h
    exact trodAll_mk0
  | cons t ts ih =>
    intro vs ds ps ht h hlt
    obtain ⟨v, vs', d, ds', p, q, rfl, rfl, rfl, h1, h2⟩ := trodAll_cons h
    simp only [List.all_cons, Bool.and_eq_true, decide_eq_true_eq] at ht
    exact trodAll_cons_mk (Below.trod hl ht.1.1 ht.1.2 h1 hb (fun x hx => hlt x (by simp [hx]))) (ih vs' ds' q ht.2 h2 (fun x hx => hlt x (by simp [hx])))
end
end Go.Proofs.YthihpggjglghoaaGreatDoor

namespace Go.Proofs.YthihpggjglghoaaGreatDoor
open Go.ChangeShapes Go.WideShapes Go.RowKit Go.Deep Go.Joins

theorem array2 {α : Type} {cs : Array α} (h : cs.size = 2) : ∃ c0 c1, cs = #[c0, c1] := by
  obtain ⟨l⟩ := cs
  match l, h with
  | [c0, c1], _ => exact ⟨c0, c1, rfl⟩
theorem array3 {α : Type} {cs : Array α} (h : cs.size = 3) : ∃ c0 c1 c2, cs = #[c0, c1, c2] := by
  obtain ⟨l⟩ := cs
  match l, h with
  | [c0, c1, c2], _ => exact ⟨c0, c1, c2, rfl⟩
section
variable {H : Type} {enc : TypeId × Value → H} {P : Program} {w : World} {base : Nat} {spare : Nat → Bool} {held : Bool}
theorem okWide_arr {t e : TypeId} {n : Nat} {r : Reach} {b0 : Nat} {v : Value} (ht : P.underlying t = some (.array n e)) (h : Value.okWide P w r b0 t v) : ∃ cs, v = .agg cs ∧ cs.size = P.cellsOf t := by
  simp only [Value.okWide, ht] at h
  obtain ⟨cs, h1, h2, _⟩ := h
  exact ⟨cs, h1, h2⟩
theorem open_arr2 {t e : TypeId} {r : Reach} {b0 : Nat} {v : Value} {d : DataW H} {p : List MemPlace} (ht : P.underlying t = some (.array 2 e)) (he : P.cellsOf e = 1) (hC : P.cellsOf t = 2)
    (hv : Value.okWide P w r b0 t v) (h : DataW.Trod enc P w base spare held t v d p) :
    ∃ (v0 v1 : Value) (y0 y1 : DataW H × List MemPlace) (n : Nat), v = .agg #[v0, v1] ∧ DataW.trod enc P w base spare held n e [v0] = some y0 ∧ DataW.trod enc P w base spare held n e [v1] = some y1 := by
  obtain ⟨cs, rfl, hsz⟩ := okWide_arr ht hv
  obtain ⟨c0, c1, rfl⟩ := array2 (hsz.trans hC)
  obtain ⟨fuel, hf⟩ := h
  obtain ⟨xs, m, _, _, _, hlen, hx⟩ := DataW.trod_array ht hf
  have h0 := hx 0 (by omega)
  have h1 := hx 1 (by omega)
  match xs, hlen with
  | [y0, y1], _ => exact ⟨c0, c1, y0, y1, m, rfl, by simpa [Value.cells, he] using h0, by simpa [Value.cells, he] using h1⟩
theorem open_arr3 {t e : TypeId} {r : Reach} {b0 : Nat} {v : Value} {d : DataW H} {p : List MemPlace} (ht : P.underlying t = some (.array 3 e)) (he : P.cellsOf e = 1) (hC : P.cellsOf t = 3)
    (hv : Value.okWide P w r b0 t v) (h : DataW.Trod enc P w base spare held t v d p) :
    ∃ (v0 v1 v2 : Value) (y0 y1 y2 : DataW H × List MemPlace) (n : Nat), v = .agg #[v0, v1, v2] ∧ DataW.trod enc P w base spare held n e [v0] = some y0 ∧ DataW.trod enc P w base spare held n e [v1] = some y1 ∧ DataW.trod enc P w base spare held n e [v2] = some y2 := by
  obtain ⟨cs, rfl, hsz⟩ := okWide_arr ht hv
  obtain ⟨c0, c1, c2, rfl⟩ := array3 (hsz.trans hC)
  obtain ⟨fuel, hf⟩ := h
  obtain ⟨xs, m, _, _, _, hlen, hx⟩ := DataW.trod_array ht hf
  have h0 := hx 0 (by omega)
  have h1 := hx 1 (by omega)
  have h2 := hx 2 (by omega)
  match xs, hlen with
  | [y0, y1, y2], _ => exact ⟨c0, c1, c2, y0, y1, y2, m, rfl, by simpa [Value.cells, he] using h0, by simpa [Value.cells, he] using h1, by simpa [Value.cells, he] using h2⟩
end
variable {H : Type} {enc : TypeId × Value → H} {W : World}
/-- A table, and another argument, in boxes of the call's own. -/
structure Two (w : World) (T : TypeId) (tc xc : Array Value) (W : World) : Prop where
  tb : Blk W w.heap.size 25 tc
  xb : Blk W (w.heap.size + 1) T xc
  b : Below w.heap.size w W
theorem Two.on {w W W' : World} {T : TypeId} {tc xc : Array Value} (h : Two w T tc xc W) (hb : Below W.heap.size W W') : Two w T tc xc W' := ⟨h.tb.on hb, h.xb.on hb, h.b.trans (hb.mono h.b.size)⟩
theorem Two.new (w : World) (T : TypeId) (tc xc : Array Value) : Two w T tc xc ((w.alloc (.cells tc 25)).alloc (.cells xc T)) :=
  ⟨(Blk.new w _ _).alloc _, Blk.new1 w _ _ _, ((Below.refl _ w).alloc (Nat.le_refl _) _).alloc (by simp) _⟩
/-- .. and a range in a box that came later. -/
structure TwoS (w : World) (T : TypeId) (tc xc : Array Value) (X : Nat) (s : Int × Int) (W : World) : Prop where
  tb : Blk W w.heap.size 25 tc
  xb : Blk W (w.heap.size + 1) T xc
  sb : Blk W X 43 #[.int .i64 s.1, .int .i64 s.2]
  b : Below w.heap.size w W
theorem TwoS.on {w W W' : World} {T : TypeId} {tc xc : Array Value} {X : Nat} {s : Int × Int} (h : TwoS w T tc xc X s W) (hb : Below W.heap.size W W') : TwoS w T tc xc X s W' := ⟨h.tb.on hb, h.xb.on hb, h.sb.on hb, h.b.trans (hb.mono h.b.size)⟩
theorem TwoS.alloc {w W : World} {T : TypeId} {tc xc : Array Value} {X : Nat} {s : Int × Int} (h : TwoS w T tc xc X s W) (o : Obj) : TwoS w T tc xc X s (W.alloc o) := h.on ((Below.refl _ W).alloc (Nat.le_refl _) _)
theorem TwoS.drew {w W : World} {T : TypeId} {tc xc : Array Value} {X : Nat} {s : Int × Int} (h : TwoS w T tc xc X s W) : TwoS w T tc xc X s W.drew := h.on (Below.refl _ W).drew
end Go.Proofs.YthihpggjglghoaaGreatDoor

namespace Go.Proofs.YthihpggjglghoaaGreatDoor
open Go.RowKit

/-- These cells hold these values. -/
structure Held (cs : List (Nat × Nat × Value)) (W : World) : Prop where
  at_ : ∀ c ∈ cs, c.1 < W.heap.size ∧ W.cell? ⟨c.1, c.2.1, none⟩ = some c.2.2
theorem Held.on {cs : List (Nat × Nat × Value)} {W W' : World} (h : Held cs W) (hb : Below W.heap.size W W') : Held cs W' :=
  ⟨fun c hc => ⟨Nat.lt_of_lt_of_le (h.at_ c hc).1 hb.size, (hb.cell (p := ⟨c.1, c.2.1, none⟩) (h.at_ c hc).1).trans (h.at_ c hc).2⟩⟩
theorem Held.alloc {cs : List (Nat × Nat × Value)} {W : World} (h : Held cs W) (o : Obj) : Held cs (W.alloc o) := h.on ((Below.refl _ W).alloc (Nat.le_refl _) _)
theorem Held.drew {cs : List (Nat × Nat × Value)} {W : World} (h : Held cs W) : Held cs W.drew := h.on (Below.refl _ W).drew
theorem Held.drewN {cs : List (Nat × Nat × Value)} {W : World} (h : Held cs W) (n : Nat) : Held cs (W.drewN n) := h.on (below_drewN' (Below.refl _ W) n)
theorem Held.nil (W : World) : Held [] W := ⟨fun _ h => by cases h⟩
theorem Held.cons {cs : List (Nat × Nat × Value)} {W : World} {b o : Nat} {v : Value} (hb : b < W.heap.size) (hc : W.cell? ⟨b, o, none⟩ = some v) (h : Held cs W) : Held ((b, o, v) :: cs) W :=
  ⟨fun c hm => by
    rcases List.mem_cons.1 hm with rfl | hm
    · exact ⟨hb, hc⟩
    · exact h.at_ c hm⟩
/-- The cells, one by one, and all of them again. -/
def heldP (W : World) (P : Prop) : List (Nat × Nat × Value) → Prop
  | [] => P
  | c :: cs => W.cell? ⟨c.1, c.2.1, none⟩ = some c.2.2 ∧ heldP W P cs
theorem heldP_of {W : World} {P : Prop} (hP : P) : ∀ (cs : List (Nat × Nat × Value)), (∀ c ∈ cs, W.cell? ⟨c.1, c.2.1, none⟩ = some c.2.2) → heldP W P cs
  | [], _ => hP
  | c :: cs, h => ⟨h c (by simp), heldP_of hP cs fun d hd => h d (by simp [hd])⟩
theorem Held.all {cs : List (Nat × Nat × Value)} {W : World} (h : Held cs W) : heldP W (Held cs W) cs := heldP_of h cs fun c hc => (h.at_ c hc).2

/-- .. behind what was there at the start. -/
structure HeldB (w : World) (cs : List (Nat × Nat × Value)) (W : World) : Prop where
  held : Held cs W
  b : Below w.heap.size w W
theorem HeldB.on {w W W' : World} {cs : List (Nat × Nat × Value)} (h : HeldB w cs W) (hb : Below W.heap.size W W') : HeldB w cs W' := ⟨h.held.on hb, h.b.trans (hb.mono h.b.size)⟩
theorem HeldB.alloc {w W : World} {cs : List (Nat × Nat × Value)} (h : HeldB w cs W) (o : Obj) : HeldB w cs (W.alloc o) := h.on ((Below.refl _ W).alloc (Nat.le_refl _) _)
theorem HeldB.drew {w W : World} {cs : List (Nat × Nat × Value)} (h : HeldB w cs W) : HeldB w cs W.drew := h.on (Below.refl _ W).drew
theorem HeldB.all {w W : World} {cs : List (Nat × Nat × Value)} (h : HeldB w cs W) : heldP W (HeldB w cs W) cs := heldP_of h cs fun c hc => (h.held.at_ c hc).2

theorem HeldB.all8 {w W : World} {b0 o0 b1 o1 b2 o2 b3 o3 b4 o4 b5 o5 b6 o6 b7 o7 : Nat} {v0 v1 v2 v3 v4 v5 v6 v7 : Value} (h : HeldB w [(b0, o0, v0), (b1, o1, v1), (b2, o2, v2), (b3, o3, v3), (b4, o4, v4), (b5, o5, v5), (b6, o6, v6), (b7, o7, v7)] W) : W.cell? ⟨b0, o0, none⟩ = some v0 ∧ W.cell? ⟨b1, o1, none⟩ = some v1 ∧ W.cell? ⟨b2, o2, none⟩ = some v2 ∧ W.cell? ⟨b3, o3, none⟩ = some v3 ∧ W.cell? ⟨b4, o4, none⟩ = some v4 ∧ W.cell? ⟨b5, o5, none⟩ = some v5 ∧ W.cell? ⟨b6, o6, none⟩ = some v6 ∧ W.cell? ⟨b7, o7, none⟩ = some v7 ∧ HeldB w [(b0, o0, v0), (b1, o1, v1), (b2, o2, v2), (b3, o3, v3), (b4, o4, v4), (b5, o5, v5), (b6, o6, v6), (b7, o7, v7)] W :=
  ⟨(h.held.at_ (b0, o0, v0) (by simp)).2, (h.held.at_ (b1, o1, v1) (by simp)).2, (h.held.at_ (b2, o2, v2) (by simp)).2, (h.held.at_ (b3, o3, v3) (by simp)).2, (h.held.at_ (b4, o4, v4) (by simp)).2, (h.held.at_ (b5, o5, v5) (by simp)).2, (h.held.at_ (b6, o6, v6) (by simp)).2, (h.held.at_ (b7, o7, v7) (by simp)).2, h⟩

theorem Two.grown {w W W' : World} {T : TypeId} {tc xc : Array Value} {row : Option Nat} (h : Two w T tc xc W) (hg : W.grownBy W' row) (hr : ∀ r, row = some r → w.heap.size + 2 ≤ r) : Two w T tc xc W' :=
  ⟨h.tb.grown hg hr (by omega), h.xb.grown hg hr (by omega), h.b.grown hg h.b.size fun r e => by have := hr r e; omega⟩
end Go.Proofs.YthihpggjglghoaaGreatDoor

namespace Go.Proofs.YthihpggjglghoaaGreatDoor
open Go.RowKit Go.Shelf

def spB : ByteArray := ⟨#[32]⟩
def nlB : ByteArray := ⟨#[10]⟩
theorem ba_size {a b : ByteArray} : (a ++ b).size = a.size + b.size := ByteArray.size_append
theorem joinB_two {ws : List ByteArray} (h : ws ≠ []) (a b : ByteArray) : (((joinB ws ++ ⟨#[32]⟩) ++ a) ++ ⟨#[32]⟩) ++ b = joinB (ws ++ [a, b]) := by
  cases ws with
  | nil => exact absurd rfl h
  | cons w r =>
    apply ba_ext
    simp only [ba_app, joinB_list, List.cons_append, List.map_cons, Lib.join_cons, Lib.joinTail, List.map_append, List.flatten_append, List.map_nil]
    simp
theorem joinB_one (a : ByteArray) : joinB [a] = a := by
  apply ba_ext
  rw [joinB_list]
  simp [Lib.join_one]
theorem props_text (ps : List Pr) (p : Pr) : (((joinB (propW ps) ++ ⟨#[32]⟩) ++ p.nm) ++ ⟨#[32]⟩) ++ itoaB p.er = joinB (propW (ps ++ [p])) := by
  rw [propW_snoc]
  exact joinB_two (by simp [propW]) _ _
theorem kind_text (s nm : ByteArray) (rs : List (Int × Int)) (r : Int × Int) : ((((s ++ joinB (kindW nm rs)) ++ ⟨#[32]⟩) ++ itoaB r.1) ++ ⟨#[32]⟩) ++ itoaB r.2 = s ++ joinB (kindW nm (rs ++ [r])) := by
  rw [kindW_snoc, ← joinB_two (by simp [kindW])]
  simp only [ByteArray.append_assoc]
theorem kind_text0 (s nm : ByteArray) : s ++ nm = s ++ joinB (kindW nm []) := by
  unfold kindW
  rw [List.flatMap_nil, joinB_one]
theorem head_text (t : Tab) : ((joinB (propW t.ps) ++ ⟨#[10, 112, 117, 114, 101, 32]⟩) ++ itoaB t.pu) ++ ⟨#[10]⟩ = headV t := by
  unfold headV lineB
  apply ba_ext
  simp only [ba_app, joinB_list]
  rw [List.map_cons, List.map_cons, List.map_nil, Lib.join_cons]
  simp [Lib.joinTail]
theorem line_text (s : ByteArray) (ws : List ByteArray) : (s ++ joinB ws) ++ ⟨#[10]⟩ = s ++ lineB ws := by
  unfold lineB
  simp only [ByteArray.append_assoc]
theorem props_text0 : (⟨#[116, 101, 115, 116, 115]⟩ : ByteArray) = joinB (propW []) := by
  unfold propW
  rw [List.flatMap_nil, joinB_one]
theorem HeldB.of3 {w W : World} {b0 o0 b1 o1 b2 o2 : Nat} {v0 v1 v2 : Value} (h : HeldB w [(b0, o0, v0), (b1, o1, v1), (b2, o2, v2)] W) : W.cell? ⟨b0, o0, none⟩ = some v0 ∧ W.cell? ⟨b1, o1, none⟩ = some v1 ∧ W.cell? ⟨b2, o2, none⟩ = some v2 ∧ HeldB w [(b0, o0, v0), (b1, o1, v1), (b2, o2, v2)] W :=
  ⟨(h.held.at_ (b0, o0, v0) (by simp)).2, (h.held.at_ (b1, o1, v1) (by simp)).2, (h.held.at_ (b2, o2, v2) (by simp)).2, h⟩
theorem HeldB.of4 {w W : World} {b0 o0 b1 o1 b2 o2 b3 o3 : Nat} {v0 v1 v2 v3 : Value} (h : HeldB w [(b0, o0, v0), (b1, o1, v1), (b2, o2, v2), (b3, o3, v3)] W) : W.cell? ⟨b0, o0, none⟩ = some v0 ∧ W.cell? ⟨b1, o1, none⟩ = some v1 ∧ W.cell? ⟨b2, o2, none⟩ = some v2 ∧ W.cell? ⟨b3, o3, none⟩ = some v3 ∧ HeldB w [(b0, o0, v0), (b1, o1, v1), (b2, o2, v2), (b3, o3, v3)] W :=
  ⟨(h.held.at_ (b0, o0, v0) (by simp)).2, (h.held.at_ (b1, o1, v1) (by simp)).2, (h.held.at_ (b2, o2, v2) (by simp)).2, (h.held.at_ (b3, o3, v3) (by simp)).2, h⟩
theorem name_sz {s : ByteArray} (h : nameB s = true) : s.size ≤ 20 := by
  unfold nameB at h
  simp only [Bool.and_eq_true, decide_eq_true_eq] at h
  exact h.1
end Go.Proofs.YthihpggjglghoaaGreatDoor

namespace Go.Proofs.YthihpggjglghoaaGreatDoor
open Go.ChangeShapes Go.RowKit Go.Shelf

/-- These values' blocks are different ones. -/
def Sep (L : List Value) : Prop := ∀ (i j : Nat) (x y : Value), i ≠ j → L[i]? = some x → L[j]? = some y → ∀ g, x.ownBlock = some g → y.ownBlock ≠ some g
theorem Sep.set_ {L : List Value} (h : Sep L) {i : Nat} {x x' : Value} (hx : L[i]? = some x) (hf : ∀ g, x'.ownBlock = some g → x.ownBlock = some g ∨ ∀ y ∈ L, y.ownBlock ≠ some g) : Sep (L.set i x') := by
  intro a b u v hab hu hv g hg hg2
  by_cases ha : i = a
  · subst ha
    rw [List.getElem?_set_ne hab] at hv
    have hlt := (List.getElem?_eq_some_iff.1 hx).1
    rw [List.getElem?_set_self hlt] at hu
    cases hu
    rcases hf g hg with h1 | h1
    · exact h i b x v hab hx hv g h1 hg2
    · exact h1 v (List.mem_of_getElem? hv) hg2
  · rw [List.getElem?_set_ne ha] at hu
    by_cases hb : i = b
    · subst hb
      have hlt := (List.getElem?_eq_some_iff.1 hx).1
      rw [List.getElem?_set_self hlt] at hv
      cases hv
      rcases hf g hg2 with h1 | h1
      · exact h a i u x hab hu hx g hg h1
      · exact h1 u (List.mem_of_getElem? hu) hg
    · rw [List.getElem?_set_ne hb] at hv
      exact h a b u v hab hu hv g hg hg2
def nilV : Value := .slice none 0 0
theorem nilV_own : nilV.ownBlock = none := rfl
/-- A value goes to the end of the list. -/
theorem Sep.move {L : List Value} (h : Sep L) {i : Nat} {x : Value} (hx : L[i]? = some x) : Sep (L.set i nilV ++ [x]) := by
  have h1 : Sep (L.set i nilV) := h.set_ hx (fun g hg => by cases hg)
  have key : ∀ (b : Nat) (v : Value), (L.set i nilV)[b]? = some v → ∀ g, x.ownBlock = some g → v.ownBlock ≠ some g := by
    intro b v hv g hg
    by_cases hb : i = b
    · subst hb
      rw [List.getElem?_set_self (List.getElem?_eq_some_iff.1 hx).1] at hv
      cases hv
      intro e; cases e
    · rw [List.getElem?_set_ne hb] at hv
      exact h i b x v hb hx hv g hg
  intro a b u v hab hu hv g hg hg2
  have hlen : (L.set i nilV ++ [x]).length = (L.set i nilV).length + 1 := by simp
  have ha := (List.getElem?_eq_some_iff.1 hu).1
  have hb := (List.getElem?_eq_some_iff.1 hv).1
  rw [hlen] at ha hb
  by_cases ha2 : a < (L.set i nilV).length
  · rw [List.getElem?_append_left ha2] at hu
    by_cases hb2 : b < (L.set i nilV).length
    · rw [List.getElem?_append_left hb2] at hv
      exact h1 a b u v hab hu hv g hg hg2
    · rw [List.getElem?_append_right (by omega), show b - (L.set i nilV).length = 0 by omega] at hv
      cases hv
      exact key a u hu g hg2 hg
  · rw [List.getElem?_append_right (by omega), show a - (L.set i nilV).length = 0 by omega] at hu
    cases hu
    rw [List.getElem?_append_left (by omega)] at hv
    exact key b v hv g hg hg2
def slK (k : Kd) : Value := .slice k.ad k.rs.length k.cp
def blkV (g : Nat) : Value := .slice (some ⟨g, 0, none⟩) 0 0
theorem blkV_own (g : Nat) : (blkV g).ownBlock = some g := rfl
/-- A row is kept where another one of the list has grown. -/
theorem Sep.keep {L : List Value} (h : Sep L) {i j : Nat} {x y : Value} (hij : i ≠ j) (hx : L[i]? = some x) (hy : L[j]? = some y) : y.ownBlock = none ∨ y.ownBlock ≠ x.ownBlock := by
  cases hyo : y.ownBlock with
  | none => exact .inl rfl
  | some g => exact .inr fun e => h i j x y hij hx hy g e.symm hyo
theorem own_slice_same {a : Option Addr} {n m c d : Nat} : Value.ownBlock (.slice a n c) = Value.ownBlock (.slice a m d) := by
  cases a with
  | none => rfl
  | some p => rfl
theorem KindsOut.kept {B : Nat} {w w' : World} {v : Value} {ks : List Kd} {row : Option Nat} (h : KindsOut B w v ks) (hg : w.grownBy w' row) (h1 : v.ownBlock = none ∨ v.ownBlock ≠ row) (h2 : ∀ k ∈ ks, (slK k).ownBlock = none ∨ (slK k).ownBlock ≠ row) : KindsOut B w' v ks :=
  ⟨World.ownsRow.kept h.row hg h1, fun k hk => ⟨World.ownsRow.kept (h.inn k hk).1 hg (h2 k hk), (h.inn k hk).2⟩⟩
theorem KindsOut.stay {B : Nat} {w w' : World} {v : Value} {l : List Kd} (h : KindsOut B w v l) (hb : Below w.heap.size w w') : KindsOut B w' v l := ⟨own_below h.row hb, fun k hk => ⟨own_below (h.inn k hk).1 hb, (h.inn k hk).2⟩⟩
theorem PropsOut.stay {B : Nat} {w w' : World} {v : Value} {l : List Pr} (h : PropsOut B w v l) (hb : Below w.heap.size w w') : PropsOut B w' v l := own_below h hb
theorem SpansOut.stay {B : Nat} {w w' : World} {v : Value} {l : List (Int × Int)} (h : SpansOut B w v l) (hb : Below w.heap.size w w') : SpansOut B w' v l := own_below h hb
theorem Blk.kept {w w' : World} {g : Nat} {T : TypeId} {cs : Array Value} {row : Option Nat} (h : Blk w g T cs) (hg : w.grownBy w' row) (hne : some g ≠ row) : Blk w' g T cs := by
  have hlt := h.lt
  unfold Blk at *
  rw [← h]
  exact hg.block g hlt hne
/-- The parser's memory: the table so far, a kind so far, the rows, a row's words; what stands in both boxes. -/
structure PaI (w0 : World) (T : Nat) (bp bk bs : Value) (kc : Value) (nm : ByteArray) (rv wv pv sv kv : Value) (R ws : List ByteArray) (ps : List Pr) (rs : List (Int × Int)) (pu : Int) (ks : List Kd) (W : World) : Prop where
  ht : w0.heap.size = T
  b : Below T w0 W
  ob : Blk W T 25 #[bp, bk, .int .i64 pu]
  kb : ∀ g, kc.ownBlock = some g → Blk W g 51 #[.string nm, bs]
  rr : StrsOut T W rv R
  wr : StrsOut T W wv ws
  pr : PropsOut T W pv ps
  sr : SpansOut T W sv rs
  kr : KindsOut T W kv ks
  sep : Sep ([blkV T, kc, rv, wv, pv, sv, kv] ++ ks.map slK)
  lt : ∀ y ∈ [blkV T, kc, rv, wv, pv, sv, kv] ++ ks.map slK, ∀ g, y.ownBlock = some g → T ≤ g ∧ g < W.heap.size
section
variable {w0 : World} {T : Nat} {bp bk bs : Value} {kc : Value} {nm : ByteArray} {rv wv pv sv kv : Value} {R ws : List ByteArray} {ps : List Pr} {rs : List (Int × Int)} {pu : Int} {ks : List Kd} {W W' : World}
theorem PaI.on (h : PaI w0 T bp bk bs kc nm rv wv pv sv kv R ws ps rs pu ks W) (hb : Below W.heap.size W W') : PaI w0 T bp bk bs kc nm rv wv pv sv kv R ws ps rs pu ks W' :=
  ⟨h.ht, h.b.trans (hb.mono (Nat.le_of_lt h.ob.lt)), h.ob.on hb, fun g e => (h.kb g e).on hb, own_below h.rr hb, own_below h.wr hb, h.pr.stay hb, h.sr.stay hb, h.kr.stay hb, h.sep, fun y hy g e => ⟨(h.lt y hy g e).1, Nat.lt_of_lt_of_le (h.lt y hy g e).2 hb.size⟩⟩
theorem kindAt {ks : List Kd} {k : Kd} (hk : k ∈ ks) (A : List Value) : ∃ j, A.length ≤ j ∧ (A ++ ks.map slK)[j]? = some (slK k) := by
  obtain ⟨j, hj⟩ := List.mem_iff_getElem?.1 hk
  exact ⟨A.length + j, by omega, by rw [List.getElem?_append_right (by omega), Nat.add_sub_cancel_left, List.getElem?_map, hj]; rfl⟩
theorem PaI.ltb (h : PaI w0 T bp bk bs kc nm rv wv pv sv kv R ws ps rs pu ks W) : Below w0.heap.size w0 W := by rw [h.ht]; exact h.b
/-- All but the i-th row are kept where this one has grown. -/
theorem PaI.kept (h : PaI w0 T bp bk bs kc nm rv wv pv sv kv R ws ps rs pu ks W) {x : Value} (i : Nat) (hx : ([blkV T, kc, rv, wv, pv, sv, kv] ++ ks.map slK)[i]? = some x) (hi : i < 7) (hg : W.grownBy W' x.ownBlock) :
    Below T w0 W' ∧ (i ≠ 0 → Blk W' T 25 #[bp, bk, .int .i64 pu]) ∧ (i ≠ 1 → ∀ g, kc.ownBlock = some g → Blk W' g 51 #[.string nm, bs]) ∧ (i ≠ 2 → StrsOut T W' rv R) ∧ (i ≠ 3 → StrsOut T W' wv ws) ∧ (i ≠ 4 → PropsOut T W' pv ps) ∧ (i ≠ 5 → SpansOut T W' sv rs) ∧ (i ≠ 6 → KindsOut T W' kv ks) ∧ ∀ y ∈ [blkV T, kc, rv, wv, pv, sv, kv] ++ ks.map slK, ∀ g, y.ownBlock = some g → T ≤ g ∧ g < W'.heap.size := by
  have hxm := List.mem_of_getElem? hx
  have hlt := h.lt x hxm
  refine ⟨h.b.grown hg (Nat.le_of_lt h.ob.lt) (fun r e => (hlt r e).1), fun hn => h.ob.kept hg (fun e => ?_), fun hn g e => (h.kb g e).kept hg (fun e2 => ?_), fun hn => World.ownsRow.kept h.rr hg (h.sep.keep hn hx rfl), fun hn => World.ownsRow.kept h.wr hg (h.sep.keep hn hx rfl), fun hn => World.ownsRow.kept h.pr hg (h.sep.keep hn hx rfl), fun hn => World.ownsRow.kept h.sr hg (h.sep.keep hn hx rfl), fun hn => h.kr.kept hg (h.sep.keep hn hx rfl) (fun k hk => ?_), fun y hy g e => ⟨(h.lt y hy g e).1, Nat.lt_of_lt_of_le (h.lt y hy g e).2 hg.size⟩⟩
  · exact h.sep 0 i _ x (Ne.symm hn) rfl hx T rfl e.symm
  · exact h.sep 1 i _ x (Ne.symm hn) rfl hx g e e2.symm
  · obtain ⟨j, hj, hjk⟩ := kindAt hk [blkV T, kc, rv, wv, pv, sv, kv]
    exact h.sep.keep (show i ≠ j by simp at hj; omega) hx hjk
theorem fresh_ok {L : List Value} {H : Nat} {B : Nat} (hl : ∀ y ∈ L, ∀ g, y.ownBlock = some g → B ≤ g ∧ g < H) {x : Value} {g : Nat} (hat : x.ownBlock = some g ∨ H ≤ g) {n c : Nat} : ∀ g', Value.ownBlock (.slice (some ⟨g, 0, none⟩) n c) = some g' → x.ownBlock = some g' ∨ ∀ y ∈ L, y.ownBlock ≠ some g' := by
  intro g' e
  cases e
  rcases hat with h | h
  · exact .inl h
  · exact .inr fun y hy e => by have := (hl y hy g e).2; omega
theorem lt_set {L : List Value} {B H : Nat} (hl : ∀ y ∈ L, ∀ g, y.ownBlock = some g → B ≤ g ∧ g < H) {i : Nat} {x : Value} (hx : ∀ g, x.ownBlock = some g → B ≤ g ∧ g < H) : ∀ y ∈ L.set i x, ∀ g, y.ownBlock = some g → B ≤ g ∧ g < H := by
  intro y hy g e
  rcases List.mem_or_eq_of_mem_set hy with h1 | h1
  · exact hl y h1 g e
  · subst h1; exact hx g e
/-- A cell of the table's box. -/
theorem PaI.setT (h : PaI w0 T bp bk bs kc nm rv wv pv sv kv R ws ps rs pu ks W) (i : Nat) (u : Value) {bp' bk' : Value} {pu' : Int} (he : (#[bp, bk, .int .i64 pu] : Array Value).setIfInBounds i u = #[bp', bk', .int .i64 pu']) :
    PaI w0 T bp' bk' bs kc nm rv wv pv sv kv R ws ps rs pu' ks (W.setCell ⟨T, i, none⟩ u) := by
  obtain ⟨k1, -, k3, k4, k5, k6, k7, k8, k9⟩ := h.kept (x := blkV T) 0 rfl (by omega) (grown_set W T i u)
  exact ⟨h.ht, k1, by rw [← he]; exact h.ob.set_ i u, k3 (by decide), k4 (by decide), k5 (by decide), k6 (by decide), k7 (by decide), k8 (by decide), h.sep, k9⟩
/-- A cell of the kind's box. -/
theorem PaI.setK {K : Nat} (h : PaI w0 T bp bk bs (blkV K) nm rv wv pv sv kv R ws ps rs pu ks W) (i : Nat) (u : Value) {bs' : Value} {nm' : ByteArray} (he : (#[.string nm, bs] : Array Value).setIfInBounds i u = #[.string nm', bs']) :
    PaI w0 T bp bk bs' (blkV K) nm' rv wv pv sv kv R ws ps rs pu ks (W.setCell ⟨K, i, none⟩ u) := by
  obtain ⟨k1, k2, -, k4, k5, k6, k7, k8, k9⟩ := h.kept (x := blkV K) 1 rfl (by omega) (grown_set W K i u)
  refine ⟨h.ht, k1, k2 (by decide), fun g e => ?_, k4 (by decide), k5 (by decide), k6 (by decide), k7 (by decide), k8 (by decide), h.sep, k9⟩
  cases e
  rw [← he]
  exact (h.kb K rfl).set_ i u
/-- The properties grow. -/
theorem PaI.moreP {g cap n : Nat} {ps' : List Pr} (h : PaI w0 T bp bk bs kc nm rv wv pv sv kv R ws ps rs pu ks W) (hown : PropsOut T W' (.slice (some ⟨g, 0, none⟩) n cap) ps') (hg : W.grownBy W' pv.ownBlock) (hat : pv.ownBlock = some g ∨ W.heap.size ≤ g) :
    PaI w0 T bp bk bs kc nm rv wv (.slice (some ⟨g, 0, none⟩) n cap) sv kv R ws ps' rs pu ks W' := by
  obtain ⟨k1, k2, k3, k4, k5, -, k7, k8, k9⟩ := h.kept (x := pv) 4 rfl (by omega) hg
  exact ⟨h.ht, k1, k2 (by decide), k3 (by decide), k4 (by decide), k5 (by decide), hown, k7 (by decide), k8 (by decide),
    h.sep.set_ (i := 4) rfl (fresh_ok h.lt hat), lt_set (i := 4) k9 (World.ownsRow.lt hown)⟩
/-- The ranges grow. -/
theorem PaI.moreS {g cap n : Nat} {rs' : List (Int × Int)} (h : PaI w0 T bp bk bs kc nm rv wv pv sv kv R ws ps rs pu ks W) (hown : SpansOut T W' (.slice (some ⟨g, 0, none⟩) n cap) rs') (hg : W.grownBy W' sv.ownBlock) (hat : sv.ownBlock = some g ∨ W.heap.size ≤ g) :
    PaI w0 T bp bk bs kc nm rv wv pv (.slice (some ⟨g, 0, none⟩) n cap) kv R ws ps rs' pu ks W' := by
  obtain ⟨k1, k2, k3, k4, k5, k6, -, k8, k9⟩ := h.kept (x := sv) 5 rfl (by omega) hg
  exact ⟨h.ht, k1, k2 (by decide), k3 (by decide), k4 (by decide), k5 (by decide), k6 (by decide), hown, k8 (by decide),
    h.sep.set_ (i := 5) rfl (fresh_ok h.lt hat), lt_set (i := 5) k9 (World.ownsRow.lt hown)⟩
/-- The properties are cut. -/
theorem PaI.cut {A : Option Addr} {n m c : Nat} {ps' : List Pr} (h : PaI w0 T bp bk bs kc nm rv wv (.slice A n c) sv kv R ws ps rs pu ks W) (hown : PropsOut T W (.slice A m c) ps') : PaI w0 T bp bk bs kc nm rv wv (.slice A m c) sv kv R ws ps' rs pu ks W :=
  ⟨h.ht, h.b, h.ob, h.kb, h.rr, h.wr, hown, h.sr, h.kr, h.sep.set_ (i := 4) (x' := .slice A m c) rfl (fun g e => .inl (by rw [← e]; exact own_slice_same)), lt_set (i := 4) h.lt (World.ownsRow.lt hown)⟩
/-- A row's words are read. -/
theorem PaI.words {A : Option Addr} {n c : Nat} {ws' : List ByteArray} (h : PaI w0 T bp bk bs kc nm rv wv pv sv kv R ws ps rs pu ks W) (hb : Below W.heap.size W W') (hown : StrsOut W.heap.size W' (.slice A n c) ws') : PaI w0 T bp bk bs kc nm rv (.slice A n c) pv sv kv R ws' ps rs pu ks W' := by
  have h2 := h.on hb
  have hz : T ≤ W.heap.size := Nat.le_of_lt h.ob.lt
  refine ⟨h2.ht, h2.b, h2.ob, h2.kb, h2.rr, ?_, h2.pr, h2.sr, h2.kr, h.sep.set_ (i := 3) (x' := .slice A n c) rfl (fun g e => .inr fun y hy e2 => by have h3 := (World.ownsRow.lt hown g e).1; have h4 := (h.lt y hy g e2).2; omega), lt_set (i := 3) h2.lt (fun g e => by have h3 := World.ownsRow.lt hown g e; omega)⟩
  exact ⟨hown.1, hown.2.imp id fun ⟨g, cap, cur, a, b, r⟩ => ⟨g, cap, cur, a, by omega, r⟩⟩
/-- A kind's box is made. -/
theorem PaI.box (h : PaI w0 T bp bk bs kc nm rv wv pv sv kv R ws ps rs pu ks W) : PaI w0 T bp bk nilV (blkV W.heap.size) ⟨#[]⟩ rv wv pv nilV kv R ws ps [] pu ks (W.alloc (.cells #[.string ⟨#[]⟩, .slice none 0 0] 51)) := by
  have hb := (Below.refl _ W).alloc (Nat.le_refl _) (.cells #[.string ⟨#[]⟩, .slice none 0 0] 51)
  have h2 := h.on hb
  have s1 := (h.sep.set_ (i := 1) (x' := blkV W.heap.size) rfl (fun g e => .inr fun y hy e2 => by have h4 := (h.lt y hy g e2).2; have e3 : W.heap.size = g := Option.some.inj e; omega)).set_ (i := 5) (x' := nilV) rfl (fun g e => by cases e)
  refine ⟨h2.ht, h2.b, h2.ob, fun g e => by cases e; exact Blk.new _ _ _, h2.rr, h2.wr, h2.pr, World.ownsRow_nil _ _ _ _, h2.kr, s1, lt_set (i := 5) (lt_set (i := 1) h2.lt (fun g e => by cases e; have := h.ob.lt; simp; omega)) (fun g e => by cases e)⟩
/-- A kind is added: its ranges go to the end. -/
theorem PaI.moreK {K g cap n : Nat} {A : Option Addr} {m c : Nat} (h : PaI w0 T bp bk bs (blkV K) nm rv wv pv (.slice A m c) kv R ws ps rs pu ks W) (hm : m = rs.length) (hn : n = ks.length + 1)
    (hown : W'.ownsRow T 51 2 (.slice (some ⟨g, 0, none⟩) n cap) n (kdCells ks ++ [.string nm, .slice A m c])) (hg : W.grownBy W' kv.ownBlock) (hat : kv.ownBlock = some g ∨ W.heap.size ≤ g) :
    PaI w0 T bp bk bs (blkV K) nm rv wv pv nilV (.slice (some ⟨g, 0, none⟩) n cap) R ws ps [] pu (ks ++ [⟨nm, A, c, rs⟩]) W' := by
  subst hm
  subst hn
  obtain ⟨k1, k2, k3, k4, k5, k6, k7, -, k9⟩ := h.kept (x := kv) 6 rfl (by omega) hg
  have hs7 := k7 (by decide)
  have s1 := (h.sep.set_ (i := 6) (x' := .slice (some ⟨g, 0, none⟩) (ks.length + 1) cap) rfl (fresh_ok h.lt hat)).move (i := 5) (x := .slice A rs.length c) rfl
  have l1 := lt_set (i := 6) k9 (World.ownsRow.lt hown)
  refine ⟨h.ht, k1, k2 (by decide), k3 (by decide), k4 (by decide), k5 (by decide), k6 (by decide), World.ownsRow_nil _ _ _ _, ⟨?_, fun k hk => ?_⟩, ?_, ?_⟩
  · have := hown
    simpa [kdCells] using this
  · rcases List.mem_append.1 hk with hk | hk
    · obtain ⟨j, hj, hjk⟩ := kindAt hk [blkV T, blkV K, rv, wv, pv, .slice A rs.length c, kv]
      have hj7 : 7 ≤ j := hj
      refine ⟨World.ownsRow.kept (h.kr.inn k hk).1 hg (h.sep.keep (show 6 ≠ j by omega) rfl hjk), fun g' e e2 => ?_⟩
      rcases fresh_ok h.lt hat g' e2 with e3 | e3
      · exact h.sep 6 j _ _ (by omega) rfl hjk g' e3 e
      · exact e3 _ (List.mem_of_getElem? hjk) e
    · rw [List.mem_singleton] at hk
      subst hk
      refine ⟨hs7, fun g' e e2 => ?_⟩
      rcases fresh_ok h.lt hat g' e2 with e3 | e3
      · exact h.sep 6 5 _ _ (by decide) rfl rfl g' e3 e
      · exact e3 (.slice A rs.length c) (by simp) e
  · rw [List.map_append, ← List.append_assoc]
    exact s1
  · intro y hy g' e
    rw [List.map_append, ← List.append_assoc] at hy
    rcases List.mem_append.1 hy with hy | hy
    · have l2 := lt_set (i := 5) (x := nilV) l1 (fun g e => by cases e)
      exact l2 y hy g' e
    · rw [List.map_cons, List.map_nil, List.mem_singleton] at hy
      subst hy
      exact World.ownsRow.lt hs7 g' e
/-- Between two rows: no kind is under way. -/
theorem PaI.rest (h : PaI w0 T bp bk bs kc nm rv wv pv sv kv R ws ps rs pu ks W) : PaI w0 T bp bk nilV nilV ⟨#[]⟩ rv nilV pv nilV kv R [] ps [] pu ks W :=
  ⟨h.ht, h.b, h.ob, fun g e => (by cases e), h.rr, World.ownsRow_nil _ _ _ _, h.pr, World.ownsRow_nil _ _ _ _, h.kr, ((h.sep.set_ (i := 1) (x' := nilV) rfl (fun g e => by cases e)).set_ (i := 3) (x' := nilV) rfl (fun g e => by cases e)).set_ (i := 5) (x' := nilV) rfl (fun g e => by cases e),
    lt_set (i := 5) (lt_set (i := 3) (lt_set (i := 1) h.lt (fun g e => by cases e)) (fun g e => by cases e)) (fun g e => by cases e)⟩
/-- The start. -/
theorem PaI.new (w0 : World) {A : Option Addr} {n c : Nat} {R : List ByteArray} {W2 : World} (hb : Below (w0.heap.size + 1) (w0.alloc (.cells #[.slice none 0 0, .slice none 0 0, .int .i64 0] 25)) W2) (hown : StrsOut (w0.heap.size + 1) W2 (.slice A n c) R) :
    PaI w0 w0.heap.size nilV nilV nilV nilV ⟨#[]⟩ (.slice A n c) nilV nilV nilV nilV R [] [] [] 0 [] W2 := by
  have s0 : Sep [nilV, nilV, nilV, nilV, nilV, nilV, nilV] := by
    intro i j x y _ hx _ g e
    have hm := List.mem_of_getElem? hx
    simp at hm
    subst hm
    cases e
  have l0 := World.ownsRow.lt hown
  have hz : w0.heap.size < W2.heap.size := by have := hb.size; simp at this; omega
  have s1 := (s0.set_ (i := 0) (x' := blkV w0.heap.size) rfl (fun g e => .inr fun y hy e2 => by simp at hy; subst hy; cases e2)).set_ (i := 2) (x' := .slice A n c) rfl (fun g e => .inr fun y hy e2 => by
    have h1 := l0 g e
    simp at hy
    rcases hy with rfl | rfl
    · have : w0.heap.size = g := Option.some.inj e2
      omega
    · cases e2)
  refine ⟨rfl, ((Below.refl _ w0).alloc (Nat.le_refl _) _).trans (hb.mono (Nat.le_succ _)), (Blk.new w0 _ _).below hb (Nat.lt_succ_self _), fun g e => (by cases e), ?_, World.ownsRow_nil _ _ _ _, World.ownsRow_nil _ _ _ _, World.ownsRow_nil _ _ _ _, KindsOut.nil _ _, s1, fun y hy g e => ?_⟩
  · exact ⟨hown.1, hown.2.imp id fun ⟨g, cap, cur, a, b, r⟩ => ⟨g, cap, cur, a, by omega, r⟩⟩
  · simp at hy
    rcases hy with rfl | rfl | rfl | rfl
    · have : w0.heap.size = g := Option.some.inj e
      omega
    · cases e
    · have := l0 g e
      omega
    · cases e
/-- A property more, where it lies. -/
theorem PaI.addP {wa w7 : World} {A : Option Addr} {n c g cap H : Nat} (h : PaI w0 T bp bk bs kc nm rv wv (.slice A n c) sv kv R ws ps rs pu ks W) (hn : n = ps.length) {p : Pr}
    (hown : w7.ownsRow T 47 2 (.slice (some ⟨g, 0, none⟩) (n + 1) cap) (n + 1) (propCells ps ++ [.string p.nm, .int .i64 p.er])) (hwa : Below W.heap.size W wa) (hz : wa.heap.size = H) (hgrow : wa.grownBy w7 (Value.ownBlock (.slice A n c))) (hat : Value.ownBlock (.slice A n c) = some g ∨ g = H) :
    PaI w0 T (.slice (some ⟨g, 0, none⟩) (n + 1) cap) bk bs kc nm rv wv (.slice (some ⟨g, 0, none⟩) (n + 1) cap) sv kv R ws (ps ++ [p]) rs pu ks (w7.setCell ⟨T, 0, none⟩ (.slice (some ⟨g, 0, none⟩) (n + 1) cap)) := by
  subst hn
  subst hz
  exact ((h.on hwa).moreP (ps' := ps ++ [p]) (by simpa [PropsOut, propCells] using hown) hgrow (hat.imp id (fun e => Nat.le_of_eq e.symm))).setT 0 _ rfl
theorem PaI.addS {wa w7 : World} {K : Nat} {A : Option Addr} {n c g cap H : Nat} (h : PaI w0 T bp bk bs (blkV K) nm rv wv pv (.slice A n c) kv R ws ps rs pu ks W) (hn : n = rs.length) {p : Int × Int}
    (hown : w7.ownsRow T 43 2 (.slice (some ⟨g, 0, none⟩) (n + 1) cap) (n + 1) (spanCells rs ++ [.int .i64 p.1, .int .i64 p.2])) (hwa : Below W.heap.size W wa) (hz : wa.heap.size = H) (hgrow : wa.grownBy w7 (Value.ownBlock (.slice A n c))) (hat : Value.ownBlock (.slice A n c) = some g ∨ g = H) :
    PaI w0 T bp bk (.slice (some ⟨g, 0, none⟩) (n + 1) cap) (blkV K) nm rv wv pv (.slice (some ⟨g, 0, none⟩) (n + 1) cap) kv R ws ps (rs ++ [p]) pu ks (w7.setCell ⟨K, 1, none⟩ (.slice (some ⟨g, 0, none⟩) (n + 1) cap)) := by
  subst hn
  subst hz
  exact ((h.on hwa).moreS (rs' := rs ++ [p]) (by simpa [SpansOut, spanCells] using hown) hgrow (hat.imp id (fun e => Nat.le_of_eq e.symm))).setK 1 _ rfl
theorem PaI.addK {wa w7 : World} {K : Nat} {A B : Option Addr} {n c m d g cap H : Nat} (h : PaI w0 T bp bk bs (blkV K) nm rv wv pv (.slice B m d) (.slice A n c) R ws ps rs pu ks W) (hm : m = rs.length) (hn : n = ks.length)
    (hown : w7.ownsRow T 51 2 (.slice (some ⟨g, 0, none⟩) (n + 1) cap) (n + 1) (kdCells ks ++ [.string nm, .slice B m d])) (hwa : Below W.heap.size W wa) (hz : wa.heap.size = H) (hgrow : wa.grownBy w7 (Value.ownBlock (.slice A n c))) (hat : Value.ownBlock (.slice A n c) = some g ∨ g = H) :
    PaI w0 T bp (.slice (some ⟨g, 0, none⟩) (n + 1) cap) bs (blkV K) nm rv wv pv nilV (.slice (some ⟨g, 0, none⟩) (n + 1) cap) R ws ps [] pu (ks ++ [⟨nm, B, d, rs⟩]) (w7.setCell ⟨T, 1, none⟩ (.slice (some ⟨g, 0, none⟩) (n + 1) cap)) := by
  subst hz
  exact ((h.on hwa).moreK (W' := w7) hm (by rw [hn]) hown hgrow (hat.imp id (fun e => Nat.le_of_eq e.symm))).setT 1 _ rfl
theorem StrsOut.readsT {B n c : Nat} {w : World} {A : Option Addr} {l : List ByteArray} (h : StrsOut B w (.slice A n c) l) : n = l.length ∧ StrsAt w w.heap.size A l ∧ l.length ≤ c ∧ l.length ≤ maxLen :=
  own_rowAt (enc := encB) h (fun i x hi j hj => by
    obtain rfl : j = 0 := by omega
    rw [Nat.mul_one, Nat.add_zero, List.getElem?_map, hi]; rfl)
theorem propCells_len : ∀ l : List Pr, (propCells l).length = l.length * 2
  | [] => rfl
  | x :: l => by
    have h := propCells_len l
    unfold propCells at *
    rw [List.flatMap_cons, List.length_append, h, List.length_cons]
    simp
    omega
theorem PropsOut.cut {B n c : Nat} {w : World} {A : Option Addr} {l m : List Pr} (h : PropsOut B w (.slice A n c) (l ++ m)) : PropsOut B w (.slice A l.length c) l ∧ n = (l ++ m).length ∧ n ≤ c := by
  rcases h.2 with ⟨hv, h0⟩ | ⟨g, cap, cur, hv, hg, hh, hle, hcap, hsz, hxs⟩
  · cases hv
    have h1 : l = [] ∧ m = [] := by rw [List.length_append] at h0; exact ⟨List.eq_nil_of_length_eq_zero (by omega), List.eq_nil_of_length_eq_zero (by omega)⟩
    obtain ⟨rfl, rfl⟩ := h1
    exact ⟨World.ownsRow_nil _ _ _ _, rfl, Nat.le_refl _⟩
  · cases hv
    have hl : l.length ≤ (l ++ m).length := by simp
    refine ⟨⟨?_, .inr ⟨_, _, cur, rfl, hg, hh, Nat.le_trans hl hle, hcap, hsz, ?_⟩⟩, rfl, hle⟩
    · exact propCells_len l
    · have h2 : cur.toList.take (l.length * 2) = (cur.toList.take ((l ++ m).length * 2)).take (l.length * 2) := by
        rw [List.take_take]
        congr 1
        omega
      rw [h2, hxs]
      have h3 : propCells (l ++ m) = propCells l ++ propCells m := by simp [propCells]
      rw [h3, ← propCells_len l, List.take_left]
/-- Two words of a row, where they lie, through a region. -/
structure Wd (X wb i i2 : Nat) (a b : ByteArray) (W : World) : Prop where
  c1 : W.cell? ⟨wb, i, none⟩ = some (.string a)
  c2 : W.cell? ⟨wb, i2, none⟩ = some (.string b)
  lt : wb < W.heap.size
  ne : wb ≠ X
section
variable {X wb i i2 : Nat} {a b : ByteArray}
theorem Wd.on (h : Wd X wb i i2 a b W) (hb : Below W.heap.size W W') : Wd X wb i i2 a b W' := ⟨kept_of hb _ _ h.c1, kept_of hb _ _ h.c2, Nat.lt_of_lt_of_le h.lt hb.size, h.ne⟩
theorem Wd.al (h : Wd X wb i i2 a b W) (o : Obj) : Wd X wb i i2 a b (W.alloc o) := h.on ((Below.refl _ W).alloc (Nat.le_refl _) _)
theorem Wd.drew (h : Wd X wb i i2 a b W) : Wd X wb i i2 a b W.drew := h.on (Below.refl _ W).drew
theorem Wd.drewN (h : Wd X wb i i2 a b W) (n : Nat) : Wd X wb i i2 a b (W.drewN n) := h.on (below_drewN' (Below.refl _ W) n)
theorem Wd.grown {row : Option Nat} (h : Wd X wb i i2 a b W) (hg : W.grownBy W' row) (hr : some wb ≠ row) : Wd X wb i i2 a b W' :=
  ⟨(hg.cell_far ⟨wb, i, none⟩ h.lt hr).trans h.c1, (hg.cell_far ⟨wb, i2, none⟩ h.lt hr).trans h.c2, Nat.lt_of_lt_of_le h.lt hg.size, h.ne⟩
theorem Wd.set_ (h : Wd X wb i i2 a b W) (j : Nat) (v : Value) : Wd X wb i i2 a b (W.setCell ⟨X, j, none⟩ v) := h.grown (grown_set W X j v) (fun e => h.ne (by cases e; rfl))
theorem Wd.all (h : Wd X wb i i2 a b W) : W.cell? ⟨wb, i, none⟩ = some (.string a) ∧ W.cell? ⟨wb, i2, none⟩ = some (.string b) ∧ Wd X wb i i2 a b W := ⟨h.c1, h.c2, h⟩
end
theorem PropsOut.shape {B : Nat} {w : World} {v : Value} {l : List Pr} (h : PropsOut B w v l) : ∃ A c, v = .slice A l.length c := by
  rcases h.2 with ⟨hv, h0⟩ | ⟨g, cap, cur, hv, _⟩
  · exact ⟨none, 0, by rw [hv, h0]⟩
  · exact ⟨_, _, hv⟩
theorem SpansOut.shape {B : Nat} {w : World} {v : Value} {l : List (Int × Int)} (h : SpansOut B w v l) : ∃ A c, v = .slice A l.length c := by
  rcases h.2 with ⟨hv, h0⟩ | ⟨g, cap, cur, hv, _⟩
  · exact ⟨none, 0, by rw [hv, h0]⟩
  · exact ⟨_, _, hv⟩
theorem KindsOut.shape {B : Nat} {w : World} {v : Value} {l : List Kd} (h : KindsOut B w v l) : ∃ A c, v = .slice A l.length c := by
  rcases h.row.2 with ⟨hv, h0⟩ | ⟨g, cap, cur, hv, _⟩
  · exact ⟨none, 0, by rw [hv, h0]⟩
  · exact ⟨_, _, hv⟩
theorem psR_len {R : List ByteArray} {N : Nat} (h : ∀ x ∈ R, x.size ≤ N) (k : Nat) : (psR R k).length ≤ N := by
  unfold psR
  split
  · simp
  · rw [prsW_len]
    unfold cntW wordsAt
    cases hR : R[0]? with
    | none =>
      have h2 := splitV_len 32 ⟨#[]⟩
      have h3 : (⟨#[]⟩ : ByteArray).size = 0 := rfl
      simp only [Option.getD_none]
      omega
    | some x =>
      have h2 := splitV_len 32 x
      have h3 := h x (List.mem_of_getElem? hR)
      simp only [Option.getD_some]
      omega
theorem puR_two {R ws : List ByteArray} (h : ws = wordsAt R 1) (h2 : ws.length = 2) : puR R (1 + 1) = numR (wordW ws 1) := by
  subst h
  unfold puR
  rw [if_neg (show ¬ (1 + 1 ≤ 1) by omega), if_pos h2]
theorem puR_not {R ws : List ByteArray} (h : ws = wordsAt R 1) (h2 : ¬ ws.length = 2) : puR R (1 + 1) = puR R 1 := by
  subst h
  unfold puR
  rw [if_neg (show ¬ (1 + 1 ≤ 1) by omega), if_neg h2, if_pos (Nat.le_refl 1)]
theorem puR_more {R : List ByteArray} {k : Nat} (h : 1 < k) : puR R (k + 1) = puR R k := by
  unfold puR
  rw [if_neg (show ¬ (k + 1 ≤ 1) by omega), if_neg (show ¬ (k ≤ 1) by omega)]
theorem ksR_more {R ws : List ByteArray} {k : Nat} (hw : ws = wordsAt R k) (h : 1 < k) : ksR R (k + 1) = ksR R k ++ [(wordW ws 0, spsW ws (cntW ws))] := by
  subst hw
  rw [ksR, if_neg (show ¬ (k ≤ 1) by omega)]
theorem wordW_small {w : List ByteArray} {N : Nat} (h : ∀ x ∈ w, x.size ≤ N) (i : Nat) : (wordW w i).size ≤ N := by
  unfold wordW
  cases hx : w[i]? with
  | none => exact Nat.zero_le N
  | some x => exact h x (List.mem_of_getElem? hx)
theorem wordsAt_small {R : List ByteArray} {N : Nat} (h : ∀ x ∈ R, x.size ≤ N) (i : Nat) : ∀ x ∈ wordsAt R i, x.size ≤ N := by
  intro x hx
  unfold wordsAt at hx
  have h2 := splitV_small 32 _ x hx
  refine Nat.le_trans h2 ?_
  cases hr : R[i]? with
  | none => exact Nat.zero_le N
  | some y => exact h y (List.mem_of_getElem? hr)
theorem prsW_small {w : List ByteArray} {N : Nat} (h : ∀ x ∈ w, x.size ≤ N) : ∀ j, ∀ p ∈ prsW w j, p.nm.size ≤ N
  | 0, p, hp => by simp [prsW] at hp
  | j + 1, p, hp => by
    rw [prsW] at hp
    rcases List.mem_append.1 hp with hp | hp
    · exact prsW_small h j p hp
    · rw [List.mem_singleton] at hp
      subst hp
      exact wordW_small h _
theorem psR_small {R : List ByteArray} {N : Nat} (h : ∀ x ∈ R, x.size ≤ N) (k : Nat) : ∀ p ∈ psR R k, p.nm.size ≤ N := by
  intro p hp
  unfold psR at hp
  split at hp
  · simp at hp
  · exact prsW_small (wordsAt_small h 0) _ p hp
theorem ksR_small {R : List ByteArray} {N : Nat} (h : ∀ x ∈ R, x.size ≤ N) : ∀ k, ∀ x ∈ ksR R k, x.1.size ≤ N
  | 0, x, hx => by simp [ksR] at hx
  | k + 1, x, hx => by
    rw [ksR] at hx
    split at hx
    · simp at hx
    · rcases List.mem_append.1 hx with hx | hx
      · exact ksR_small h k x hx
      · rw [List.mem_singleton] at hx
        subst hx
        exact wordW_small (wordsAt_small h k) 0
theorem PaI.fin {r : Nat} (h : PaI w0 T bp bk bs kc nm rv wv pv sv kv R ws ps rs pu ks W) (hg : W.grownBy W' (some r)) (hr : r < T) : PropsOut T W' pv ps ∧ KindsOut T W' kv ks := by
  have key : ∀ v : Value, (∀ g, v.ownBlock = some g → T ≤ g) → v.ownBlock = none ∨ v.ownBlock ≠ some r := by
    intro v hv
    cases hvo : v.ownBlock with
    | none => exact .inl rfl
    | some g => exact .inr fun e => by have := hv g hvo; cases e; omega
  exact ⟨World.ownsRow.kept h.pr hg (key _ fun g e => (World.ownsRow.lt h.pr g e).1), h.kr.kept hg (key _ fun g e => (World.ownsRow.lt h.kr.row g e).1) (fun k hk => key _ fun g e => (World.ownsRow.lt (h.kr.inn k hk).1 g e).1)⟩
theorem below_al {a w : World} (h : Below a.heap.size a w) (o : Obj) : Below a.heap.size a (w.alloc o) := h.alloc h.size o
theorem rsplit_sp (s : ByteArray) (w : World) (hs : s.size ≤ 1000000) :
    Calls Tryz.prog 55 #[.string s, .int .u8 32] w fun e w' => ∃ A cap, e = .returned (.slice A (splitV 32 s).length cap) ∧ StrsOut w.heap.size w' (.slice A (splitV 32 s).length cap) (splitV 32 s) ∧ Below w.heap.size w w' := rsplit_any s 32 w hs
theorem rsplit_nl (s : ByteArray) (w : World) (hs : s.size ≤ 1000000) :
    Calls Tryz.prog 55 #[.string s, .int .u8 10] w fun e w' => ∃ A cap, e = .returned (.slice A (splitV 10 s).length cap) ∧ StrsOut w.heap.size w' (.slice A (splitV 10 s).length cap) (splitV 10 s) ∧ Below w.heap.size w w' := rsplit_any s 10 w hs
end
end Go.Proofs.YthihpggjglghoaaGreatDoor

namespace Go.Proofs.YthihpggjglghoaaGreatDoor
open Go.ChangeShapes Go.RowKit Go.Shelf

/-- A region of a piece of code, by its number. -/
def regionAt (n : Nat) : Code → Option Code
  | .region i ops b => if i = n then some (.region i ops b) else none
  | .seq a b => match regionAt n a with
    | some c => some c
    | none => regionAt n b
  | .loop c => regionAt n c
  | .block _ c => regionAt n c
  | .scope c => regionAt n c
  | .cond _ a b => match regionAt n a with
    | some c => some c
    | none => regionAt n b
  | _ => none

theorem meas_two {n q : Nat} (h : q + 1 < n) : n - (intOf (Value.int .i64 ((q : Int) + 2))).toNat < n - (intOf (Value.int .i64 (q : Int))).toNat := by
  have h4 : ((q : Int) + 2).toNat = q + 2 := by omega
  simp only [intOf, h4, Int.toNat_natCast]
  omega
theorem wp_of_eq {P : Program} {C C' : Code} {Q : Exit → Act → World → Prop} {a : Act} {w : World} (h : Code.wp P C Q a w) (e : C = C') : Code.wp P C' Q a w := e ▸ h

set_option maxRecDepth 100000 in
set_option maxHeartbeats 4000000 in
theorem parsed_r11 {Q : Exit → Act → World → Prop} {w0 wy : World} {T K : Nat} {pv sv kv rv : Value} {R ws : List ByteArray} {L : List Pr} {M : List (Int × Int)} {pu : Int} {ks : List Kd} {wb wo wcp q : Nat} {a b : ByteArray}
    {u0 u1 u2 u4 u5 u9 u10 u11 u12 u13 u14 u15 u16 u17 u18 u19 u20 u21 u22 u23 u24 u25 u26 u27 u28 u29 u30 u31 u32 u33 u34 u35 u36 u37 u38 u39 u40 u41 u42 u43 u44 u45 u46 u47 u48 u49 u50 u51 u52 u53 u54 u55 u56 u57 u58 u59 u60 u61 u62 u63 u64 u65 u66 u67 u68 u69 u70 u71 u72 u73 u74 u75 u76 u77 u78 u79 u80 u81 u82 u83 u84 u85 u86 u87 u88 u89 u90 u91 u92 u93 u94 u95 u96 u97 u98 u99 u100 : Value}
    (HY : Hid (PaI w0 T pv kv sv (blkV K) ⟨#[]⟩ rv (.slice (some ⟨wb, wo, none⟩) ws.length wcp) pv sv kv R ws L M pu ks wy))
    (HA : Hid (ws[q]? = some a)) (HB : Hid (ws[q + 1]? = some b)) (haz : a.size ≤ 2000) (hbz : b.size ≤ 2000) (hwz : ws.length ≤ 2001) (hLL : L.length ≤ 5000) (_hML : M.length ≤ 5000) (_hK : T < K)
    (hQ : ∀ (v30 v31 v32 v33 v34 v35 v36 v37 v38 v39 v40 v41 v42 v43 v44 v45 pv2 : Value) (W : World), Hid (PaI w0 T pv2 kv sv (blkV K) ⟨#[]⟩ rv (.slice (some ⟨wb, wo, none⟩) ws.length wcp) pv2 sv kv R ws (L ++ [⟨a, numR b⟩]) M pu ks W) → Q .normal ⟨#[u0, u1, u2, .pointer (some ⟨T, 0, none⟩), u4, u5, .slice (some ⟨wb, wo, none⟩) ws.length wcp, .pointer (some ⟨K, 0, none⟩), .int .i64 q, u9, u10, u11, u12, u13, u14, u15, u16, u17, u18, u19, u20, u21, u22, u23, u24, u25, u26, u27, u28, u29, v30, v31, v32, v33, v34, v35, v36, v37, v38, v39, v40, v41, v42, v43, v44, v45, u46, u47, u48, u49, u50, u51, u52, u53, u54, u55, u56, u57, u58, u59, u60, u61, u62, u63, u64, u65, u66, u67, u68, u69, u70, u71, u72, u73, u74, u75, u76, u77, u78, u79, u80, u81, u82, u83, u84, u85, u86, u87, u88, u89, u90, u91, u92, u93, u94, u95, u96, u97, u98, u99, u100], []⟩ W) :
    Code.wp Tryz.prog ((Tryz.f24.body.bind (regionAt 11)).getD .skip) Q ⟨#[u0, u1, u2, .pointer (some ⟨T, 0, none⟩), u4, u5, .slice (some ⟨wb, wo, none⟩) ws.length wcp, .pointer (some ⟨K, 0, none⟩), .int .i64 q, u9, u10, u11, u12, u13, u14, u15, u16, u17, u18, u19, u20, u21, u22, u23, u24, u25, u26, u27, u28, u29, u30, u31, u32, u33, u34, u35, u36, u37, u38, u39, u40, u41, u42, u43, u44, u45, u46, u47, u48, u49, u50, u51, u52, u53, u54, u55, u56, u57, u58, u59, u60, u61, u62, u63, u64, u65, u66, u67, u68, u69, u70, u71, u72, u73, u74, u75, u76, u77, u78, u79, u80, u81, u82, u83, u84, u85, u86, u87, u88, u89, u90, u91, u92, u93, u94, u95, u96, u97, u98, u99, u100], []⟩ wy := by
  conv => arg 2; whnf
  have hql : q + 1 < ws.length := (List.getElem?_eq_some_iff.1 HB.out).1
  have hql0 : q < ws.length := by omega
  have hqi : (q : Int) < (ws.length : Int) := by omega
  have hqi2 : (q : Int) + 1 < (ws.length : Int) := by omega
  have hqw : IntKind.i64.wrap ((q : Int) + 1) = (q : Int) + 1 := IntWalk.i64_in _ (by omega)
  have hqn : ((q : Int) + 1).toNat = q + 1 := by omega
  have hqz : (0 : Int) ≤ (q : Int) + 1 := by omega
  obtain ⟨wb', wo', e, -, cA⟩ := strs_at HY.out.wr.readsT.2.1 HA.out
  simp only [Option.some.injEq, Addr.mk.injEq, and_true] at e
  obtain ⟨rfl, rfl⟩ := e
  obtain ⟨wb', wo', e, hwB, cB⟩ := strs_at HY.out.wr.readsT.2.1 HB.out
  simp only [Option.some.injEq, Addr.mk.injEq, and_true] at e
  obtain ⟨rfl, rfl⟩ := e
  have hwT : wb ≠ T := fun e => HY.out.sep 0 3 _ _ (by decide) rfl rfl T rfl (by rw [← e]; rfl)
  have hwK : wb ≠ K := fun e => HY.out.sep 1 3 _ _ (by decide) rfl rfl K rfl (by rw [← e]; rfl)
  have HNA := Lib.hid (fun (W : World) => rnumber_any a W (by omega))
  have HNB := Lib.hid (fun (W : World) => rnumber_any b W (by omega))
  obtain ⟨j0, hj0, jz0, jz1, jz2⟩ := info_parts infoPr
  have HQ := Lib.hid hQ
  clear hQ
  generalize numR a = na at *
  generalize numR b = nb at *
  obtain ⟨pA, pc, rfl⟩ := HY.out.pr.shape
  obtain ⟨n, hn⟩ : ∃ n, n = L.length := ⟨_, rfl⟩
  rw [← hn] at HY hLL
  have HN := Lib.hid hn
  obtain ⟨t0, -, -, t3, -, -, t6⟩ := HY.out.ob.three
  have HRW := Lib.hid (fun (W : World) (hW : Below wy.heap.size wy W) => show W.ownsRow T 47 2 (.slice pA n pc) n (propCells L) by
    have h := (HY.out.on hW).pr
    unfold PropsOut at h
    rwa [← HN.out] at h)
  have HCK := Lib.hid (fun (W : World) (hW : Below wy.heap.size wy W) => And.intro (kept_of hW _ _ t0) ((hW.frozen (p := ⟨T, 0, none⟩) t6).trans t3))
  have aT : some T ≠ Value.ownBlock (.slice pA n pc) := fun e => HY.out.sep 0 4 _ _ (by decide) rfl rfl T rfl e.symm
  have HNN := Lib.hid (⟨by unfold maxLen; omega, by omega⟩ : n + 1 ≤ maxLen ∧ (n + 1) * 24 ≤ 140737488355328)
  have HZ := Lib.hid t6
  clear hn
  refine wp_region_noPanic ?_
  go_region_law (first
      | (go_simp; (with_reducible refine (HNB.out _).mono ?_); rintro e w5 ⟨rfl, rfl⟩)
      | (go_simp; (with_reducible refine (HNA.out _).mono ?_); rintro e w5 ⟨rfl, rfl⟩)
      | (refine step_append_lies _ (by rfl) _ _ _ (by rfl) T 47 j0 (.agg #[.string ⟨#[]⟩, .int .i64 0]) 2 24 Tryz.underlying22 hj0 jz0 jz1 jz2 rfl (by omega) (.slice pA n pc) n (propCells L) (by rfl) (World.ownsRow.alloc (HRW.out _ (by repeat (first | exact Below.refl _ _ | (with_reducible apply Below.drew) | (with_reducible apply below_al) | (with_reducible apply below_drewN')))) _) ⟨_, 0, none⟩ 1 1 [.string a, .int .i64 nb] (by rfl) (by rfl) (World.news_of_block (cs := #[.string a, .int .i64 nb]) (t := 47) (fr := (0, 0)) (new_two _ _ _ _ _ rfl)) (by simp [Value.oneCell']) (by omega) HNN.out.1 HNN.out.2 (by have := HZ.out; simp; omega) (wy.heap.size + 1) (by simp) ?_; intro gg cap w7 hown1 hgrow hat hglt; have ck7 : w7.cell? ⟨T, 0, none⟩ = some (.slice pA n pc) := (hgrow.cell_far ⟨T, 0, none⟩ (by have := HZ.out; simp; omega) aT).trans (HCK.out _ (by repeat (first | exact Below.refl _ _ | (with_reducible apply Below.drew) | (with_reducible apply below_al) | (with_reducible apply below_drewN')))).1; have fk7 : w7.frozen? ⟨T, 0, none⟩ = false := (hgrow.frozen_far ⟨T, 0, none⟩ (by have := HZ.out; simp; omega) aT).trans (HCK.out _ (by repeat (first | exact Below.refl _ _ | (with_reducible apply Below.drew) | (with_reducible apply below_al) | (with_reducible apply below_drewN')))).2)
      | fail)
  all_goals (have HW7 := Lib.hid (HY.out.addP HN.out (p := ⟨a, nb⟩) hown1 (wa := _) (by repeat (first | exact Below.refl _ _ | (with_reducible apply Below.drew) | (with_reducible apply below_al) | (with_reducible apply below_drewN'))) (by simp) hgrow hat); clear hown1 hgrow hat ck7 fk7)
  all_goals exact NoPanic.normal (HQ.out _ _ _ _ _ _ _ _ _ _ _ _ _ _ _ _ _ _ HW7)
end Go.Proofs.YthihpggjglghoaaGreatDoor

namespace Go.Proofs.YthihpggjglghoaaGreatDoor
open Go.ChangeShapes Go.RowKit Go.Shelf

set_option maxRecDepth 100000 in
set_option maxHeartbeats 4000000 in
theorem parsed_r12 {Q : Exit → Act → World → Prop} {w0 wy : World} {T K : Nat} {pv sv kv rv : Value} {R ws : List ByteArray} {L : List Pr} {M : List (Int × Int)} {pu : Int} {ks : List Kd} {wb wo wcp q : Nat} {a b : ByteArray}
    {u0 u1 u2 u4 u5 u9 u10 u11 u12 u13 u14 u15 u16 u17 u18 u19 u20 u21 u22 u23 u24 u25 u26 u27 u28 u29 u30 u31 u32 u33 u34 u35 u36 u37 u38 u39 u40 u41 u42 u43 u44 u45 u46 u47 u48 u49 u50 u51 u52 u53 u54 u55 u56 u57 u58 u59 u60 u61 u62 u63 u64 u65 u66 u67 u68 u69 u70 u71 u72 u73 u74 u75 u76 u77 u78 u79 u80 u81 u82 u83 u84 u85 u86 u87 u88 u89 u90 u91 u92 u93 u94 u95 u96 u97 u98 u99 u100 : Value}
    (HY : Hid (PaI w0 T pv kv sv (blkV K) ⟨#[]⟩ rv (.slice (some ⟨wb, wo, none⟩) ws.length wcp) pv sv kv R ws L M pu ks wy))
    (HA : Hid (ws[q]? = some a)) (HB : Hid (ws[q + 1]? = some b)) (haz : a.size ≤ 2000) (hbz : b.size ≤ 2000) (hwz : ws.length ≤ 2001) (_hLL : L.length ≤ 5000) (hML : M.length ≤ 5000) (hK : T < K)
    (hQ : ∀ (v46 v47 v48 v49 v50 v51 v52 v53 v54 v55 v56 v57 v58 v59 v60 v61 v62 sv2 : Value) (W : World), Hid (PaI w0 T pv kv sv2 (blkV K) ⟨#[]⟩ rv (.slice (some ⟨wb, wo, none⟩) ws.length wcp) pv sv2 kv R ws L (M ++ [(numR a, numR b)]) pu ks W) → Q .normal ⟨#[u0, u1, u2, .pointer (some ⟨T, 0, none⟩), u4, u5, .slice (some ⟨wb, wo, none⟩) ws.length wcp, .pointer (some ⟨K, 0, none⟩), .int .i64 q, u9, u10, u11, u12, u13, u14, u15, u16, u17, u18, u19, u20, u21, u22, u23, u24, u25, u26, u27, u28, u29, u30, u31, u32, u33, u34, u35, u36, u37, u38, u39, u40, u41, u42, u43, u44, u45, v46, v47, v48, v49, v50, v51, v52, v53, v54, v55, v56, v57, v58, v59, v60, v61, v62, u63, u64, u65, u66, u67, u68, u69, u70, u71, u72, u73, u74, u75, u76, u77, u78, u79, u80, u81, u82, u83, u84, u85, u86, u87, u88, u89, u90, u91, u92, u93, u94, u95, u96, u97, u98, u99, u100], []⟩ W) :
    Code.wp Tryz.prog ((Tryz.f24.body.bind (regionAt 12)).getD .skip) Q ⟨#[u0, u1, u2, .pointer (some ⟨T, 0, none⟩), u4, u5, .slice (some ⟨wb, wo, none⟩) ws.length wcp, .pointer (some ⟨K, 0, none⟩), .int .i64 q, u9, u10, u11, u12, u13, u14, u15, u16, u17, u18, u19, u20, u21, u22, u23, u24, u25, u26, u27, u28, u29, u30, u31, u32, u33, u34, u35, u36, u37, u38, u39, u40, u41, u42, u43, u44, u45, u46, u47, u48, u49, u50, u51, u52, u53, u54, u55, u56, u57, u58, u59, u60, u61, u62, u63, u64, u65, u66, u67, u68, u69, u70, u71, u72, u73, u74, u75, u76, u77, u78, u79, u80, u81, u82, u83, u84, u85, u86, u87, u88, u89, u90, u91, u92, u93, u94, u95, u96, u97, u98, u99, u100], []⟩ wy := by
  conv => arg 2; whnf
  have hql : q + 1 < ws.length := (List.getElem?_eq_some_iff.1 HB.out).1
  have hql0 : q < ws.length := by omega
  have hqi : (q : Int) < (ws.length : Int) := by omega
  have hqi2 : (q : Int) + 1 < (ws.length : Int) := by omega
  have hqw : IntKind.i64.wrap ((q : Int) + 1) = (q : Int) + 1 := IntWalk.i64_in _ (by omega)
  have hqn : ((q : Int) + 1).toNat = q + 1 := by omega
  have hqz : (0 : Int) ≤ (q : Int) + 1 := by omega
  obtain ⟨wb', wo', e, -, cA⟩ := strs_at HY.out.wr.readsT.2.1 HA.out
  simp only [Option.some.injEq, Addr.mk.injEq, and_true] at e
  obtain ⟨rfl, rfl⟩ := e
  obtain ⟨wb', wo', e, hwB, cB⟩ := strs_at HY.out.wr.readsT.2.1 HB.out
  simp only [Option.some.injEq, Addr.mk.injEq, and_true] at e
  obtain ⟨rfl, rfl⟩ := e
  have hwT : wb ≠ T := fun e => HY.out.sep 0 3 _ _ (by decide) rfl rfl T rfl (by rw [← e]; rfl)
  have hwK : wb ≠ K := fun e => HY.out.sep 1 3 _ _ (by decide) rfl rfl K rfl (by rw [← e]; rfl)
  have HNA := Lib.hid (fun (W : World) => rnumber_any a W (by omega))
  have HNB := Lib.hid (fun (W : World) => rnumber_any b W (by omega))
  obtain ⟨s0, hs0, sz0, sz1, sz2⟩ := info_parts infoSp
  have HQ := Lib.hid hQ
  clear hQ
  generalize numR a = na at *
  generalize numR b = nb at *
  obtain ⟨sA, sc, rfl⟩ := HY.out.sr.shape
  obtain ⟨m, hm⟩ : ∃ m, m = M.length := ⟨_, rfl⟩
  have HN := Lib.hid hm
  rw [← hm] at HY hML
  obtain ⟨-, t0, -, t3, t6⟩ := (HY.out.kb K rfl).two
  have HRW := Lib.hid (fun (W : World) (hW : Below wy.heap.size wy W) => show W.ownsRow T 43 2 (.slice sA m sc) m (spanCells M) by
    have h := (HY.out.on hW).sr
    unfold SpansOut at h
    rwa [← HN.out] at h)
  have HCK := Lib.hid (fun (W : World) (hW : Below wy.heap.size wy W) => And.intro (kept_of hW _ _ t0) ((hW.frozen (p := ⟨K, 1, none⟩) t6).trans t3))
  have aT : some K ≠ Value.ownBlock (.slice sA m sc) := fun e => HY.out.sep 1 5 _ _ (by decide) rfl rfl K rfl e.symm
  have HNN := Lib.hid (⟨by unfold maxLen; omega, by omega⟩ : m + 1 ≤ maxLen ∧ (m + 1) * 16 ≤ 140737488355328)
  have HZ := Lib.hid (And.intro t6 hK)
  clear hm
  refine wp_region_noPanic ?_
  go_region_law (first
      | (go_simp; (with_reducible refine (HNB.out _).mono ?_); rintro e w5 ⟨rfl, rfl⟩)
      | (go_simp; (with_reducible refine (HNA.out _).mono ?_); rintro e w5 ⟨rfl, rfl⟩)
      | (refine step_append_lies _ (by rfl) _ _ _ (by rfl) T 43 s0 (.agg #[.int .i64 0, .int .i64 0]) 2 16 Tryz.underlying49 hs0 sz0 sz1 sz2 rfl (by omega) (.slice sA m sc) m (spanCells M) (by rfl) (World.ownsRow.alloc (HRW.out _ (by repeat (first | exact Below.refl _ _ | (with_reducible apply Below.drew) | (with_reducible apply below_al) | (with_reducible apply below_drewN')))) _) ⟨_, 0, none⟩ 1 1 [.int .i64 na, .int .i64 nb] (by rfl) (by rfl) (World.news_of_block (cs := #[.int .i64 na, .int .i64 nb]) (t := 43) (fr := (0, 0)) (new_two _ _ _ _ _ rfl)) (by simp [Value.oneCell']) (by omega) HNN.out.1 HNN.out.2 (by have := HZ.out; simp; omega) (wy.heap.size + 1) (by simp) ?_; intro gg cap w7 hown1 hgrow hat hglt; have ck7 : w7.cell? ⟨K, 1, none⟩ = some (.slice sA m sc) := (hgrow.cell_far ⟨K, 1, none⟩ (by have := HZ.out; simp; omega) aT).trans (HCK.out _ (by repeat (first | exact Below.refl _ _ | (with_reducible apply Below.drew) | (with_reducible apply below_al) | (with_reducible apply below_drewN')))).1; have fk7 : w7.frozen? ⟨K, 1, none⟩ = false := (hgrow.frozen_far ⟨K, 1, none⟩ (by have := HZ.out; simp; omega) aT).trans (HCK.out _ (by repeat (first | exact Below.refl _ _ | (with_reducible apply Below.drew) | (with_reducible apply below_al) | (with_reducible apply below_drewN')))).2)
      | fail)
  all_goals (have HW7 := Lib.hid (HY.out.addS HN.out (p := (na, nb)) hown1 (wa := _) (by repeat (first | exact Below.refl _ _ | (with_reducible apply Below.drew) | (with_reducible apply below_al) | (with_reducible apply below_drewN'))) (by simp) hgrow hat); clear hown1 hgrow hat ck7 fk7)
  all_goals exact NoPanic.normal (HQ.out _ _ _ _ _ _ _ _ _ _ _ _ _ _ _ _ _ _ _ HW7)
end Go.Proofs.YthihpggjglghoaaGreatDoor

namespace Go.Proofs.YthihpggjglghoaaGreatDoor
open Go.ChangeShapes Go.RowKit Go.Shelf

set_option maxRecDepth 100000 in
set_option maxHeartbeats 4000000 in
theorem rparsed_any (s : ByteArray) (w : World) (hs : s.size ≤ 2000) :
    Calls Tryz.prog 24 #[.string s] w fun e w' => ∃ pa pc ka kc ks, e = .returned (.agg #[.slice pa (parsedV s).1.length pc, .slice ka ks.length kc, .int .i64 (parsedV s).2.1]) ∧ PropsOut w.heap.size w' (.slice pa (parsedV s).1.length pc) (parsedV s).1 ∧ KindsOut w.heap.size w' (.slice ka ks.length kc) ks ∧ NamesFit ⟨(parsedV s).1, ks, (parsedV s).2.1⟩ ∧ ks.map (fun k => (k.nm, k.rs)) = (parsedV s).2.2 ∧ Below w.heap.size w w' := by
  obtain ⟨j0, hj0, jz0, jz1, jz2⟩ := info_parts infoPr
  obtain ⟨s0, hs0, sz0, sz1, sz2⟩ := info_parts infoSp
  obtain ⟨k0, hk0, kz0, kz1, kz2⟩ := info_parts infoKd
  have HRS := Lib.hid (fun (W : World) => rsplit_nl s W (by omega))
  have hsm := splitV_small 10 s
  have hln := splitV_len 10 s
  have HP := Lib.hid (show parsedV s = (psR (splitV 10 s) ((splitV 10 s).length - 1), puR (splitV 10 s) ((splitV 10 s).length - 1), ksR (splitV 10 s) ((splitV 10 s).length - 1)) from rfl)
  generalize parsedV s = PV at *
  generalize splitV 10 s = R at *
  have HSM := Lib.hid hsm
  clear hsm
  go_enter Tryz.func24, Tryz.ntmps24
  go_wp2_with fail
  refine (HRS.out _).mono ?_
  rintro e w1 ⟨ra, rc, rfl, hrr, hb1⟩
  have H0 := Lib.hid (show PaI (w.alloc (.cells #[.slice none 0 0, .slice none 0 0, .int .i64 0] 25)) (w.heap.size + 1) nilV nilV nilV nilV ⟨#[]⟩ (.slice ra R.length rc) nilV nilV nilV nilV R [] [] [] 0 [] w1 by
    have h := PaI.new (w.alloc (.cells #[.slice none 0 0, .slice none 0 0, .int .i64 0] 25)) (by simpa using hb1) (by simpa using hrr)
    rwa [World.size_alloc] at h)
  have HBX := Lib.hid (Blk.new w 25 #[.slice none 0 0, .slice none 0 0, .int .i64 0])
  have HBW := Lib.hid ((Below.refl _ w).alloc (Nat.le_refl _) (.cells #[.slice none 0 0, .slice none 0 0, .int .i64 0] 25))
  clear hrr hb1 HRS
  go_wp2_with fail
  generalize w.alloc (.cells #[.slice none 0 0, .slice none 0 0, .int .i64 0] 25) = w0 at *
  obtain ⟨T, hT⟩ : ∃ T, T = w.heap.size + 1 := ⟨_, rfl⟩
  rw [← hT] at H0
  rw [← hT]
  have HT := Lib.hid hT
  clear hT
  go_loopw [5] (fun i wr => ∃ k : Nat, k + 1 ≤ R.length ∧ i = .int .i64 k ∧ ∃ pv kv ks, Hid (PaI w0 T pv kv nilV nilV ⟨#[]⟩ (.slice ra R.length rc) nilV pv nilV kv R [] (psR R k) [] (puR R k) ks wr) ∧ Hid (ks.map (fun k => (k.nm, k.rs)) = ksR R k)) (fun i _ => R.length - (intOf i).toNat)
  case atStart => exact ⟨0, by omega, rfl, nilV, nilV, [], H0, rfl⟩
  case round =>
    obtain ⟨k, hk, rfl, pv, kv, ks, HI, HK⟩ := hrel
    clear H0
    by_cases hlt : k + 1 < R.length
    · --<1
      obtain ⟨ln, hl⟩ : ∃ x, R[k]? = some x := ⟨R[k], List.getElem?_eq_getElem (by omega)⟩
      have hlz := HSM.out ln (List.mem_of_getElem? hl)
      obtain ⟨rb, ro, rfl, hrB, cR⟩ := strs_at HI.out.rr.readsT.2.1 hl
      have HS := Lib.hid (fun (W : World) => rsplit_sp ln W (by omega))
      have hsm := splitV_small 32 ln
      have hwl := splitV_len 32 ln
      have hps := psR_len (N := 2000) (fun x hx => by have := HSM.out x hx; omega) k
      have HW := Lib.hid (show splitV 32 ln = wordsAt R k by unfold wordsAt; rw [hl]; rfl)
      generalize splitV 32 ln = ws at *
      have HSW := Lib.hid hsm
      clear hsm hl
      go_wp2_with fail
      refine (HS.out _).mono ?_
      rintro e w2 ⟨wa, wcp, rfl, hwr, hb2⟩
      have HI2 := Lib.hid ((HI.out.words hb2 hwr).box)
      clear hb2 hwr HS HI cR
      go_wp2_with fail
      have hK : T < w2.heap.size := by have h1 : T ≤ w2.heap.size := (HI2.out.lt (blkV w2.heap.size) (by simp) w2.heap.size rfl).1; have h2 := HI2.out.sep 0 1 _ _ (by decide) rfl rfl T rfl; have h3 : T ≠ w2.heap.size := fun e => h2 (by rw [e]; rfl); omega
      generalize w2.alloc (.cells #[.string ⟨#[]⟩, .slice none 0 0] 51) = w3 at *
      generalize w2.heap.size = K at *
      go_loopw [8] (fun v wy => ∃ j : Nat, j ≤ cntW ws ∧ v = .int .i64 (2 * j + 1 : Nat) ∧ ∃ pv' sv, Hid (PaI w0 T pv' kv sv (blkV K) ⟨#[]⟩ (.slice (some ⟨rb, ro, none⟩) R.length rc) (.slice wa ws.length wcp) pv' sv kv R ws (psR R k ++ prsW ws j) (spsW ws j) (puR R k) ks wy)) (fun v _ => ws.length - (intOf v).toNat)
      case atStart => exact ⟨0, by omega, rfl, pv, nilV, by simpa [prsW, spsW] using HI2⟩
      case round =>
        obtain ⟨j, hj, rfl, pv', sv, HY⟩ := hrel
        clear HI2
        have hcw : 2 * cntW ws + 1 ≤ ws.length ∧ ws.length ≤ 2 * cntW ws + 2 := by unfold cntW; omega
        by_cases hlj : j < cntW ws
        · --<2
          obtain ⟨wy, hwy⟩ : ∃ W, W = wr := ⟨_, rfl⟩
          subst hwy
          obtain ⟨q, hq⟩ : ∃ q, q = 2 * j + 1 := ⟨_, rfl⟩
          rw [← hq]
          obtain ⟨a, ha⟩ : ∃ x, ws[q]? = some x := ⟨ws[q]'(by omega), List.getElem?_eq_getElem _⟩
          obtain ⟨b, hb⟩ : ∃ x, ws[q + 1]? = some x := ⟨ws[q + 1]'(by omega), List.getElem?_eq_getElem _⟩
          have haz := HSW.out a (List.mem_of_getElem? ha)
          have hbz := HSW.out b (List.mem_of_getElem? hb)
          have ea : wordW ws (2 * j + 1) = a := by unfold wordW; rw [← hq, ha]; rfl
          have eb : wordW ws (2 * j + 2) = b := by unfold wordW; rw [show 2 * j + 2 = q + 1 by omega, hb]; rfl
          have HPR := Lib.hid (show psR R k ++ prsW ws (j + 1) = (psR R k ++ prsW ws j) ++ [⟨a, numR b⟩] by rw [prsW, ea, eb, List.append_assoc])
          have HSR := Lib.hid (show spsW ws (j + 1) = spsW ws j ++ [(numR a, numR b)] by rw [spsW, ea, eb])
          obtain ⟨wb, wo, rfl, hwB, cA⟩ := strs_at HY.out.wr.readsT.2.1 ha
          obtain ⟨wb', wo', e, -, cB⟩ := strs_at HY.out.wr.readsT.2.1 hb
          simp only [Option.some.injEq, Addr.mk.injEq, and_true] at e
          obtain ⟨rfl, rfl⟩ := e
          have hLL : (psR R k ++ prsW ws j).length ≤ 4999 := by rw [List.length_append, prsW_len]; omega
          have hML : (spsW ws j).length ≤ 5000 := by rw [spsW_len]; omega
          have HJ := Lib.hid hq
          have hql : q + 1 < ws.length := by omega
          have hqi2 : (q : Int) + 1 < (ws.length : Int) := by omega
          have HA := Lib.hid ha
          have HB := Lib.hid hb
          have HLL := Lib.hid hLL
          have HML := Lib.hid hML
          have hq2 : ((2 * (j + 1) + 1 : Nat) : Int) = (q : Int) + 2 := by omega
          have HQ2 := Lib.hid hq2
          have HQ3 := Lib.hid (IntWalk.wrap64_in ((q : Int) + 2) (by omega))
          clear ha hb ea eb hq hLL hML hq2 cA cB hwB
          generalize psR R k ++ prsW ws j = L at *
          generalize spsW ws j = M at *
          go_upto_region 11 with (fail)
          refine wp_of_eq (parsed_r11 HY HA HB (by omega) (by omega) (by omega) (Nat.le_succ_of_le HLL.out) HML.out hK ?_) (by kernel_rfl)
          intro v30 v31 v32 v33 v34 v35 v36 v37 v38 v39 v40 v41 v42 v43 v44 v45 pv2 wy2 HY2
          have HLL2 := Lib.hid (show (L ++ [(⟨a, numR b⟩ : Pr)]).length ≤ 5000 by rw [List.length_append]; exact Nat.succ_le_succ HLL.out)
          go_upto_region 12 with (fail)
          refine wp_of_eq (parsed_r12 HY2 HA HB (by omega) (by omega) (by omega) HLL2.out HML.out hK ?_) (by kernel_rfl)
          intro v46 v47 v48 v49 v50 v51 v52 v53 v54 v55 v56 v57 v58 v59 v60 v61 v62 sv2 wy3 HY3
          rw [← HPR.out, ← HSR.out] at HY3
          clear HY HY2
          go_wp2_with fail
          go_roundw
          case rel => exact ⟨j + 1, by omega, by rw [HQ2.out], pv2, sv2, HY3⟩
          case measure => exact meas_two hql
          -->2
        · --<3
          have hje : j = cntW ws := by omega
          obtain ⟨wy, hwy⟩ : ∃ W, W = wr := ⟨_, rfl⟩
          subst hwy
          subst hje
          obtain ⟨q, hq⟩ : ∃ q, q = 2 * cntW ws + 1 := ⟨_, rfl⟩
          rw [← hq]
          have hql : ¬ q + 1 < ws.length := by omega
          have hqi : ¬ (q : Int) + 1 < (ws.length : Int) := by omega
          have hqb : q ≤ 4000 := by omega
          obtain ⟨a, ha⟩ : ∃ x, ws[0]? = some x := ⟨ws[0]'(by omega), List.getElem?_eq_getElem _⟩
          obtain ⟨wb, wo, rfl, hwB, cA⟩ := strs_at HY.out.wr.readsT.2.1 ha
          have ea : wordW ws 0 = a := by unfold wordW; rw [ha]; rfl
          have haz := HSW.out a (List.mem_of_getElem? ha)
          obtain ⟨pA, pc, rfl⟩ := HY.out.pr.shape
          obtain ⟨sA, sc, rfl⟩ := HY.out.sr.shape
          obtain ⟨kA, kc2, rfl⟩ := HY.out.kr.shape
          rw [spsW_len, List.length_append, prsW_len] at HY
          obtain ⟨t0, t1, t2, t3, t4, t5, t6⟩ := HY.out.ob.three
          obtain ⟨y0, y1, y3, y4, y6⟩ := (HY.out.kb K rfl).two
          have hkl : ks.length = k - 2 := by
            have h1 := congrArg List.length HK.out
            rw [List.length_map, ksR_len] at h1
            exact h1
          clear hq
          by_cases hkz : k = 0
          · --<7
            subst hkz
            have HE := Lib.hid (show psR R 0 ++ prsW ws (cntW ws) = psR R (0 + 1) by unfold psR; rw [if_pos rfl, if_neg (by omega), ← HW.out]; rfl)
            have HR := Lib.hid HY.out.rest
            have HKE := Lib.hid (show ks.map (fun k => (k.nm, k.rs)) = ksR R (0 + 1) from HK.out)
            go_wp2_with fail
            go_roundw
            case rel => exact ⟨0 + 1, by omega, by go_num, _, _, ks, by rw [← HE.out]; exact HR, HKE⟩
            case measure => simp [intOf]; omega
            -->7
          · have hps0 : psR R (k + 1) = psR R k := by unfold psR; rw [if_neg hkz, if_neg (by omega)]
            have hpl : (psR R k).length = cntW (wordsAt R 0) := by unfold psR; rw [if_neg hkz, prsW_len]
            obtain ⟨c1, c2, c3⟩ := PropsOut.cut HY.out.pr
            have HC1 := Lib.hid c1
            have HP0 := Lib.hid hps0
            obtain ⟨n, hn⟩ : ∃ n, n = (psR R k).length := ⟨_, rfl⟩
            obtain ⟨m, hm⟩ : ∃ m, m = cntW ws := ⟨_, rfl⟩
            rw [← hn] at HY HC1 c3 t0 hps
            rw [← hm] at HY c3 t0 y1
            have e1 : ((n + m : Nat) : Int) - (m : Int) = (n : Int) := by omega
            have e2 : n ≤ pc := by omega
            have e3 : (n : Int) ≤ (pc : Int) := by omega
            have hmb : m ≤ 2000 := by omega
            have HMC := Lib.hid hm
            have HHK := Lib.hid (And.intro hkz hkl)
            clear c1 c2 hps0 hpl hn hm hkl
            go_upto_region 15 with (fail)
            have HI3 := Lib.hid ((HY.out.cut HC1.out).setT 0 (.slice pA n pc) rfl)
            generalize wy.setCell ⟨T, 0, none⟩ (.slice pA n pc) = w4 at *
            clear t0 t1 t2 t3 t4 t5 t6 y0 y1 y3 y4 y6 cA HY HC1 e1 e2 e3
            obtain ⟨t0, t1, t2, t3, t4, t5, t6⟩ := HI3.out.ob.three
            obtain ⟨y0, y1, y3, y4, y6⟩ := (HI3.out.kb K rfl).two
            obtain ⟨wb', wo', e, hwB4, cA⟩ := strs_at HI3.out.wr.readsT.2.1 ha
            simp only [Option.some.injEq, Addr.mk.injEq, and_true] at e
            obtain ⟨rfl, rfl⟩ := e
            by_cases hk1 : k = 1
            · subst hk1
              have HKE := Lib.hid (show ks.map (fun k => (k.nm, k.rs)) = ksR R (1 + 1) from HK.out)
              by_cases hw2 : ws.length = 2
              · --<8
                obtain ⟨b, hb⟩ : ∃ x, ws[1]? = some x := ⟨ws[1]'(by omega), List.getElem?_eq_getElem _⟩
                have hbz := HSW.out b (List.mem_of_getElem? hb)
                obtain ⟨wb', wo', e, -, cB⟩ := strs_at HI3.out.wr.readsT.2.1 hb
                simp only [Option.some.injEq, Addr.mk.injEq, and_true] at e
                obtain ⟨rfl, rfl⟩ := e
                have HU := Lib.hid (show puR R (1 + 1) = numR b by rw [puR_two HW.out hw2]; unfold wordW; rw [hb]; rfl)
                have HNB := Lib.hid (fun (W : World) => rnumber_any b W (by omega))
                have HI4 := Lib.hid ((HI3.out.setT 2 (.int .i64 (numR b)) rfl).rest)
                generalize numR b = nb at *
                have hwi : ((ws.length : Int) == 2) = true := by rw [hw2]; rfl
                have HW2 := Lib.hid hw2
                clear ha hb
                go_wp2_with fail
                refine (HNB.out _).mono ?_
                rintro e w' ⟨rfl, hw'⟩
                rw [hw']
                clear hw'
                go_wp2_with fail
                go_roundw
                case rel => exact ⟨1 + 1, by omega, by go_num, _, _, ks, by rw [HP0.out, HU.out]; exact HI4, HKE⟩
                case measure => simp [intOf]; omega
                -->8
              · --<9
                have HU := Lib.hid (puR_not HW.out hw2)
                have HI4 := Lib.hid HI3.out.rest
                have hwi : ((ws.length : Int) == 2) = false := by
                  rw [beq_eq_false_iff_ne]
                  omega
                have hwi2 : ¬ (ws.length : Int) = 2 := by omega
                clear ha
                go_wp2_with fail
                go_roundw
                case rel => exact ⟨1 + 1, by omega, by go_num, _, _, ks, by rw [HP0.out, HU.out]; exact HI4, HKE⟩
                case measure => simp [intOf]; omega
                -->9
            · --<a
              have h2k : 1 < k := by omega
              have cA0 : w4.cell? ⟨wb, wo, none⟩ = some (.string a) := cA
              have hw0 : (0 : Int) < (ws.length : Int) := by omega
              have h2i : (1 : Int) < (k : Int) := by omega
              have hki : ((k : Int) == 1) = false := by
                rw [beq_eq_false_iff_ne]
                omega
              have hki2 : ¬ (k : Int) = 1 := by omega
              have HU := Lib.hid (puR_more (R := R) h2k)
              have HKE := Lib.hid (show (ks ++ [(⟨a, sA, sc, spsW ws m⟩ : Kd)]).map (fun k => (k.nm, k.rs)) = ksR R (k + 1) by
                rw [List.map_append, HK.out, ksR_more HW.out h2k, ea, ← HMC.out]
                rfl)
              have HI4 := Lib.hid (HI3.out.setK 0 (.string a) rfl)
              have hkl : ks.length ≤ 2000 := by have := HHK.out.2; omega
              obtain ⟨z0, z1, -, -, -⟩ := (HI4.out.kb K rfl).two
              obtain ⟨-, v1, -, -, v4, -, v6⟩ := HI4.out.ob.three
              obtain ⟨kn, hkn⟩ : ∃ n, n = ks.length := ⟨_, rfl⟩
              rw [← hkn] at HI4 v1 t1 hkl
              have HKN := Lib.hid hkn
              have HM := Lib.hid (show m = (spsW ws m).length by rw [spsW_len])
              generalize spsW ws m = M at *
              have HRW := Lib.hid (fun (W : World) (hW : Below (w4.setCell ⟨K, 0, none⟩ (.string a)).heap.size (w4.setCell ⟨K, 0, none⟩ (.string a)) W) => show W.ownsRow T 51 2 (.slice kA kn kc2) kn (kdCells ks) by
                have h := (HI4.out.on hW).kr.row
                rwa [← HKN.out] at h)
              have aT : some T ≠ Value.ownBlock (.slice kA kn kc2) := fun e => HI4.out.sep 0 6 _ _ (by decide) rfl rfl T rfl e.symm
              clear ha ea hkn
              go_wp2_with (first
                | (at_builtin; (refine wpList_append_lies _ rfl _ _ 23 rfl T 51 k0 (.agg #[.string ⟨#[]⟩, .slice none 0 0]) 2 40 Tryz.underlying23 hk0 kz0 kz1 kz2 rfl (by decide) (.slice kA kn kc2) kn (kdCells ks) rfl (HRW.out _ (below_al (Below.refl _ _) _)) ⟨_, 0, none⟩ 1 1 [.string a, .slice sA m sc] rfl rfl ?f1 ?f2 (by decide) ?f3 ?f4 ?f5 _ rfl ?_))
                | go_in)
              case f2 => exact ⟨rfl, rfl⟩
              case f3 => unfold maxLen; omega
              case f4 => omega
              case f5 => simp at v6 ⊢; omega
              · intro g cap w7 hown hgrow hat hglt
                have ck7 : w7.cell? ⟨T, 1, none⟩ = some (.slice kA kn kc2) := (hgrow.cell_far ⟨T, 1, none⟩ (by simp at v6 ⊢; omega) aT).trans (kept_of ((Below.refl _ _).alloc (Nat.le_refl _) _) _ _ v1)
                have fk7 : w7.frozen? ⟨T, 1, none⟩ = false := (hgrow.frozen_far ⟨T, 1, none⟩ (by simp at v6 ⊢; omega) aT).trans ((((Below.refl _ _).alloc (Nat.le_refl _) _).frozen (p := ⟨T, 1, none⟩) v6).trans v4)
                have HW7 := Lib.hid ((HI4.out.addK HM.out HKN.out hown (below_al (Below.refl _ _) _) (by simp) hgrow hat).rest)
                clear hown hgrow hat
                go_wp2_with fail
                go_roundw
                case rel => exact ⟨k + 1, by omega, by go_num, _, _, ks ++ [⟨a, sA, sc, M⟩], by rw [HP0.out, HU.out]; exact HW7, HKE⟩
                case measure => simp [intOf]; omega
              -->a
          -->3
      -->1
    · --<4
      have hke : k = R.length - 1 := by omega
      have HKF := Lib.hid HK.out
      rw [hke] at HI HKF
      have HNF := Lib.hid (show NamesFit ⟨psR R (R.length - 1), ks, puR R (R.length - 1)⟩ from ⟨fun p hp => Nat.le_trans (psR_small HSM.out _ p hp) (by omega), fun x hx => Nat.le_trans (ksR_small HSM.out (R.length - 1) (x.nm, x.rs) (by rw [← HKF.out]; exact List.mem_map_of_mem hx)) (by omega)⟩)
      generalize psR R (R.length - 1) = P at *
      generalize puR R (R.length - 1) = U at *
      obtain ⟨pA, pc, rfl⟩ := HI.out.pr.shape
      obtain ⟨kA, kc2, rfl⟩ := HI.out.kr.shape
      obtain ⟨t0, t1, t2, -, -, -, t6⟩ := HI.out.ob.three
      have hwT : w.heap.size < T := by have := HT.out; omega
      have hB1 := HBX.out.below HI.out.b hwT
      obtain ⟨v0, v1, v2, v3, v4, v5, v6⟩ := hB1.three
      have hne : w.heap.size ≠ T := by omega
      clear hke HK
      go_wp2_with fail
      have g0 := (grown_set wr w.heap.size 0 (.slice pA P.length pc)).trans (grown_set (wr.setCell ⟨w.heap.size, 0, none⟩ (.slice pA P.length pc)) w.heap.size 1 (.slice kA ks.length kc2))
      have g1 := g0.trans (grown_set ((wr.setCell ⟨w.heap.size, 0, none⟩ (.slice pA P.length pc)).setCell ⟨w.heap.size, 1, none⟩ (.slice kA ks.length kc2)) w.heap.size 2 (.int .i64 U))
      obtain ⟨hP2, hK2⟩ := HI.out.fin g1 hwT
      have hPB : PropsOut w.heap.size _ _ _ := hP2.base (by omega)
      have hKB := hK2.base (B' := w.heap.size) (by omega)
      have hBW : Below w.heap.size w wr := HBW.out.trans (HI.out.b.mono (by omega))
      refine bodyPost_ret (v := .agg #[.slice pA P.length pc, .slice kA ks.length kc2, .int .i64 U]) ?_ rfl ⟨pA, pc, kA, kc2, ks, by rw [HP.out], by rw [HP.out]; exact hPB, hKB, by rw [HP.out]; exact HNF.out, by rw [HP.out]; exact HKF.out, ?_⟩
      · simp [results, Tryz.results24, go_sem, *]
      · repeat (first | exact hBW | refine Below.setCell ?_ (by simp) _)
      -->4
end Go.Proofs.YthihpggjglghoaaGreatDoor

namespace Go.Proofs.YthihpggjglghoaaGreatDoor
open Go.RowKit Go.Shelf

set_option maxRecDepth 100000 in
set_option maxHeartbeats 2000000 in
theorem rname_any (s : ByteArray) (w : World) (hmax : s.size ≤ 9223372036854775807) :
    Calls Tryz.prog 74 #[.string s] w fun e w' => e = .returned (.bool (nameB s)) ∧ w' = w := by
  by_cases hl : 1 ≤ s.size ∧ s.size ≤ 20
  · obtain ⟨hl1, hl2⟩ := hl
    have hin : inB (s.size : Int) 1 20 = true := inB_t (by omega) (by omega)
    by_cases h0 : (s[0]'hl1).toNat = 45
    · have H := Lib.hid (nameB_first hl1 h0)
      have hq : (((s[0]'hl1).toNat : Int) == 45) = true := by simp; omega
      clear h0
      go_enter Tryz.func74, Tryz.ntmps74
      go_wp2_with (go_at_call 34; refine (rin_any _ _ _ _).mono ?_; rintro e w' ⟨rfl, rfl⟩)
      go_ret
      exact ⟨ret_bool H.out.symm, rfl⟩
    · have hq : (((s[0]'hl1).toNat : Int) == 45) = false := by simp; omega
      by_cases h1 : (s[s.size - 1]'(by omega)).toNat = 45
      · have H := Lib.hid (nameB_last hl1 h1)
        have hq1 : (((s[s.size - 1]'(by omega)).toNat : Int) == 45) = true := by simp; omega
        clear h0 h1
        go_enter Tryz.func74, Tryz.ntmps74
        go_wp2_with (go_at_call 34; refine (rin_any _ _ _ _).mono ?_; rintro e w' ⟨rfl, rfl⟩)
        go_ret
        exact ⟨ret_bool H.out.symm, rfl⟩
      · have hq1 : (((s[s.size - 1]'(by omega)).toNat : Int) == 45) = false := by simp; omega
        have HE := Lib.hid (rest_end hl1 h1)
        have H0 := Lib.hid (nameB_rest hl2)
        have HF := Lib.hid h0
        clear h0 h1
        go_enter Tryz.func74, Tryz.ntmps74
        go_wp2_with (go_at_call 34; refine (rin_any _ _ _ _).mono ?_; rintro e w' ⟨rfl, rfl⟩)
        go_loop [3] (fun i => ∃ k : Nat, k ≤ s.size ∧ i = .int .i64 k ∧ Hid (nameRest (befAt s k) (s.data.toList.drop k) = nameB s)) (fun i => s.size - (intOf i).toNat)
        case atStart => exact ⟨0, by omega, rfl, H0.out.symm⟩
        case round =>
          obtain ⟨k, hk, rfl, HR⟩ := hrel
          by_cases hlt : k < s.size
          · have HS := Lib.hid (rest_step hlt)
            have bd1 : ((s[k]'hlt).toNat : Int) ≤ 255 := by have := (s[k]'hlt).toNat_lt; omega
            have bd0 : (0 : Int) ≤ ((s[k]'hlt).toNat : Int) := by omega
            by_cases hlet : 97 ≤ (s[k]'hlt).toNat ∧ (s[k]'hlt).toNat ≤ 122
            · have HN : Hid (nameRest (befAt s (k + 1)) (s.data.toList.drop (k + 1)) = nameB s) := by
                show _ = _
                rw [← HR.out, HS.out, if_pos hlet]
              have f1 : (((s[k]'hlt).toNat : Int) != 45) = true := by simp; omega
              have f2 : (((s[k]'hlt).toNat : Int) == 45) = false := by simp; omega
              have f3 : inB ((s[k]'hlt).toNat : Int) 97 122 = true := inB_t (by omega) (by omega)
              clear hlet HS HR
              by_cases hk0 : 0 < k
              all_goals
                go_wp2_with (go_at_call 34; refine (rin_any _ _ _ _).mono ?_; rintro e w' ⟨rfl, rfl⟩)
                go_round
                case rel => exact ⟨k + 1, by omega, by go_num, HN⟩
                case measure => simp [intOf]; omega
            · by_cases hc : (s[k]'hlt).toNat = 45
              · have hk0 : 0 < k := by
                  rcases Nat.eq_zero_or_pos k with h | h
                  · subst h; exact absurd hc HF.out
                  · exact h
                have hbf := bef_succ (s := s) (k := k - 1) (by omega)
                rw [show k - 1 + 1 = k by omega] at hbf
                have f1 : (((s[k]'hlt).toNat : Int) != 45) = false := by simp; omega
                have f2 : (((s[k]'hlt).toNat : Int) == 45) = true := by simp; omega
                by_cases hp : (s[k - 1]'(by omega)).toNat = 45
                · have f3 : (((s[k - 1]'(by omega)).toNat : Int) == 45) = true := by simp; omega
                  have HN := Lib.hid (show nameB s = false by rw [← HR.out, HS.out, if_neg hlet, if_neg (by rw [hbf]; omega)])
                  clear hlet HS HR hc hp hbf
                  go_wp2_with (go_at_call 34; refine (rin_any _ _ _ _).mono ?_; rintro e w' ⟨rfl, rfl⟩)
                  go_ret
                  exact ⟨ret_bool HN.out.symm, rfl⟩
                · have f3 : (((s[k - 1]'(by omega)).toNat : Int) == 45) = false := by simp; omega
                  have HN : Hid (nameRest (befAt s (k + 1)) (s.data.toList.drop (k + 1)) = nameB s) := by
                    show _ = _
                    rw [← HR.out, HS.out, if_neg hlet, if_pos ⟨hc, by rw [hbf]; exact hp⟩]
                  clear hlet HS HR hc hp hbf
                  go_wp2_with (go_at_call 34; refine (rin_any _ _ _ _).mono ?_; rintro e w' ⟨rfl, rfl⟩)
                  go_round
                  case rel => exact ⟨k + 1, by omega, by go_num, HN⟩
                  case measure => simp [intOf]; omega
              · have HN := Lib.hid (show nameB s = false by rw [← HR.out, HS.out, if_neg hlet, if_neg (fun h => hc h.1)])
                have f1 : (((s[k]'hlt).toNat : Int) != 45) = true := by simp; omega
                have f3 : inB ((s[k]'hlt).toNat : Int) 97 122 = false := inB_f (by omega)
                clear hlet HS HR hc
                go_wp2_with (go_at_call 34; refine (rin_any _ _ _ _).mono ?_; rintro e w' ⟨rfl, rfl⟩)
                go_ret
                exact ⟨ret_bool HN.out.symm, rfl⟩
          · have hke : k = s.size := by omega
            have HN := Lib.hid (show nameB s = true by rw [← HR.out, hke]; exact HE.out)
            clear hke HR
            go_wp2_with (go_at_call 34; refine (rin_any _ _ _ _).mono ?_; rintro e w' ⟨rfl, rfl⟩)
            go_ret
            exact ⟨ret_bool HN.out.symm, rfl⟩
  · have hin : inB (s.size : Int) 1 20 = false := inB_f (by omega)
    have H := Lib.hid (nameB_len hl)
    clear hl
    go_enter Tryz.func74, Tryz.ntmps74
    go_wp2_with (go_at_call 34; refine (rin_any _ _ _ _).mono ?_; rintro e w' ⟨rfl, rfl⟩)
    go_ret
    exact ⟨ret_bool H.out.symm, rfl⟩
end Go.Proofs.YthihpggjglghoaaGreatDoor

namespace Go.Proofs.YthihpggjglghoaaGreatDoor
open Go.RowKit Go.Shelf

theorem any_take_all {α : Type} (p : α → Bool) (l : List α) (k : Nat) (hk : k = l.length) (h : (l.take k).any p = false) : l.any p = false := by
  rw [hk, List.take_length] at h; exact h
theorem any_take_step {α : Type} (p : α → Bool) (l : List α) (k : Nat) (x : α) (hx : l[k]? = some x) : (l.take (k + 1)).any p = ((l.take k).any p || p x) := by
  rw [List.take_add_one, hx]; simp
set_option maxRecDepth 100000 in
set_option maxHeartbeats 2000000 in
theorem rnamed_any {w : World} {A : Option Addr} {c : Nat} {bef : List ByteArray} (s : ByteArray) (hmax : s.size ≤ 9223372036854775807) (hb : StrsAt w w.heap.size A bef) (hl : bef.length ≤ 9223372036854775807) :
    Calls Tryz.prog 45 #[.string s, .slice A bef.length c] w fun e w' => e = .returned (.int .i64 (nameErr bef s)) ∧ w' = w := by
  cases hn : nameB s with
  | false =>
    have H := Lib.hid (show nameErr bef s = 6 by simp [nameErr, hn])
    have HC := Lib.hid (rname_any s w hmax)
    have HN := Lib.hid hn
    clear hn
    go_enter Tryz.func45, Tryz.ntmps45
    go_wp2_with fail
    refine HC.out.mono ?_
    rintro e w' ⟨rfl, rfl⟩
    rw [HN.out]
    go_wp2_with fail
    go_ret
    exact ⟨ret_i64 H.out.symm, rfl⟩
  | true =>
    have HC := Lib.hid (rname_any s w hmax)
    have HN := Lib.hid hn
    clear hn
    go_enter Tryz.func45, Tryz.ntmps45
    go_wp2_with fail
    refine HC.out.mono ?_
    rintro e w' ⟨rfl, rfl⟩
    rw [HN.out]
    go_wp2_with fail
    go_loop [5] (fun i => ∃ k : Nat, k ≤ bef.length ∧ i = .int .i64 k ∧ Hid ((bef.take k).any (fun y => y.toList == s.toList) = false)) (fun i => bef.length - (intOf i).toNat)
    case atStart => exact ⟨0, by omega, rfl, by show _ = _; simp⟩
    case round =>
      obtain ⟨k, hk, rfl, HR⟩ := hrel
      by_cases hlt : k < bef.length
      · obtain ⟨y, hy⟩ : ∃ y, bef[k]? = some y := ⟨bef[k], List.getElem?_eq_getElem hlt⟩
        obtain ⟨b, o, rfl, _, hcell⟩ := strs_at hb hy
        cases heq : (y.toList == s.toList) with
        | true =>
          have H := Lib.hid (show nameErr bef s = 5 by
            have h1 : bef.any (fun y => y.toList == s.toList) = true := List.any_eq_true.2 ⟨y, List.mem_of_getElem? hy, heq⟩
            simp [nameErr, HN.out, h1])
          clear hy
          go_wp2_with fail
          go_ret
          exact ⟨ret_i64 H.out.symm, rfl⟩
        | false =>
          have HR' : Hid ((bef.take (k + 1)).any (fun y => y.toList == s.toList) = false) := by
            show _ = _
            rw [any_take_step _ _ _ _ hy, HR.out, heq]; rfl
          clear hy HR
          go_wp2_with fail
          go_round
          case rel => exact ⟨k + 1, by omega, by go_num, HR'⟩
          case measure => simp [intOf]; omega
      · have H := Lib.hid (show nameErr bef s = 0 by
          have h1 := any_take_all _ _ k (by omega) HR.out
          simp [nameErr, HN.out, h1])
        clear HR
        go_wp2_with fail
        go_ret
        exact ⟨ret_i64 H.out.symm, rfl⟩

/-- The error of a range. -/
def spanErr (x : Int × Int) (a b : Int) : Int := if inB x.1 a b = false ∨ inB x.2 a b = false then 7 else if x.2 < x.1 then 2 else 0
theorem rspan_any (x : Int × Int) (a b : Int) (w : World) :
    Calls Tryz.prog 75 #[.agg #[.int .i64 x.1, .int .i64 x.2], .int .i64 a, .int .i64 b] w fun e w' => e = .returned (.int .i64 (spanErr x a b)) ∧ Below w.heap.size w w' := by
  obtain ⟨lo, hi⟩ := x
  have hb : Below w.heap.size w (w.alloc (.cells #[.int .i64 lo, .int .i64 hi] 43)) := (Below.refl _ w).alloc (Nat.le_refl _) _
  cases h1 : inB lo a b with
  | false =>
    have H := Lib.hid (show spanErr (lo, hi) a b = 7 by simp [spanErr, h1])
    go_enter Tryz.func75, Tryz.ntmps75
    go_wp2_with (go_at_call 34; refine (rin_any _ _ _ _).mono ?_; rintro e w' ⟨rfl, rfl⟩)
    go_ret
    exact ⟨ret_i64 H.out.symm, hb⟩
  | true =>
    cases h2 : inB hi a b with
    | false =>
      have H := Lib.hid (show spanErr (lo, hi) a b = 7 by simp [spanErr, h2])
      go_enter Tryz.func75, Tryz.ntmps75
      go_wp2_with (go_at_call 34; refine (rin_any _ _ _ _).mono ?_; rintro e w' ⟨rfl, rfl⟩)
      go_ret
      exact ⟨ret_i64 H.out.symm, hb⟩
    | true =>
      by_cases hlt : hi < lo
      · have H := Lib.hid (show spanErr (lo, hi) a b = 2 by simp [spanErr, h1, h2, hlt])
        go_enter Tryz.func75, Tryz.ntmps75
        go_wp2_with (go_at_call 34; refine (rin_any _ _ _ _).mono ?_; rintro e w' ⟨rfl, rfl⟩)
        go_ret
        exact ⟨ret_i64 H.out.symm, hb⟩
      · have H := Lib.hid (show spanErr (lo, hi) a b = 0 by simp [spanErr, h1, h2, hlt])
        go_enter Tryz.func75, Tryz.ntmps75
        go_wp2_with (go_at_call 34; refine (rin_any _ _ _ _).mono ?_; rintro e w' ⟨rfl, rfl⟩)
        go_ret
        exact ⟨ret_i64 H.out.symm, hb⟩
theorem spanErr_eq (x : Int × Int) : spanErr x 0 100000 = if beyondB x then 7 else if emptyB x then 2 else 0 := by
  have hb : (inB x.1 0 100000 = false ∨ inB x.2 0 100000 = false) ↔ beyondB x = true := by
    unfold beyondB
    rw [decide_eq_true_eq]
    have e1 : inB x.1 0 100000 = false ↔ ¬ (0 ≤ x.1 ∧ x.1 ≤ 100000) := by rw [← inB_iff]; simp
    have e2 : inB x.2 0 100000 = false ↔ ¬ (0 ≤ x.2 ∧ x.2 ≤ 100000) := by rw [← inB_iff]; simp
    rw [e1, e2]
    omega
  unfold spanErr
  by_cases h : beyondB x = true
  · rw [if_pos (hb.2 h), if_pos h]
  · rw [if_neg (fun e => h (hb.1 e)), if_neg h]
    by_cases h2 : x.2 < x.1
    · rw [if_pos h2, if_pos (by simp [emptyB, h2])]
    · rw [if_neg h2, if_neg (by simp [emptyB, h2])]
/-- The worst error of the first ranges. -/
def worstV (l : List (Int × Int)) : Int := if l.any emptyB then 2 else 0

set_option maxRecDepth 100000 in
set_option maxHeartbeats 2000000 in
theorem rranges_any {w : World} {A : Option Addr} {c : Nat} {l : List (Int × Int)} (np : Nat) (hs : SpansAt w w.heap.size A l) (hl : l.length ≤ 9223372036854775807) (hn : np ≤ 9223372036854775807) :
    Calls Tryz.prog 46 #[.slice A l.length c, .int .i64 np] w fun e w' => e = .returned (.int .i64 (rangesErr l np)) ∧ Below w.heap.size w w' := by
  by_cases hlen : np = l.length
  · subst hlen
    have H0 := Lib.hid (show rangesErr l l.length = if l.any beyondB then 7 else if l.any emptyB then 2 else 0 by simp [rangesErr])
    have HS := Lib.hid hs
    clear hs hn
    go_enter Tryz.func46, Tryz.ntmps46
    go_wp2_with fail
    go_loopw [5, 6] (fun v i wr => ∃ k : Nat, k ≤ l.length ∧ i = .int .i64 k ∧ ∃ z : Int, v = .int .i64 z ∧ Hid (z = worstV (l.take k)) ∧ Hid ((l.take k).any beyondB = false) ∧ Below w.heap.size w wr) (fun _ i _ => l.length - (intOf i).toNat)
    case atStart => exact ⟨0, by omega, rfl, 0, rfl, by show _ = _; simp [worstV], by show _ = _; simp, Below.refl _ _⟩
    case round =>
      obtain ⟨k, hk, rfl, z, rfl, HW, HB, hb⟩ := hrel
      by_cases hlt : k < l.length
      · obtain ⟨x, hx⟩ : ∃ x, l[k]? = some x := ⟨l[k], List.getElem?_eq_getElem hlt⟩
        obtain ⟨b, o, rfl, _, c1, c2⟩ := spans_at (RowAt.below HS.out hb (Nat.le_refl _)) hx
        have HX := Lib.hid hx
        have HE := Lib.hid (spanErr_eq x)
        clear hx
        go_wp2_with fail
        refine (rspan_any x 0 100000 _).mono ?_
        rintro e w1 ⟨rfl, hb1⟩
        have hbb := hb.trans (hb1.mono hb.size)
        rw [HE.out]
        cases h1 : beyondB x with
        | true =>
          have H := Lib.hid (show rangesErr l l.length = 7 by
            have h2 : l.any beyondB = true := List.any_eq_true.2 ⟨x, List.mem_of_getElem? HX.out, h1⟩
            rw [H0.out, if_pos h2])
          clear H0 HX HE HW HB hb hb1 c1 c2 h1
          simp only [if_true]
          go_wp2_with fail
          go_ret
          exact ⟨ret_i64 H.out.symm, hbb⟩
        | false =>
          have HB' : Hid ((l.take (k + 1)).any beyondB = false) := by
            show _ = _
            rw [any_take_step _ _ _ _ HX.out, HB.out, h1]; rfl
          cases h2 : emptyB x with
          | true =>
            have HW' : Hid ((2 : Int) = worstV (l.take (k + 1))) := by
              show _ = _
              unfold worstV
              rw [any_take_step _ _ _ _ HX.out, h2]; simp
            clear H0 HX HE HW HB hb hb1 c1 c2 h1 h2
            simp only [if_true, Bool.false_eq_true, if_false]
            go_wp2_with fail
            go_roundw
            case rel => exact ⟨k + 1, by omega, by go_num, 2, rfl, HW', HB', hbb⟩
            case measure => simp [intOf]; omega
          | false =>
            have HW' : Hid (z = worstV (l.take (k + 1))) := by
              show _ = _
              rw [HW.out]
              unfold worstV
              rw [any_take_step _ _ _ _ HX.out, h2, Bool.or_false]
            clear H0 HX HE HW HB hb hb1 c1 c2 h1 h2
            simp only [Bool.false_eq_true, if_false]
            go_wp2_with fail
            go_roundw
            case rel => exact ⟨k + 1, by omega, by go_num, z, rfl, HW', HB', hbb⟩
            case measure => simp [intOf]; omega
      · have H := Lib.hid (show rangesErr l l.length = z by
          have h1 := any_take_all _ _ k (by omega) HB.out
          have h2 := HW.out
          rw [show l.take k = l by rw [List.take_of_length_le (by omega)]] at h2
          rw [H0.out, h1, h2]; rfl)
        clear H0 HW HB
        go_wp2_with fail
        go_ret
        exact ⟨ret_i64 H.out.symm, hb⟩
  · have H := Lib.hid (show rangesErr l np = 3 by
      unfold rangesErr
      rw [if_pos (by omega)])
    have f1 : ((l.length : Int) != (np : Int)) = true := by
      have h : (l.length : Int) ≠ (np : Int) := fun e => hlen (by omega)
      simpa using h
    have f2 : (l.length != np) = true := by
      have h : l.length ≠ np := fun e => hlen e.symm
      simpa using h
    clear hlen
    go_enter Tryz.func46, Tryz.ntmps46
    go_wp2_with fail
    go_ret
    exact ⟨ret_i64 H.out.symm, Below.refl _ _⟩
end Go.Proofs.YthihpggjglghoaaGreatDoor

namespace Go.Proofs.YthihpggjglghoaaGreatDoor
open Go.RowKit Go.Shelf

theorem infoStr9 : (Tryz.prog.info? 9).map (fun i => (i.zero, i.size, i.bytes)) = some (some (.string ⟨#[]⟩), 1, 16) := by kernel_rfl
theorem StrsOut.reads {B n c : Nat} {w : World} {A : Option Addr} {l : List ByteArray} (h : StrsOut B w (.slice A n c) l) : n = l.length ∧ StrsAt w w.heap.size A l ∧ l.length ≤ c ∧ l.length ≤ maxLen :=
  own_rowAt (enc := encB) h (fun i x hi j hj => by
    obtain rfl : j = 0 := by omega
    rw [Nat.mul_one, Nat.add_zero, List.getElem?_map, hi]; rfl)
/-- Between two rounds of ref.Check. -/
structure CkI (w wr : World) (pa ka : Option Addr) (pc kc : Nat) (t : Tab) (v : Value) (l : List ByteArray) : Prop where
  own : StrsOut (w.heap.size + 1) wr v l
  box : Blk wr w.heap.size 25 #[.slice pa t.ps.length pc, .slice ka t.ks.length kc, .int .i64 t.pu]
  bel : Below w.heap.size w wr
  tab : TabIn wr pa ka pc kc t
theorem CkI.on {w wr wr' : World} {pa ka : Option Addr} {pc kc : Nat} {t : Tab} {v : Value} {l : List ByteArray} (h : CkI w wr pa ka pc kc t v l) (hb : Below wr.heap.size wr wr') : CkI w wr' pa ka pc kc t v l :=
  ⟨own_below h.own hb, h.box.on hb, h.bel.trans (hb.mono h.bel.size), h.tab.on hb⟩
theorem CkI.more {w wr w1 : World} {pa ka : Option Addr} {pc kc : Nat} {t : Tab} {v v1 : Value} {l : List ByteArray} {x : ByteArray} {o : Obj} (h : CkI w wr pa ka pc kc t v l)
    (hown : w1.ownsRow (w.heap.size + 1) 9 1 v1 (l.length + 1) (l.map Value.string ++ [.string x])) (hgrow : (wr.alloc o).grownBy w1 v.ownBlock) (h0 : TabIn w pa ka pc kc t) : CkI w w1 pa ka pc kc t v1 (l ++ [x]) := by
  have hb : Below w.heap.size w w1 := (h.bel.alloc h.bel.size o).grown hgrow (by have := h.bel.size; simp; omega) (fun r e => by have := (World.ownsRow.lt h.own r e).1; omega)
  refine ⟨?_, ?_, hb, h0.on hb⟩
  · show w1.ownsRow _ _ _ _ _ _
    simpa using hown
  · exact (hgrow.block _ (h.box.alloc o).lt (fun e => by have := (World.ownsRow.lt h.own _ e.symm).1; omega)).trans (h.box.alloc o)
theorem CkI.nil {w wr : World} {pa ka : Option Addr} {pc kc : Nat} {t : Tab} {v : Value} {l : List ByteArray} (h : CkI w wr pa ka pc kc t v l) : CkI w wr pa ka pc kc t (.slice none 0 0) [] := ⟨World.ownsRow_nil _ _ _ _, h.box, h.bel, h.tab⟩

theorem propErr_at {l : List Pr} {k : Nat} {x : Pr} (h : l[k]? = some x) : propErr l k = if nameErr ((l.take k).map Pr.nm) x.nm ≠ 0 then nameErr ((l.take k).map Pr.nm) x.nm else if inB x.er 0 10000 then 0 else 7 := by
  unfold propErr
  rw [h]
  simp only [inB_iff]
theorem kindErr_at {l : List Kd} {k : Nat} {x : Kd} {np : Int} (h : l[k]? = some x) : kindErr l np k = if nameErr ((l.take k).map Kd.nm) x.nm ≠ 0 then nameErr ((l.take k).map Kd.nm) x.nm else rangesErr x.rs np := by
  unfold kindErr
  rw [h]
theorem map_take_one {α β : Type} (f : α → β) {l : List α} {k : Nat} {x : α} (h : l[k]? = some x) : (l.take (k + 1)).map f = (l.take k).map f ++ [f x] := by
  rw [List.take_add_one, h]; simp
theorem counts_ok {t : Tab} (h : countsErr t = 0) : (1 ≤ t.ps.length ∧ t.ps.length ≤ 5) ∧ (1 ≤ t.ks.length ∧ t.ks.length ≤ 8) ∧ (1 ≤ t.pu ∧ t.pu ≤ 1000) := by
  unfold countsErr at h
  split at h
  · rename_i h1
    split at h
    · rename_i h2; exact ⟨h1.1, h1.2, h2⟩
    · simp at h
  · simp at h

theorem own_len {B k : Nat} {w : World} {v : Value} {l : List ByteArray} (h : StrsOut B w v l) (hl : l.length = k) : w.ownsRow B 9 1 v k (l.map Value.string) := by subst hl; exact h

set_option maxRecDepth 100000 in
set_option maxHeartbeats 4000000 in
theorem rcheck_ok {w : World} {pa ka : Option Addr} {pc kc : Nat} {t : Tab} (h : TabIn w pa ka pc kc t) (hc : countsErr t = 0) (R : Int × Int × Int) (hR : R = checkOf 0 (firstAt (propErr t.ps) t.ps.length) (firstAt (kindErr t.ks t.ps.length) t.ks.length)) :
    Calls Tryz.prog 20 #[.agg #[.slice pa t.ps.length pc, .slice ka t.ks.length kc, .int .i64 t.pu]] w fun e w' => e = .returned (.tuple #[.int .i64 R.1, .int .i64 R.2.1, .int .i64 R.2.2]) ∧ Below w.heap.size w w' := by
  obtain ⟨i0, hi0, hz0, hz1, hz2⟩ := info_parts infoStr9
  obtain ⟨⟨n1, n2⟩, ⟨m1, m2⟩, p1, p2⟩ := counts_ok hc
  have q1 : inB (t.ps.length : Int) 1 5 = true := inB_t (by omega) (by omega)
  have q2 : inB (t.ks.length : Int) 1 8 = true := inB_t (by omega) (by omega)
  have q3 : inB t.pu 1 1000 = true := inB_t p1 p2
  have HE := Lib.hid hR
  have H0 := Lib.hid h
  have hA := (Below.refl _ w).alloc (Nat.le_refl _) (.cells #[.slice pa t.ps.length pc, .slice ka t.ks.length kc, .int .i64 t.pu] 25)
  have HI : Hid (CkI w (w.alloc (.cells #[.slice pa t.ps.length pc, .slice ka t.ks.length kc, .int .i64 t.pu] 25)) pa ka pc kc t (.slice none 0 0) []) := ⟨World.ownsRow_nil _ _ _ _, Blk.new _ _ _, hA, h.on hA⟩
  clear hR h hc hA
  go_enter Tryz.func20, Tryz.ntmps20
  go_wp2_with (go_at_call 34; refine (rin_any _ _ _ _).mono ?_; rintro e w' ⟨rfl, rfl⟩)
  go_loopw [5, 6] (fun v i wr => ∃ k : Nat, k ≤ t.ps.length ∧ i = .int .i64 k ∧ Hid (CkI w wr pa ka pc kc t v ((t.ps.take k).map Pr.nm)) ∧ Hid (∀ i, i < k → propErr t.ps i = 0)) (fun _ i _ => t.ps.length - (intOf i).toNat)
  case atStart => exact ⟨0, by omega, rfl, HI, fun i hi => absurd hi (by omega)⟩
  case round =>
    obtain ⟨k, hk, rfl, HK, HN⟩ := hrel
    have hlen : ((t.ps.take k).map Pr.nm).length = k := by simp; omega
    obtain ⟨A, c, hv⟩ := own_slice HK.out.own
    rw [hlen] at hv
    subst hv
    obtain ⟨x0, x1, x2, _, _, _, _⟩ := HK.out.box.three
    have hbw := HK.out.bel
    by_cases hlt : k < t.ps.length
    · obtain ⟨x, hx⟩ : ∃ x, t.ps[k]? = some x := ⟨t.ps[k], List.getElem?_eq_getElem hlt⟩
      obtain ⟨b, o, rfl, _, c0, c1⟩ := props_at HK.out.tab.tab.ps hx
      have s2 := HK.out.own.reads.2.1
      have s4 := HK.out.own.reads.2.2.2
      have HX := Lib.hid hx
      have HP := Lib.hid (propErr_at hx)
      have hC := rnamed_any (c := c) x.nm (HK.out.tab.fit.1 x (List.mem_of_getElem? hx)) s2 (by unfold maxLen at s4; omega)
      rw [hlen] at hC
      have HC := Lib.hid hC
      have HO := Lib.hid HK.out.own
      have HL := Lib.hid hlen
      clear hx s2 s4 hC hlen
      go_wp2_with fail
      refine HC.out.mono ?_
      rintro e w1 ⟨rfl, he⟩
      obtain rfl : wr = w1 := he.symm
      clear HC
      generalize nameErr ((t.ps.take k).map Pr.nm) x.nm = z at *
      by_cases hz : z = 0
      · subst hz
        cases hin : inB x.er 0 10000 with
        | true =>
          have HZ := Lib.hid (show propErr t.ps k = 0 by rw [HP.out, hin]; simp)
          clear HP
          go_wp2_with (first
            | (go_at_call 34; refine (rin_any _ _ _ _).mono ?_; rintro e w' ⟨rfl, rfl⟩)
            | (at_builtin; go_must (refine wpList_append_lies _ rfl _ _ 60 rfl (w.heap.size + 1) 9 i0 (.string ⟨#[]⟩) 1 16 Tryz.underlying60 hi0 hz0 hz1 hz2 rfl (by decide) (.slice A k c) k (((t.ps.take k).map Pr.nm).map Value.string) rfl (World.ownsRow.alloc (own_len HO.out HL.out) _) _ 1 1 [.string x.nm] rfl rfl ?c1 ?c2 (by decide) ?c3 ?c4 ?c5 _ rfl ?_)))
          case c1 =>
            intro j u hj
            match j, hj with
            | 0, hj => simp at hj; subst hj; simp [Addr.add]
          case c2 => intro u hu; simp at hu; subst hu; rfl
          case c3 => unfold maxLen; omega
          case c4 => omega
          case c5 => have := hbw.size; have := HK.out.box.lt; simp; omega
          · intro g cap w2 hown hgrow hat hglt
            have HK' : Hid (CkI w w2 (some ⟨b, o, none⟩) ka pc kc t (.slice (some ⟨g, 0, none⟩) (k + 1) cap) ((t.ps.take (k + 1)).map Pr.nm)) := by
              show CkI _ _ _ _ _ _ _ _ _
              rw [map_take_one _ HX.out]
              exact HK.out.more (by rw [HL.out, show ((t.ps.take k).map Pr.nm).map Value.string = List.take k (List.map (Value.string ∘ Pr.nm) t.ps) by simp [List.map_take]]; exact hown) hgrow H0.out
            obtain ⟨x0, x1, x2, _, _, _, _⟩ := HK'.out.box.three
            clear hown hgrow hat hglt
            go_wp2_with fail
            go_roundw
            case rel => exact ⟨k + 1, by omega, by go_num, HK', fun i hi => by
              by_cases hik : i = k
              · subst hik; exact HZ.out
              · exact HN.out i (by omega)⟩
            case measure => simp [intOf]; omega
        | false =>
          have HR : Hid (R = (2, (k : Int), 7)) := by
            have hq : propErr t.ps k = 7 := by rw [HP.out, hin]; simp
            show R = _
            rw [HE.out, firstAt_hit (k := k) HN.out hlt (by rw [hq]; decide), hq, checkOf_2]
          clear HP
          go_wp2_with (go_at_call 34; refine (rin_any _ _ _ _).mono ?_; rintro e w' ⟨rfl, rfl⟩)
          go_ret3
          exact ⟨ret3 HR.out, hbw⟩
      · have hz1 : (z != 0) = true := by simpa using hz
        have hz2 : (z == 0) = false := by simpa using hz
        have HR : Hid (R = (2, (k : Int), z)) := by
          have hq : propErr t.ps k = z := by rw [HP.out, if_pos hz]
          show R = _
          rw [HE.out, firstAt_hit (k := k) HN.out hlt (by rw [hq]; exact hz), hq, checkOf_2]
        clear HP hz
        go_wp2_with (go_at_call 34; refine (rin_any _ _ _ _).mono ?_; rintro e w' ⟨rfl, rfl⟩)
        go_ret3
        exact ⟨ret3 HR.out, hbw⟩
    · have HE2 := Lib.hid (show R = checkOf 0 none (firstAt (kindErr t.ks t.ps.length) t.ks.length) by rw [HE.out, firstAt_none (fun i hi => HN.out i (by omega))])
      have HK0 := Lib.hid HK.out.nil
      clear HE HN
      go_wp2_with fail
      obtain ⟨wo, rfl⟩ : ∃ wo : World, wo = wr := ⟨_, rfl⟩
      clear x0 x1 x2 hbw HK
      go_loopw [5, 8] (fun v i wr => ∃ k : Nat, k ≤ t.ks.length ∧ i = .int .i64 k ∧ Hid (CkI w wr pa ka pc kc t v ((t.ks.take k).map Kd.nm)) ∧ Hid (∀ i, i < k → kindErr t.ks t.ps.length i = 0)) (fun _ i _ => t.ks.length - (intOf i).toNat)
      case atStart => exact ⟨0, by omega, rfl, HK0, fun i hi => absurd hi (by omega)⟩
      case round =>
        obtain ⟨m, hm, rfl, HK, HN⟩ := hrel
        have hlen : ((t.ks.take m).map Kd.nm).length = m := by simp; omega
        obtain ⟨A2, c2, hv⟩ := own_slice HK.out.own
        rw [hlen] at hv
        subst hv
        obtain ⟨x0, x1, x2, _, _, _, _⟩ := HK.out.box.three
        have hbw := HK.out.bel
        by_cases hlt2 : m < t.ks.length
        · obtain ⟨x, hx⟩ : ∃ x, t.ks[m]? = some x := ⟨t.ks[m], List.getElem?_eq_getElem hlt2⟩
          obtain ⟨b, o, rfl, _, c0, c1, hsp, hspl⟩ := kinds_at HK.out.tab.tab.ks hx
          have s2 := HK.out.own.reads.2.1
          have s4 := HK.out.own.reads.2.2.2
          have HX := Lib.hid hx
          have HP := Lib.hid (kindErr_at (np := (t.ps.length : Int)) hx)
          have hC := rnamed_any (c := c2) x.nm (HK.out.tab.fit.2 x (List.mem_of_getElem? hx)) s2 (by unfold maxLen at s4; omega)
          rw [hlen] at hC
          have HC := Lib.hid hC
          have HO := Lib.hid HK.out.own
          have HL := Lib.hid hlen
          have HRG := Lib.hid (fun (W : World) (hW : Below wr.heap.size wr W) => rranges_any (w := W) (c := x.cp) t.ps.length ((RowAt.below hsp hW (Nat.le_refl _)).mono hW.size) hspl (by omega))
          clear hx s2 s4 hC hlen hsp hspl
          go_wp2_with fail
          refine HC.out.mono ?_
          rintro e w1 ⟨rfl, he⟩
          subst he
          clear HC
          generalize nameErr ((t.ks.take m).map Kd.nm) x.nm = z at *
          by_cases hz : z = 0
          · subst hz
            go_wp2_with fail
            go_region_held3 (fun w' => w'.cell? ⟨w.heap.size, 0, none⟩ = some (.slice pa t.ps.length pc) ∧ w'.cell? ⟨w.heap.size, 1, none⟩ = some (.slice (some ⟨b, o, none⟩) t.ks.length kc) ∧ w'.cell? ⟨b, o + m * 2 + 1, none⟩ = some (.slice x.ad x.rs.length x.cp))
              (first | (simp [*]; done) | (simp [go_sem, *]; done) | (go_split_ands; exact ⟨hk3 _ _ x0, hk3 _ _ x1, hk3 _ _ c1⟩))
              ((go_at_call 46; refine (HRG.out _ ((Below.refl _ w1).drew)).mono ?_; rintro e w3 ⟨rfl, hb3⟩; have hk3 := kept_of hb3))
            have HK3 := Lib.hid (HK.out.on (show Below w1.heap.size w1 w3 from ((Below.refl _ w1).drew).trans hb3))
            have hbw3 := HK3.out.bel
            have HO3 := Lib.hid HK3.out.own
            have HX3 := Lib.hid (kinds_at HK3.out.tab.tab.ks HX.out)
            obtain ⟨x0, x1, x2, _, _, _, _⟩ := HK3.out.box.three
            have d0 : w3.cell? ⟨b, o + m * 2, none⟩ = some (.string x.nm) := hk3 ⟨b, o + m * 2, none⟩ _ c0
            clear hb3 hk3 HRG c0 c1 HO HX3
            generalize rangesErr x.rs (t.ps.length : Int) = q at *
            by_cases hq : q = 0
            · subst hq
              have HZ := Lib.hid (show kindErr t.ks t.ps.length m = 0 by rw [HP.out]; simp)
              clear HP
              go_wp2_with (at_builtin; refine wpList_append_lies _ rfl _ _ 60 rfl (w.heap.size + 1) 9 i0 (.string ⟨#[]⟩) 1 16 Tryz.underlying60 hi0 hz0 hz1 hz2 rfl (by decide) (.slice A2 m c2) m (((t.ks.take m).map Kd.nm).map Value.string) rfl (World.ownsRow.alloc (own_len HO3.out HL.out) _) _ 1 1 [.string x.nm] rfl rfl ?c1 ?c2 (by decide) ?c3 ?c4 ?c5 _ rfl ?_)
              case c1 =>
                intro j u hj
                match j, hj with
                | 0, hj => simp at hj; subst hj; simp [Addr.add]
              case c2 => intro u hu; simp at hu; subst hu; rfl
              case c3 => unfold maxLen; omega
              case c4 => omega
              case c5 => have := hbw3.size; have := HK3.out.box.lt; simp; omega
              · intro g cap w2 hown hgrow hat hglt
                have HK' : Hid (CkI w w2 pa (some ⟨b, o, none⟩) pc kc t (.slice (some ⟨g, 0, none⟩) (m + 1) cap) ((t.ks.take (m + 1)).map Kd.nm)) := by
                  show CkI _ _ _ _ _ _ _ _ _
                  rw [map_take_one _ HX.out]
                  exact HK3.out.more (by rw [HL.out, show ((t.ks.take m).map Kd.nm).map Value.string = List.take m (List.map (Value.string ∘ Kd.nm) t.ks) by simp [List.map_take]]; exact hown) hgrow H0.out
                obtain ⟨x0, x1, x2, _, _, _, _⟩ := HK'.out.box.three
                clear hown hgrow hat hglt
                go_wp2_with fail
                go_roundw
                case rel => exact ⟨m + 1, by omega, by go_num, HK', fun i hi => by
                  by_cases hik : i = m
                  · subst hik; exact HZ.out
                  · exact HN.out i (by omega)⟩
                case measure => simp [intOf]; omega
            · have hz1 : (q != 0) = true := by simpa using hq
              have HR : Hid (R = (3, (m : Int), q)) := by
                have hqq : kindErr t.ks t.ps.length m = q := by rw [HP.out, if_neg (by simp)]
                show R = _
                rw [HE2.out, firstAt_hit (k := m) HN.out hlt2 (by rw [hqq]; exact hq), hqq, checkOf_3]
              clear HP hq
              go_wp2_with fail
              go_ret3
              exact ⟨ret3 HR.out, hbw3⟩
          · have hz1 : (z != 0) = true := by simpa using hz
            have hz2 : (z == 0) = false := by simpa using hz
            have HR : Hid (R = (3, (m : Int), z)) := by
              have hq : kindErr t.ks t.ps.length m = z := by rw [HP.out, if_pos hz]
              show R = _
              rw [HE2.out, firstAt_hit (k := m) HN.out hlt2 (by rw [hq]; exact hz), hq, checkOf_3]
            clear HP hz HRG
            go_wp2_with fail
            go_ret3
            exact ⟨ret3 HR.out, hbw⟩
        · have HR := Lib.hid (show R = (0, 0, 0) by rw [HE2.out, firstAt_none (fun i hi => HN.out i (by omega)), checkOf_4])
          clear HN
          go_wp2_with fail
          go_ret3
          exact ⟨ret3 HR.out, hbw⟩

theorem counts_no {t : Tab} (h : countsErr t ≠ 0) : (inB (t.ps.length : Int) 1 5 = false ∧ countsErr t = 3) ∨ (inB (t.ps.length : Int) 1 5 = true ∧ inB (t.ks.length : Int) 1 8 = false ∧ countsErr t = 3) ∨ (inB (t.ps.length : Int) 1 5 = true ∧ inB (t.ks.length : Int) 1 8 = true ∧ inB t.pu 1 1000 = false ∧ countsErr t = 7) := by
  by_cases h1 : 1 ≤ t.ps.length ∧ t.ps.length ≤ 5
  · have q1 : inB (t.ps.length : Int) 1 5 = true := inB_t (by omega) (by omega)
    by_cases h2 : 1 ≤ t.ks.length ∧ t.ks.length ≤ 8
    · have q2 : inB (t.ks.length : Int) 1 8 = true := inB_t (by omega) (by omega)
      by_cases h3 : 1 ≤ t.pu ∧ t.pu ≤ 1000
      · exact absurd (by unfold countsErr; rw [if_pos ⟨h1, h2⟩, if_pos h3]) h
      · exact .inr (.inr ⟨q1, q2, inB_f h3, by unfold countsErr; rw [if_pos ⟨h1, h2⟩, if_neg h3]⟩)
    · exact .inr (.inl ⟨q1, inB_f (by omega), by unfold countsErr; rw [if_neg (fun e => h2 e.2)]⟩)
  · exact .inl ⟨inB_f (by omega), by unfold countsErr; rw [if_neg (fun e => h1 e.1)]⟩
set_option maxRecDepth 100000 in
set_option maxHeartbeats 1000000 in
theorem rcheck_any {w : World} {pa ka : Option Addr} {pc kc : Nat} {t : Tab} (h : TabIn w pa ka pc kc t) :
    Calls Tryz.prog 20 #[.agg #[.slice pa t.ps.length pc, .slice ka t.ks.length kc, .int .i64 t.pu]] w fun e w' => e = .returned (.tuple #[.int .i64 (checkT t).1, .int .i64 (checkT t).2.1, .int .i64 (checkT t).2.2]) ∧ Below w.heap.size w w' := by
  by_cases hc : countsErr t = 0
  · exact rcheck_ok h hc _ (by rw [checkT_eq, hc])
  · have hp := h.tab.lp
    have hk := h.tab.lk
    have hA := (Below.refl _ w).alloc (Nat.le_refl _) (.cells #[.slice pa t.ps.length pc, .slice ka t.ks.length kc, .int .i64 t.pu] 25)
    have hR : checkT t = (1, 0, countsErr t) := by rw [checkT_eq, checkOf_1 _ _ _ hc]
    rw [hR]
    rcases counts_no hc with ⟨q1, hq⟩ | ⟨q1, q2, hq⟩ | ⟨q1, q2, q3, hq⟩
    all_goals
      rw [hq]
      clear hR hc hq h
      go_enter Tryz.func20, Tryz.ntmps20
      go_wp2_with (go_at_call 34; refine (rin_any _ _ _ _).mono ?_; rintro e w' ⟨rfl, rfl⟩)
      go_ret3
      exact ⟨rfl, hA⟩
end Go.Proofs.YthihpggjglghoaaGreatDoor

namespace Go.Proofs.YthihpggjglghoaaGreatDoor
open Go.RowKit Go.Shelf

set_option maxRecDepth 100000 in
set_option maxHeartbeats 4000000 in
theorem rtext_any {w : World} {pa ka : Option Addr} {pc kc : Nat} {t : Tab} (h : TabIn w pa ka pc kc t) (hV : Valid t) :
    Calls Tryz.prog 21 #[.agg #[.slice pa t.ps.length pc, .slice ka t.ks.length kc, .int .i64 t.pu]] w fun e w' => e = .returned (.string (textV t)) ∧ Below w.heap.size w w' := by
  have hA := (Below.refl _ w).alloc (Nat.le_refl _) (.cells #[.slice pa t.ps.length pc, .slice ka t.ks.length kc, .int .i64 t.pu] 25)
  have X0 := Lib.hid (Blk.new w 25 #[.slice pa t.ps.length pc, .slice ka t.ks.length kc, .int .i64 t.pu])
  have HT := Lib.hid (h.on hA)
  have HA := Lib.hid hA
  have HV := Lib.hid hV
  have hp5 := hV.np
  have hk8 := hV.nk
  clear h hA hV
  go_enter Tryz.func21, Tryz.ntmps21
  go_wp2_with fail
  generalize w.alloc (.cells #[.slice pa t.ps.length pc, .slice ka t.ks.length kc, .int .i64 t.pu] 25) = W0 at *
  generalize hbw : w.heap.size = B at *
  have HBW := Lib.hid hbw
  clear hbw
  go_loopw [3, 4] (fun v i wr => ∃ k : Nat, k ≤ t.ps.length ∧ i = .int .i64 k ∧ ∃ x : ByteArray, v = .string x ∧ Hid (x = joinB (propW (t.ps.take k))) ∧ x.size ≤ 100 * (k + 1) ∧ Hid (Below W0.heap.size W0 wr)) (fun _ i _ => t.ps.length - (intOf i).toNat)
  case atStart => exact ⟨0, Nat.zero_le _, rfl, _, rfl, props_text0, by decide, Below.refl _ _⟩
  case round =>
    obtain ⟨k, hkl, rfl, x, rfl, HX, hxz, HB⟩ := hrel
    obtain ⟨x0, x1, x2, -, -, -, -⟩ := (X0.out.on HB.out).three
    by_cases hlt : k < t.ps.length
    · obtain ⟨⟨nm, er⟩, hx⟩ : ∃ p, t.ps[k]? = some p := ⟨t.ps[k], List.getElem?_eq_getElem hlt⟩
      obtain ⟨e1, e2⟩ := HV.out.er _ (List.mem_of_getElem? hx)
      have hnz := name_sz (HV.out.pn _ (List.mem_of_getElem? hx))
      obtain ⟨pb, po, rfl, hpB, cN, cE⟩ := props_at (HT.out.on HB.out).tab.ps hx
      dsimp only at e1 e2 hnz cN cE
      have hiz := itoaB_size er (by omega) (by omega)
      have HN := Lib.hid (show joinB (propW (t.ps.take (k + 1))) = (((x ++ ⟨#[32]⟩) ++ nm) ++ ⟨#[32]⟩) ++ itoaB er by rw [HX.out, List.take_add_one, hx]; exact (props_text _ _).symm)
      have HD := Lib.hid (fun (W : World) => rdigits_any er.toNat er W (by omega) (by omega) (by omega))
      have z1 : (x ++ ⟨#[32]⟩).size = x.size + 1 := ba_size
      have z2 : ((x ++ ⟨#[32]⟩) ++ nm).size = x.size + 1 + nm.size := by rw [ba_size, z1]
      have z3 : (((x ++ ⟨#[32]⟩) ++ nm) ++ ⟨#[32]⟩).size = x.size + 1 + nm.size + 1 := by rw [ba_size, z2]; rfl
      have z4 : ((((x ++ ⟨#[32]⟩) ++ nm) ++ ⟨#[32]⟩) ++ itoaB er).size = x.size + 1 + nm.size + 1 + (itoaB er).size := by rw [ba_size, z3]
      have hfin : x.size + 1 + nm.size + 1 + (itoaB er).size ≤ 100 * (k + 1 + 1) := by omega
      have hlb := X0.out.lt
      generalize itoaB er = dg at *
      have q1 : ¬ 9223372036854775807 < x.size + 1 := by omega
      have q2 : ¬ 9223372036854775807 < x.size + 1 + nm.size := by omega
      have q3 : ¬ 9223372036854775807 < x.size + 1 + nm.size + 1 := by omega
      have q4 : ¬ 9223372036854775807 < x.size + 1 + nm.size + 1 + dg.size := by omega
      clear hx HX
      go_wp2_with fail
      have hH : HeldB wr [(B, 0, .slice (some ⟨pb, po, none⟩) t.ps.length pc), (pb, po + k * 2, .string nm), (pb, po + k * 2 + 1, .int .i64 er)] wr.drew := HeldB.drew ⟨.cons (Nat.lt_of_lt_of_le hlb HB.out.size) x0 (.cons hpB cN (.cons hpB cE (.nil _))), Below.refl _ _⟩
      clear x0 x1 x2 cN cE
      go_region_held3 (fun w' => w'.cell? ⟨B, 0, none⟩ = some (.slice (some ⟨pb, po, none⟩) t.ps.length pc) ∧ w'.cell? ⟨pb, po + k * 2, none⟩ = some (.string nm) ∧ w'.cell? ⟨pb, po + k * 2 + 1, none⟩ = some (.int .i64 er) ∧ HeldB wr [(B, 0, .slice (some ⟨pb, po, none⟩) t.ps.length pc), (pb, po + k * 2, .string nm), (pb, po + k * 2 + 1, .int .i64 er)] w')
        ((refine HeldB.of3 ?_; first | assumption | (go_split_ands; assumption) | (go_split_ands; refine HeldB.on ?_ hbN; assumption)))
        (first
          | (go_at_call 47; (with_reducible refine (HD.out _).mono ?_); rintro e w' ⟨rfl, hbN⟩)
          | fail)
      all_goals (have HB7 := Lib.hid (HB.out.trans (((Below.refl _ wr).drew.trans hbN).mono HB.out.size)); clear hbN)
      all_goals go_wp2_with fail
      all_goals go_roundw
      all_goals first
        | exact ⟨k + 1, by omega, by go_num, _, rfl, by show _ = _; exact HN.out.symm, by rw [z4]; exact hfin, HB7⟩
        | (simp [intOf]; omega)
    · have hke : k = t.ps.length := by omega
      have hpu := HV.out.pu
      have HX2 := Lib.hid (show ((x ++ ⟨#[10, 112, 117, 114, 101, 32]⟩) ++ itoaB t.pu) ++ ⟨#[10]⟩ = headV t by rw [HX.out, hke, List.take_length]; exact head_text t)
      have hiz := itoaB_size t.pu (by omega) (by omega)
      have HD := Lib.hid (fun (W : World) => rdigits_any t.pu.toNat t.pu W (by omega) (by omega) (by omega))
      have hx6 : x.size ≤ 600 := by omega
      have z1 : (x ++ ⟨#[10, 112, 117, 114, 101, 32]⟩).size = x.size + 6 := ba_size
      have z2 : ((x ++ ⟨#[10, 112, 117, 114, 101, 32]⟩) ++ itoaB t.pu).size = x.size + 6 + (itoaB t.pu).size := by rw [ba_size, z1]
      have z3 : (((x ++ ⟨#[10, 112, 117, 114, 101, 32]⟩) ++ itoaB t.pu) ++ ⟨#[10]⟩).size = x.size + 6 + (itoaB t.pu).size + 1 := by rw [ba_size, z2]; rfl
      have q1 : ¬ 9223372036854775807 < x.size + 6 := by omega
      have q2 : ¬ 9223372036854775807 < x.size + 6 + (itoaB t.pu).size := by omega
      have q3 : ¬ 9223372036854775807 < x.size + 6 + (itoaB t.pu).size + 1 := by omega
      have hfin : x.size + 6 + (itoaB t.pu).size + 1 ≤ 1000 := by omega
      generalize itoaB t.pu = dg at *
      clear HX hke
      go_wp2_with fail
      (with_reducible refine (HD.out _).mono ?_)
      rintro e w1 ⟨rfl, hb1⟩
      have HB1 := Lib.hid (HB.out.trans (hb1.mono HB.out.size))
      clear x0 x1 x2 hb1 HB HD
      obtain ⟨x0, x1, x2, -, -, -, -⟩ := (X0.out.on HB1.out).three
      go_wp2_with fail
      rw [← z3] at hfin
      have HFIN := Lib.hid hfin
      clear q1 q2 q3 z1 z2 z3 hiz hx6 hfin hxz hkl hlt
      generalize ((x ++ ⟨#[10, 112, 117, 114, 101, 32]⟩) ++ dg) ++ ⟨#[10]⟩ = y at *
      go_loopw [3, 5] (fun v i wr => ∃ q : Nat, q ≤ t.ks.length ∧ i = .int .i64 q ∧ ∃ s : ByteArray, v = .string s ∧ Hid (s = textK t (t.ks.take q)) ∧ s.size ≤ 1000 * (q + 1) ∧ Hid (Below W0.heap.size W0 wr)) (fun _ i _ => t.ks.length - (intOf i).toNat)
      case atStart => exact ⟨0, Nat.zero_le _, rfl, _, rfl, HX2.out, by have := HFIN.out; omega, HB1⟩
      case round =>
        obtain ⟨q, hql, rfl, s, rfl, HS, hsz, HB⟩ := hrel
        clear x0 x1 x2 HFIN HX2 HB1
        obtain ⟨x0, x1, x2, -, -, -, -⟩ := (X0.out.on HB.out).three
        by_cases hlt : q < t.ks.length
        · obtain ⟨⟨nm, ad, cp, rs⟩, hx⟩ : ∃ p, t.ks[q]? = some p := ⟨t.ks[q], List.getElem?_eq_getElem hlt⟩
          have hm := List.mem_of_getElem? hx
          have hnz := name_sz (HV.out.kn _ hm)
          have hrl := HV.out.rl _ hm
          have HRS := Lib.hid (HV.out.rs _ hm)
          obtain ⟨kb, ko, rfl, hkB, cN, cS, -, -⟩ := kinds_at (HT.out.on HB.out).tab.ks hx
          dsimp only at hnz hrl HRS cN cS
          have HE := Lib.hid (show (s ++ joinB (kindW nm rs)) ++ ⟨#[10]⟩ = textK t (t.ks.take (q + 1)) by rw [List.take_add_one, hx, line_text, HS.out]; exact (textK_snoc t (t.ks.take q) ⟨nm, ad, cp, rs⟩).symm)
          have HK := Lib.hid hx
          have z1 : (s ++ nm).size = s.size + nm.size := ba_size
          have q1 : ¬ 9223372036854775807 < s.size + nm.size := by omega
          have HZ := Lib.hid (kind_text0 s nm)
          clear hx HS hm
          go_wp2_with fail
          clear q1 x0 x1 x2 cN cS
          go_loopw [3, 6] (fun v i wr => ∃ j : Nat, j ≤ t.ps.length ∧ i = .int .i64 j ∧ ∃ x : ByteArray, v = .string x ∧ Hid (x = s ++ joinB (kindW nm (rs.take j))) ∧ x.size ≤ s.size + 100 * (j + 1) ∧ Hid (Below W0.heap.size W0 wr)) (fun _ i _ => t.ps.length - (intOf i).toNat)
          case atStart => exact ⟨0, Nat.zero_le _, rfl, _, rfl, HZ.out, by rw [z1]; omega, HB⟩
          case round =>
            obtain ⟨j, hjl, rfl, x, rfl, HX, hxz, HB2⟩ := hrel
            obtain ⟨x0, x1, x2, -, -, -, -⟩ := (X0.out.on HB2.out).three
            by_cases hlj : j < t.ps.length
            · obtain ⟨⟨lo, hi⟩, hr⟩ : ∃ p, rs[j]? = some p := ⟨rs[j]'(by omega), List.getElem?_eq_getElem _⟩
              have gr := HRS.out _ (List.mem_of_getElem? hr)
              obtain ⟨kb', ko', e, hkB2, cN, cS, hsp, -⟩ := kinds_at (HT.out.on HB2.out).tab.ks HK.out
              simp only [Option.some.injEq, Addr.mk.injEq, and_true] at e
              obtain ⟨rfl, rfl⟩ := e
              obtain ⟨sb, so, rfl, hsB, cL, cH⟩ := spans_at hsp hr
              dsimp only at gr cN cS cL cH
              have HN := Lib.hid (show s ++ joinB (kindW nm (rs.take (j + 1))) = (((x ++ ⟨#[32]⟩) ++ itoaB lo) ++ ⟨#[32]⟩) ++ itoaB hi by rw [HX.out, List.take_add_one, hr]; exact (kind_text s nm (rs.take j) (lo, hi)).symm)
              have hiz1 := itoaB_size lo (by omega) (by omega)
              have hiz2 := itoaB_size hi (by omega) (by omega)
              have HD1 := Lib.hid (fun (W : World) => rdigits_any lo.toNat lo W (by omega) (by omega) (by omega))
              have HD2 := Lib.hid (fun (W : World) => rdigits_any hi.toNat hi W (by omega) (by omega) (by omega))
              generalize itoaB lo = d1 at *
              generalize itoaB hi = d2 at *
              have z1 : (x ++ ⟨#[32]⟩).size = x.size + 1 := ba_size
              have z2 : ((x ++ ⟨#[32]⟩) ++ d1).size = x.size + 1 + d1.size := by rw [ba_size, z1]
              have z3 : (((x ++ ⟨#[32]⟩) ++ d1) ++ ⟨#[32]⟩).size = x.size + 1 + d1.size + 1 := by rw [ba_size, z2]; rfl
              have z4 : ((((x ++ ⟨#[32]⟩) ++ d1) ++ ⟨#[32]⟩) ++ d2).size = x.size + 1 + d1.size + 1 + d2.size := by rw [ba_size, z3]
              have hfin : x.size + 1 + d1.size + 1 + d2.size ≤ s.size + 100 * (j + 1 + 1) := by omega
              have q1 : ¬ 9223372036854775807 < x.size + 1 := by omega
              have q2 : ¬ 9223372036854775807 < x.size + 1 + d1.size := by omega
              have q3 : ¬ 9223372036854775807 < x.size + 1 + d1.size + 1 := by omega
              have q4 : ¬ 9223372036854775807 < x.size + 1 + d1.size + 1 + d2.size := by omega
              have hlb := X0.out.lt
              have hjr : j < rs.length := by omega
              clear hr HX hsp HE HZ
              go_wp2_with fail
              have hH : HeldB wr [(B, 1, .slice (some ⟨kb, ko, none⟩) t.ks.length kc), (kb, ko + q * 2 + 1, .slice (some ⟨sb, so, none⟩) rs.length cp), (sb, so + j * 2, .int .i64 lo), (sb, so + j * 2 + 1, .int .i64 hi)] wr.drew := HeldB.drew ⟨.cons (Nat.lt_of_lt_of_le hlb HB2.out.size) x1 (.cons hkB2 cS (.cons hsB cL (.cons hsB cH (.nil _)))), Below.refl _ _⟩
              clear x0 x1 x2 cN cS cL cH
              go_region_held3 (fun w' => w'.cell? ⟨B, 1, none⟩ = some (.slice (some ⟨kb, ko, none⟩) t.ks.length kc) ∧ w'.cell? ⟨kb, ko + q * 2 + 1, none⟩ = some (.slice (some ⟨sb, so, none⟩) rs.length cp) ∧ w'.cell? ⟨sb, so + j * 2, none⟩ = some (.int .i64 lo) ∧ w'.cell? ⟨sb, so + j * 2 + 1, none⟩ = some (.int .i64 hi) ∧ HeldB wr [(B, 1, .slice (some ⟨kb, ko, none⟩) t.ks.length kc), (kb, ko + q * 2 + 1, .slice (some ⟨sb, so, none⟩) rs.length cp), (sb, so + j * 2, .int .i64 lo), (sb, so + j * 2 + 1, .int .i64 hi)] w')
                ((refine HeldB.of4 ?_; first | assumption | (go_split_ands; assumption) | (go_split_ands; refine HeldB.on ?_ hbN; assumption)))
                (first
                  | (go_at_call 47; (with_reducible refine (HD1.out _).mono ?_); rintro e w' ⟨rfl, hbN⟩; have hb1 := hbN)
                  | (go_at_call 47; (with_reducible refine (HD2.out _).mono ?_); rintro e w'' ⟨rfl, hbN⟩)
                  | fail)
              all_goals (have HB7 := Lib.hid (HB2.out.trans ((((Below.refl _ wr).drew.trans hb1).trans (hbN.mono (by have := hb1.size; simpa using this))).mono HB2.out.size)); clear hbN hb1)
              all_goals go_wp2_with fail
              all_goals go_roundw
              all_goals first
                | exact ⟨j + 1, by omega, by go_num, _, rfl, by show _ = _; exact HN.out.symm, by rw [z4]; exact hfin, HB7⟩
                | (simp [intOf]; omega)
            · have hje : j = rs.length := by omega
              have HE2 := Lib.hid (show x ++ ⟨#[10]⟩ = textK t (t.ks.take (q + 1)) by rw [← HE.out, HX.out, hje, List.take_length])
              have z2 : (x ++ ⟨#[10]⟩).size = x.size + 1 := ba_size
              have q1 : ¬ 9223372036854775807 < x.size + 1 := by omega
              have hfin : x.size + 1 ≤ 1000 * (q + 1 + 1) := by omega
              clear HX HE HZ hje
              go_wp2_with fail
              go_roundw
              case rel => exact ⟨q + 1, by omega, by go_num, _, rfl, HE2.out, by rw [z2]; exact hfin, HB2⟩
              case measure => simp [intOf]; omega
        · have hqe : q = t.ks.length := by omega
          have HE := Lib.hid (show s = textV t by have hh := HS.out; rw [hqe, List.take_length] at hh; exact hh)
          clear hqe HS
          go_wp2_with fail
          go_ret
          exact ⟨ret_str HE.out, by have h1 := HA.out.trans (HB.out.mono (by have := HA.out.size; have := HBW.out; omega)); rw [HBW.out]; exact h1⟩

set_option maxRecDepth 100000 in
set_option maxHeartbeats 1000000 in
theorem rwrite_any {w : World} {pa ka : Option Addr} {pc kc : Nat} {t : Tab} (h : TabIn w pa ka pc kc t) :
    Calls Tryz.prog 6 #[.agg #[.slice pa t.ps.length pc, .slice ka t.ks.length kc, .int .i64 t.pu]] w fun e w' => e = .returned (.tuple #[.string (writeV t).1, .int .i64 (writeV t).2]) ∧ Below w.heap.size w w' := by
  have hp := h.tab.lp
  have hk := h.tab.lk
  have hA := (Below.refl _ w).alloc (Nat.le_refl _) (.cells #[.slice pa t.ps.length pc, .slice ka t.ks.length kc, .int .i64 t.pu] 25)
  have X0 := Lib.hid (Blk.new w 25 #[.slice pa t.ps.length pc, .slice ka t.ks.length kc, .int .i64 t.pu])
  have H1 := rcheck_any (h.on hA)
  have HT := Lib.hid (h.on hA)
  have HA := Lib.hid hA
  clear hA
  by_cases h0 : (checkT t).2.2 = 0
  · have HW := Lib.hid (show writeV t = (textV t, 0) by unfold writeV; rw [if_neg (by simpa using h0)])
    have HV := Lib.hid (valid_of h0)
    rw [h0] at H1
    generalize (checkT t).1 = c1 at H1
    generalize (checkT t).2.1 = c2 at H1
    have H1 := Lib.hid H1
    clear h0 h
    go_enter Tryz.func6, Tryz.ntmps6
    go_wp2_with fail
    (with_reducible refine H1.out.mono ?_)
    rintro e w1 ⟨rfl, hb⟩
    have X1 := Lib.hid (X0.out.on hb)
    have H2 := Lib.hid (rtext_any (HT.out.on hb) HV.out)
    have HB := Lib.hid (HA.out.trans (hb.mono HA.out.size))
    obtain ⟨x0, x1, x2, _, _, _, _⟩ := X1.out.three
    clear hb
    go_wp2_with fail
    (with_reducible refine H2.out.mono ?_)
    rintro e w2 ⟨rfl, hb2⟩
    go_wp2_with fail
    refine bodyPost_ret (v := .tuple #[.string (textV t), .int .i64 0]) ?_ rfl ⟨by rw [HW.out], HB.out.trans (hb2.mono HB.out.size)⟩
    simp [results, Tryz.results6, go_sem, *]
  · have HW := Lib.hid (show writeV t = (⟨#[]⟩, (checkT t).2.2) by unfold writeV; rw [if_pos (by simpa using h0)])
    rw [HW.out]
    generalize (checkT t).1 = c1 at H1
    generalize (checkT t).2.1 = c2 at H1
    generalize (checkT t).2.2 = z at *
    have H1 := Lib.hid H1
    have hz1 : (z == 0) = false := by simpa using h0
    have hz2 : (z != 0) = true := by simpa using h0
    clear h0 h
    go_enter Tryz.func6, Tryz.ntmps6
    go_wp2_with fail
    (with_reducible refine H1.out.mono ?_)
    rintro e w1 ⟨rfl, hb⟩
    have HB := Lib.hid (HA.out.trans (hb.mono HA.out.size))
    clear hb
    go_wp2_with fail
    refine bodyPost_ret (v := .tuple #[.string ⟨#[]⟩, .int .i64 z]) ?_ rfl ⟨rfl, HB.out⟩
    simp [results, Tryz.results6, go_sem, *]
end Go.Proofs.YthihpggjglghoaaGreatDoor

namespace Go.Proofs.YthihpggjglghoaaGreatDoor
open Go.ChangeShapes Go.RowKit Go.Shelf

theorem readV_none' {s : ByteArray} {n : Int} (h : readV s = (none, n)) : n ≠ 0 := by
  unfold readV at h
  split at h
  · simp only [Prod.mk.injEq] at h; omega
  · split at h
    · simp only [Prod.mk.injEq] at h; omega
    · split at h
      · simp at h
      · simp only [Prod.mk.injEq] at h; omega
theorem nil_in' (w : World) : TabIn w none none 0 0 ⟨[], [], 0⟩ := ⟨⟨RowAt.nil, ⟨RowAt.nil, fun k hk => by simp at hk⟩, by simp, by simp⟩, by simp, by simp, fun p hp => by simp at hp, fun k hk => by simp at hk⟩
theorem tabs_nil' (w : World) : Calls Tryz.prog 9 #[.agg #[.slice none 0 0, .slice none 0 0, .int .i64 0], .agg #[.slice none 0 0, .slice none 0 0, .int .i64 0]] w fun e w' => e = .returned (.bool true) ∧ Below w.heap.size w w' := by
  have h := tables_any (nil_in' w) (nil_in' w)
  rw [show decide (tabEq ⟨[], [], 0⟩ ⟨[], [], 0⟩) = true from decide_eq_true ⟨rfl, rfl, rfl⟩] at h
  exact h

set_option maxRecDepth 100000 in
set_option maxHeartbeats 4000000 in
theorem rread_any {w : World} (s : ByteArray) (hs : s.size ≤ 9223372036854775807) : Calls Tryz.prog 8 #[.string s] w (ReadOut w (readR s)) := by
  have hb1 : Below w.heap.size w (w.alloc (.cells #[.slice none 0 0, .slice none 0 0, .int .i64 0] 25)) := (Below.refl _ w).alloc (Nat.le_refl _) _
  by_cases hl : 2000 < s.size
  · have hR : readR s = (none, 3) := by simp [readR, hl]
    rw [hR]
    clear hR
    go_enter Tryz.func8, Tryz.ntmps8
    go_wp2_with fail
    refine bodyPost_ret (v := .tuple #[.agg #[.slice none 0 0, .slice none 0 0, .int .i64 0], .int .i64 3]) ?_ rfl ⟨rfl, ?_⟩
    · simp [results, Tryz.results8, go_sem, *]
    · repeat (first | exact hb1 | refine Below.setCell ?_ (by simp) _)
  · have HPR := Lib.hid (fun (W : World) => rparsed_any s W (by omega))
    obtain ⟨R, hRv⟩ : ∃ R, R = readR s := ⟨_, rfl⟩
    rw [← hRv]
    have hRR : R = if (checkT (plainT (parsedV s))).2.2 = 0 ∧ textV (plainT (parsedV s)) = s then (some (parsedV s), 0) else (none, 6) := by rw [hRv]; unfold readR; rw [if_neg hl]
    generalize parsedV s = PV at *
    obtain ⟨P, U, KL⟩ := PV
    have HRR := Lib.hid hRR
    have HSZ := Lib.hid hl
    clear hRR hRv
    go_enter Tryz.func8, Tryz.ntmps8
    go_wp2_with fail
    refine (HPR.out _).mono ?_
    rintro e w1 ⟨pa, pc, ka, kc, ks, rfl, hpo, hko, hnf, hks, hb⟩
    have hT := (tab_of_outs (t := ⟨P, ks, U⟩) hpo hko hnf).2.2
    have hE : checkT (plainT (P, U, KL)) = checkT ⟨P, ks, U⟩ := by rw [← hks]; exact checkT_plain P ks U
    have hX : textV (plainT (P, U, KL)) = textV ⟨P, ks, U⟩ := by
      rw [textV_eq, textV_eq]
      obtain ⟨e1, e2, e3⟩ := plainT_text (P, U, KL)
      rw [e1, e2, e3, ← hks]
    rw [hE, hX] at HRR
    have HKS := Lib.hid hks
    have HNF := Lib.hid hnf
    have HPO := Lib.hid (show PropsOut (w.heap.size + 1) w1 (.slice pa P.length pc) P from hpo.base (by simp))
    have HKO := Lib.hid (show KindsOut (w.heap.size + 1) w1 (.slice ka ks.length kc) ks from hko.base (by simp))
    have hb2 := (Below.refl _ w1).alloc (Nat.le_refl _) (.cells #[.slice pa P.length pc, .slice ka ks.length kc, .int .i64 U] 25)
    have HCK := rcheck_any (hT.on hb2)
    have HTI := Lib.hid (hT.on hb2)
    have hB1 : Blk w1 w.heap.size 25 #[.slice none 0 0, .slice none 0 0, .int .i64 0] := (hb.block w.heap.size (by simp)).trans (Blk.new w _ _)
    have HBB := Lib.hid (hb1.trans (hb.mono (by simp)))
    have hsz : w.heap.size < w1.heap.size := by have := hb.size; simp at this; omega
    by_cases hc : (checkT ⟨P, ks, U⟩).2.2 = 0
    · have HVV := Lib.hid (valid_of hc)
      have HR2 := Lib.hid (show R = if textV ⟨P, ks, U⟩ = s then (some (P, U, KL), 0) else (none, 6) by
        rw [HRR.out]
        by_cases hx : textV ⟨P, ks, U⟩ = s
        · rw [if_pos ⟨hc, hx⟩, if_pos hx]
        · rw [if_neg (fun e => hx e.2), if_neg hx])
      rw [hc] at HCK
      generalize (checkT ⟨P, ks, U⟩).1 = c1 at HCK
      generalize (checkT ⟨P, ks, U⟩).2.1 = c2 at HCK
      have HC := Lib.hid HCK
      clear hc HCK hpo hko hnf hks hT hE hX HRR HPR hl
      go_wp2_with fail
      refine HC.out.mono ?_
      rintro e w2 ⟨rfl, hb3⟩
      have H3 := Lib.hid (rtext_any (HTI.out.on hb3) HVV.out)
      have hb4 := hb2.trans (hb3.mono (by simp))
      have hB3 : Blk w2 w1.heap.size 25 #[.slice pa P.length pc, .slice ka ks.length kc, .int .i64 U] := (hb3.block w1.heap.size (by simp)).trans (Blk.new w1 _ _)
      obtain ⟨z0, z1, z2, -, -, -, z6⟩ := hB3.three
      have HB4 := Lib.hid hb4
      have HB3 := Lib.hid hB3
      have HB1 := Lib.hid hB1
      clear hb3 hb4 hB3 hB1 HC
      generalize textV ⟨P, ks, U⟩ = tx at *
      go_wp2_with fail
      refine H3.out.mono ?_
      rintro e w3 ⟨rfl, hb5⟩
      have hb6 := HB4.out.trans (hb5.mono HB4.out.size)
      obtain ⟨v0, v1, v2, v3, v4, v5, v6⟩ := Blk.three (show Blk w3 w.heap.size 25 #[.slice none 0 0, .slice none 0 0, .int .i64 0] from (hb6.block w.heap.size hsz).trans HB1.out)
      clear z0 z1 z2 z6
      obtain ⟨z0, z1, z2, -, -, -, z6⟩ := (HB3.out.on hb5).three
      have HB5 := Lib.hid (HBB.out.trans (hb6.mono HBB.out.size))
      have HG := Lib.hid (grown_of_below hb6 (some w.heap.size))
      have hne : w.heap.size ≠ w1.heap.size := by omega
      clear hb5 hb6 H3 hb2 HB4
      by_cases hx : tx = s
      · have HRX := Lib.hid (show R = (some (P, U, KL), 0) by rw [HR2.out, if_pos hx])
        subst hx
        have hq : (tx.toList == tx.toList) = true := by simp
        clear HR2
        go_wp2_with fail
        refine bodyPost_ret (v := .tuple #[.agg #[.slice pa P.length pc, .slice ka ks.length kc, .int .i64 U], .int .i64 0]) ?_ rfl ?_
        · simp [results, Tryz.results8, go_sem, *]
        · have g0 := HG.out.trans (grown_set w3 w.heap.size 0 (.slice pa P.length pc))
          have g1 := g0.trans (grown_set (w3.setCell ⟨w.heap.size, 0, none⟩ (.slice pa P.length pc)) w.heap.size 1 (.slice ka ks.length kc))
          have g2 := g1.trans (grown_set ((w3.setCell ⟨w.heap.size, 0, none⟩ (.slice pa P.length pc)).setCell ⟨w.heap.size, 1, none⟩ (.slice ka ks.length kc)) w.heap.size 2 (.int .i64 U))
          rw [HRX.out]
          refine ⟨pa, pc, ka, kc, ks, rfl, (tab_of_outs (t := ⟨P, ks, U⟩) (HPO.out.kept g2 (by omega)) (HKO.out.far g2 (fun j e => by cases e; omega)) HNF.out).2.2, HKS.out, ?_⟩
          repeat (first | exact HB5.out | refine Below.setCell ?_ (by simp) _)
      · have HRX := Lib.hid (show R = (none, 6) by rw [HR2.out, if_neg hx])
        have hq := neq_of hx
        clear HR2 hx
        go_wp2_with fail
        refine bodyPost_ret (v := .tuple #[.agg #[.slice none 0 0, .slice none 0 0, .int .i64 0], .int .i64 6]) ?_ rfl ?_
        · simp [results, Tryz.results8, go_sem, *]
        · rw [HRX.out]
          refine ⟨rfl, ?_⟩
          repeat (first | exact HB5.out | refine Below.setCell ?_ (by simp) _)
    · have HRX := Lib.hid (show R = (none, 6) by rw [HRR.out, if_neg (fun e => hc e.1)])
      generalize (checkT ⟨P, ks, U⟩).1 = c1 at HCK
      generalize (checkT ⟨P, ks, U⟩).2.1 = c2 at HCK
      generalize (checkT ⟨P, ks, U⟩).2.2 = z at *
      have hz1 : (z == 0) = false := by simpa using hc
      have hz2 : (z != 0) = true := by simpa using hc
      have HC := Lib.hid HCK
      have HB1 := Lib.hid hB1
      clear hc HCK hpo hko hnf hks hT hE hX HRR HPR hl hB1
      go_wp2_with fail
      refine HC.out.mono ?_
      rintro e w2 ⟨rfl, hb3⟩
      have hb4 := hb2.trans (hb3.mono (by simp))
      obtain ⟨v0, v1, v2, v3, v4, v5, v6⟩ := Blk.three (show Blk w2 w.heap.size 25 #[.slice none 0 0, .slice none 0 0, .int .i64 0] from (hb4.block w.heap.size hsz).trans HB1.out)
      have HB5 := Lib.hid (HBB.out.trans (hb4.mono HBB.out.size))
      clear hb3 hb4 hb2 HC
      go_wp2_with fail
      refine bodyPost_ret (v := .tuple #[.agg #[.slice none 0 0, .slice none 0 0, .int .i64 0], .int .i64 6]) ?_ rfl ?_
      · simp [results, Tryz.results8, go_sem, *]
      · rw [HRX.out]
        refine ⟨rfl, ?_⟩
        repeat (first | exact HB5.out | refine Below.setCell ?_ (by simp) _)
end Go.Proofs.YthihpggjglghoaaGreatDoor

namespace Go.Proofs.YthihpggjglghoaaGreatDoor
open Go.ChangeShapes Go.WideShapes Go.ChangeAt Go.RowKit

theorem own : ownKnob Tryz.prog.godebug = none := by kernel_rfl
theorem g_pow : Tryz.prog.globalNamed "internal/strconv.uint64pow10" = some 0 := by kernel_rfl
theorem g_max : Tryz.prog.globalNamed "internal/bytealg.MaxLen" = some 1 := by kernel_rfl
theorem g_syn : Tryz.prog.globalNamed "strconv.ErrSyntax" = some 4 := by kernel_rfl
theorem g_rng : Tryz.prog.globalNamed "strconv.ErrRange" = some 5 := by kernel_rfl
theorem gt_pow : (Tryz.prog.globals[0]?).map (·.type) = some 169 := by kernel_rfl
theorem gt_syn : (Tryz.prog.globals[4]?).map (·.type) = some 125 := by kernel_rfl
theorem gt_rng : (Tryz.prog.globals[5]?).map (·.type) = some 125 := by kernel_rfl
theorem c_pow : Tryz.prog.cellsOf 169 = 20 := by kernel_rfl
theorem c_u64 : Tryz.prog.cellsOf 145 = 1 := by kernel_rfl
theorem c_es : Tryz.prog.cellsOf 213 = 1 := by kernel_rfl
theorem c_str : Tryz.prog.cellsOf 9 = 1 := by kernel_rfl
theorem es_name : Tryz.prog.typeName? 3 211 = some "*errors.errorString" := by kernel_rfl
theorem es_star : "*errors.errorString" = "*" ++ "errors.errorString" := by decide
set_option maxRecDepth 100000 in
theorem es_row (u : TypeId) (h : Tryz.prog.typeName? 3 u = some "*errors.errorString") : u = 211 :=
  typeName_ptr_named (nm := "errors.errorString") (by rw [← es_star]; kernel_rfl) (by kernel_rfl) (by decide) u (by rw [← es_star]; exact h)

theorem base_of {W : World} (h0 : laidMetH Tryz.prog Rows.waxTextsRow.laid W) (hs : W.ShapedOpen Tryz.prog) : Base W := by
  rw [MakeChecks.laidMetH_plain _ _ _ (by kernel_rfl)] at h0
  have h : laidMet Tryz.prog (("math/bits.deBruijn32tab", Rows.laid_math_bits_deBruijn32tab) :: ("math/bits.deBruijn64tab", Rows.laid_math_bits_deBruijn64tab) :: ("internal/strconv.uint64pow10", Lib.tabData .u64 Lib.pow10Tab) :: ("unicode/utf8.acceptRanges", Rows.laid_unicode_utf8_acceptRanges) :: ("strconv.ErrRange", .iface "*errors.errorString" (.ptr (.agg [.lit (.string [118, 97, 108, 117, 101, 32, 111, 117, 116, 32, 111, 102, 32, 114, 97, 110, 103, 101])]))) :: ("strconv.ErrSyntax", .iface "*errors.errorString" (.ptr (.agg [.lit (.string [105, 110, 118, 97, 108, 105, 100, 32, 115, 121, 110, 116, 97, 120])]))) :: [("unicode/utf8.first", Rows.laid_unicode_utf8_first)]) W := h0
  refine ⟨?_, ?_, ?_, ?_⟩
  · exact Lib.tabIs_of_head g_pow gt_pow Tryz.underlying169 Tryz.underlying145 c_u64 c_pow h.tail.tail
  · exact cell_of_shapedOpen_int (t := 3) (k := .i64) (zero := #[.int .i64 0]) hs (of_decide_eq_true (by kernel_rfl)) (by kernel_rfl) (by kernel_rfl) (by kernel_rfl) (by kernel_rfl) Tryz.underlying3
  · obtain ⟨a0, s0, hv0, _⟩ := laid_sentinel h.tail.tail.tail.tail.tail g_syn gt_syn Tryz.underlying125 es_row Tryz.underlying211 Tryz.underlying213 rfl rfl Tryz.underlying9 c_es c_str
    exact ⟨_, _, by simpa using World.var?_cell g_syn hv0 0⟩
  · obtain ⟨a0, s0, hv0, _⟩ := laid_sentinel h.tail.tail.tail.tail g_rng gt_rng Tryz.underlying125 es_row Tryz.underlying211 Tryz.underlying213 rfl rfl Tryz.underlying9 c_es c_str
    exact ⟨_, _, by simpa using World.var?_cell g_rng hv0 0⟩

/-- A start for the witness: the door's heap, and utf8.first as Go's library lays it. -/
noncomputable def laidWorld (os : Os) : World :=
  { World.doorLaid Tryz.prog 72 os with heap := (World.doorLaid Tryz.prog 72 os).heap.modify 6 fun
      | .cells _ t frozen => .cells (Lib.firstTab.map fun z => Value.int .u8 z).toArray t frozen
      | o => o }
theorem laid_met (os : Os) (args : Array Value) : laidMetH Tryz.prog Rows.waxTextsRow.laid ((laidWorld os).forCall (fun _ _ => 0) ⟨#[], args, []⟩).memory := by
  rw [MakeChecks.laidMetH_plain _ _ _ (by kernel_rfl)]
  exact laidMet_of_run' 8 (by kernel_rfl) (by kernel_rfl)
end Go.Proofs.YthihpggjglghoaaGreatDoor
