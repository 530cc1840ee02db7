/- Contracts of layer wax, a part: texts of tables; arguments that come in. No statement is proved here. -/
import Derived.Test.YtnpajncolkafgaaGreatDoorOpen
import Derived.WalkKit
import Derived.ProofKit
import Derived.OpenShut
import Derived.Deep.Slices
import Derived.Lib.SmallJoins
import Derived.Test.YtnpajncolkafgaaGreatDoorRd
import Derived.Test.YtnpajncolkafgaaGreatDoorWriteA
import Derived.Lib.IndexBytes
import Derived.Lib.SplitLaws
namespace Go.Proofs.YtnpajncolkafgaaGreatDoor
open Go.ChangeShapes Go.WideShapes Go.RowKit Go.Deep Go.Joins

theorem plain_of {w : World} {a : Addr} {v : Value} (h : w.cell? a = some v) : a = ⟨a.block, a.off, none⟩ := by
  obtain ⟨b, o, s⟩ := a
  have hs : s = none := by simpa using World.cell?_spot h
  subst hs
  rfl
section
variable {H : Type} {enc : TypeId × Value → H} {W W' : World}

theorem open_rows {α : Type} [Inhabited α] {t e : TypeId} {sz fuel : Nat} {c0 : Value} {x : DataW H × List MemPlace} {en : α → Nat → Value} {Q : α → Prop} (ht : Tryz.prog.underlying t = some (.slice e)) (hsz : Tryz.prog.cellsOf e = sz) (hpos : 0 < sz)
    (h : DataW.trod enc Tryz.prog W 0 (fun _ => true) true fuel t [c0] = some x)
    (hel : ∀ (n : Nat) (cs : List Value) (y : DataW H × List MemPlace), cs.length = sz → DataW.trod enc Tryz.prog W 0 (fun _ => true) true n e cs = some y → ∃ z : α, (∀ j, j < sz → cs[j]? = some (en z j)) ∧ Q z) :
    ∃ (A : Option Addr) (l : List α) (c : Nat), c0 = .slice A l.length c ∧ RowAt sz en W W.heap.size A l ∧ l.length ≤ c ∧ l.length ≤ maxLen ∧ ∀ z ∈ l, Q z := by
  rcases open_slice ht h with ⟨hcs, _⟩ | ⟨a, len, cap, m, n, D, Pl, hcs, _, hl, hm, hmm, _, hx⟩
  · simp only [List.cons.injEq, and_true] at hcs
    subst hcs
    exact ⟨none, [], 0, rfl, RowAt.nil, by simp, by simp, fun z hz => by simp at hz⟩
  · simp only [List.cons.injEq, and_true] at hcs
    subst hcs
    have hmc : m = cap := by rw [hmm]; simp
    obtain ⟨f, hf⟩ := choose_lt (α := α) (n := len) (p := fun i z => (∀ j, j < sz → W.cell? (a.add (i * sz + j)) = some (en z j)) ∧ Q z) (fun i hi => by
      obtain ⟨cs, h1, h2⟩ := hx i (by omega)
      rw [hsz] at h1
      obtain ⟨_, hlen, hc⟩ := World.cells?_some h1
      obtain ⟨z, hz, hq⟩ := hel n cs _ hlen h2
      refine ⟨z, fun j hj => ?_, hq⟩
      have h3 := hc j hj
      rw [add_add] at h3
      rw [h3]
      exact hz j hj)
    refine ⟨some a, (List.range len).map f, cap, by simp, fun hp => ?_, by simpa using hl, by simp; omega, fun z hz => ?_⟩
    · have hlen0 : 0 < len := by simpa using hp
      have hc0 := (hf 0 hlen0).1 0 hpos
      have hpl : a = ⟨a.block, a.off, none⟩ := by
        have h0 : W.cell? a = some (en (f 0) 0) := by simpa [Addr.add] using hc0
        exact plain_of h0
      refine ⟨a.block, a.off, by rw [← hpl], ?_, fun i z hi j hj => ?_⟩
      · rcases Nat.lt_or_ge a.block W.heap.size with h' | h'
        · exact h'
        · rw [hpl] at hc0
          simp only [Nat.zero_mul, Nat.add_zero, Addr.add, World.cell?] at hc0
          rw [Array.getElem?_eq_none (by simpa using h')] at hc0
          cases hc0
      · rw [List.getElem?_map] at hi
        obtain ⟨i', hi', rfl⟩ := Option.map_eq_some_iff.1 hi
        obtain ⟨hlt, hii⟩ := List.getElem?_eq_some_iff.1 hi'
        simp at hlt hii
        subst hii
        have h3 := (hf i hlt).1 j hj
        rw [hpl, add_plain] at h3
        rw [Nat.add_assoc]
        exact h3
    · obtain ⟨i, hi, rfl⟩ := List.mem_map.1 hz
      exact (hf i (by simpa using hi)).2

instance : Inhabited Pr := ⟨⟨⟨#[]⟩, 0⟩⟩
instance : Inhabited Kd := ⟨⟨⟨#[]⟩, none, 0, []⟩⟩
theorem el_int (n : Nat) (cs : List Value) (y : DataW H × List MemPlace) (_ : cs.length = 1) (h : DataW.trod enc Tryz.prog W 0 (fun _ => true) true n 3 cs = some y) : ∃ z : Int, (∀ j, j < 1 → cs[j]? = some (encI z j)) ∧ (Lit.int .i64 z).wf = true := by
  obtain ⟨z, rfl, _, hw⟩ := DataW.trod_int Tryz.underlying3 h
  exact ⟨z, fun j hj => by obtain rfl : j = 0 := by omega
                           rfl, hw⟩
set_option maxRecDepth 100000 in
theorem el_span (n : Nat) (cs : List Value) (y : DataW H × List MemPlace) (hl : cs.length = 2) (h : DataW.trod enc Tryz.prog W 0 (fun _ => true) true n 35 cs = some y) : ∃ z : Int × Int, (∀ j, j < 2 → cs[j]? = some (encS z j)) ∧ True := by
  obtain ⟨y0, y1, m, _, _, h0, h1⟩ := trod_struct2 Tryz.underlying35 h
  match cs, hl with
  | [u0, u1], _ =>
    obtain ⟨a, ea, _⟩ := DataW.trod_int Tryz.underlying3 (show DataW.trod enc Tryz.prog W 0 (fun _ => true) true m 3 [u0] = some y0 from h0)
    obtain ⟨b, eb, _⟩ := DataW.trod_int Tryz.underlying3 (show DataW.trod enc Tryz.prog W 0 (fun _ => true) true m 3 [u1] = some y1 from h1)
    simp only [List.cons.injEq, and_true] at ea eb
    subst ea; subst eb
    exact ⟨(a, b), fun j hj => by match j, hj with
      | 0, _ => rfl
      | 1, _ => rfl, trivial⟩
set_option maxRecDepth 100000 in
theorem el_prop (n : Nat) (cs : List Value) (y : DataW H × List MemPlace) (hl : cs.length = 2) (h : DataW.trod enc Tryz.prog W 0 (fun _ => true) true n 79 cs = some y) : ∃ z : Pr, (∀ j, j < 2 → cs[j]? = some (encP z j)) ∧ z.nm.size ≤ maxLen := by
  obtain ⟨y0, y1, m, _, _, h0, h1⟩ := trod_struct2 Tryz.underlying79 h
  match cs, hl with
  | [u0, u1], _ =>
    obtain ⟨a, ea, _, hs⟩ := DataW.trod_string Tryz.underlying9 (show DataW.trod enc Tryz.prog W 0 (fun _ => true) true m 9 [u0] = some y0 from h0)
    obtain ⟨b, eb, _⟩ := DataW.trod_int Tryz.underlying3 (show DataW.trod enc Tryz.prog W 0 (fun _ => true) true m 3 [u1] = some y1 from h1)
    simp only [List.cons.injEq, and_true] at ea eb
    subst ea; subst eb
    exact ⟨⟨a, b⟩, fun j hj => by match j, hj with
      | 0, _ => rfl
      | 1, _ => rfl, hs⟩
theorem c_int : Tryz.prog.cellsOf 3 = 1 := by kernel_rfl
theorem c_span : Tryz.prog.cellsOf 35 = 2 := by kernel_rfl
theorem c_prop : Tryz.prog.cellsOf 79 = 2 := by kernel_rfl
theorem c_kind : Tryz.prog.cellsOf 77 = 2 := by kernel_rfl
theorem c_tab : Tryz.prog.cellsOf 25 = 3 := by kernel_rfl
set_option maxRecDepth 100000 in
theorem el_kind (n : Nat) (cs : List Value) (y : DataW H × List MemPlace) (hl : cs.length = 2) (h : DataW.trod enc Tryz.prog W 0 (fun _ => true) true n 77 cs = some y) : ∃ z : Kd, (∀ j, j < 2 → cs[j]? = some (encK z j)) ∧ (z.nm.size ≤ maxLen ∧ SpansAt W W.heap.size z.ad z.rs ∧ z.rs.length ≤ maxLen ∧ z.rs.length ≤ z.cp) := by
  obtain ⟨y0, y1, m, _, _, h0, h1⟩ := trod_struct2 Tryz.underlying77 h
  match cs, hl with
  | [u0, u1], _ =>
    obtain ⟨a, ea, _, hs⟩ := DataW.trod_string Tryz.underlying9 (show DataW.trod enc Tryz.prog W 0 (fun _ => true) true m 9 [u0] = some y0 from h0)
    obtain ⟨A, l, c, eb, hr, hc, hm, _⟩ := open_rows (α := Int × Int) (en := encS) Tryz.underlying75 c_span (by omega) (show DataW.trod enc Tryz.prog W 0 (fun _ => true) true m 75 [u1] = some y1 from h1) el_span
    simp only [List.cons.injEq, and_true] at ea
    subst ea; subst eb
    exact ⟨⟨a, A, c, l⟩, fun j hj => by match j, hj with
      | 0, _ => rfl
      | 1, _ => rfl, hs, hr, hm, hc⟩
set_option maxRecDepth 100000 in
/-- A list of ints that came in. -/
theorem open_ints_in {v : Value} {d : DataW H} {p : List MemPlace} (h : DataW.Trod enc Tryz.prog W 0 (fun _ => true) true 32 v d p) (hv : ∃ A l c, v = .slice A l c) : ∃ A l c, v = .slice A l.length c ∧ IntsIn W A l ∧ ∀ z ∈ l, (Lit.int .i64 z).wf = true := by
  obtain ⟨A0, l0, c0, rfl⟩ := hv
  obtain ⟨fuel, hf⟩ := h
  obtain ⟨A, l, c, e, hr, hc, hm, hq⟩ := open_rows (α := Int) (en := encI) Tryz.underlying32 c_int (by omega) (show DataW.trod enc Tryz.prog W 0 (fun _ => true) true fuel 32 [.slice A0 l0 c0] = some (d, p) by simpa [Value.cells] using hf) el_int
  exact ⟨A, l, c, e, ⟨hr, by unfold maxLen at hm; omega⟩, hq⟩
set_option maxRecDepth 100000 in
/-- A table that came in. -/
theorem open_table {v : Value} {d : DataW H} {p : List MemPlace} {b0 : Nat} (hv : Value.okWide Tryz.prog W .any b0 25 v) (h : DataW.Trod enc Tryz.prog W 0 (fun _ => true) true 25 v d p) :
    ∃ pa pc ka kc t, v = .agg #[.slice pa t.ps.length pc, .slice ka t.ks.length kc, .int .i64 t.pu] ∧ TabIn W pa ka pc kc t := by
  obtain ⟨v0, v1, v2, y0, y1, y2, n, rfl, _, _, h0, h1, h2⟩ := open_agg3 Tryz.underlying25 (by kernel_rfl) c_tab hv h
  obtain ⟨pa, ps, pc, rfl, hp, hpc, hpm, hpq⟩ := open_rows (α := Pr) (en := encP) Tryz.underlying22 c_prop (by omega) h0 el_prop
  obtain ⟨ka, ks, kc, rfl, hk, hkc, hkm, hkq⟩ := open_rows (α := Kd) (en := encK) Tryz.underlying23 c_kind (by omega) h1 el_kind
  obtain ⟨z, ez, _⟩ := DataW.trod_int Tryz.underlying3 h2
  simp only [List.cons.injEq, and_true] at ez
  subst ez
  unfold maxLen at hpm hkm hpq hkq
  refine ⟨pa, pc, ka, kc, ⟨ps, ks, z⟩, rfl, ⟨hp, ⟨hk, fun k hkk => ⟨(hkq k hkk).2.1, by have := (hkq k hkk).2.2.1; omega⟩⟩, by show ps.length ≤ _; omega, by show ks.length ≤ _; omega⟩, hpc, hkc, fun p hpp => by have := hpq p hpp; omega, fun k hkk => by have := (hkq k hkk).1; omega⟩
set_option maxRecDepth 100000 in
theorem laidOut : laidOutB Tryz.prog = true := by kernel_rfl
/-- The arguments read on as they did. -/
theorem trodAll_below {P : Program} (hl : laidOutB P = true) (hb : Below W.heap.size W W') (ts : List TypeId) : ∀ (vs : List Value) (ds : List (DataW H)) (ps : List MemPlace), (ts.all fun t => P.readableRec t && decide (t < P.types.size)) = true →
    DataW.TrodAll enc P W 0 (fun _ => true) true ts vs ds ps → (∀ x ∈ ps, x.block < W.heap.size) → DataW.TrodAll enc P W' 0 (fun b => decide (b < W.heap.size)) true ts vs ds ps := by
  induction ts with
  | nil =>
    intro vs ds ps _ h _
    obtain ⟨rfl, rfl, rfl⟩ := trodAll_nil h
    exact trodAll_mk0
  | cons t ts ih =>
    intro vs ds ps ht h hlt
    obtain ⟨v, vs', d, ds', p, q, rfl, rfl, rfl, h1, h2⟩ := trodAll_cons h
    simp only [List.all_cons, Bool.and_eq_true, decide_eq_true_eq] at ht
    exact trodAll_cons_mk (Below.trod hl ht.1.1 ht.1.2 h1 hb (fun x hx => hlt x (by simp [hx]))) (ih vs' ds' q ht.2 h2 (fun x hx => hlt x (by simp [hx])))
end
end Go.Proofs.YtnpajncolkafgaaGreatDoor

namespace Go.Proofs.YtnpajncolkafgaaGreatDoor

theorem ib_spec (c : UInt8) : ∀ l : List UInt8, (Lib.indexByte l c = -1 ∧ c ∉ l) ∨ ∃ a b, l = a ++ c :: b ∧ c ∉ a ∧ Lib.indexByte l c = a.length
  | [] => .inl ⟨rfl, by simp⟩
  | x :: l => by
    unfold Lib.indexByte
    by_cases hx : x = c
    · right
      exact ⟨[], l, by simp [hx], by simp, by simp [hx]⟩
    · have hb : (x == c) = false := by simpa using hx
      rcases ib_spec c l with ⟨h1, h2⟩ | ⟨a, b, rfl, h2, h3⟩
      · left
        rw [hb, h1]
        exact ⟨rfl, by simp [h2, Ne.symm hx]⟩
      · right
        refine ⟨x :: a, b, rfl, by simp [h2, Ne.symm hx], ?_⟩
        rw [hb, h3]
        have hn : (((a.length : Nat) : Int) == -1) = false := by
          rw [beq_eq_false_iff_ne]; omega
        rw [hn]
        simp
theorem ib_hit (c : UInt8) (a b : List UInt8) (h : c ∉ a) : Lib.index (a ++ c :: b) [c] = a.length := by
  rw [Lib.index_one]
  rcases ib_spec c (a ++ c :: b) with ⟨_, h2⟩ | ⟨a', b', he, h2, h3⟩
  · simp at h2
  · rw [h3]
    rcases List.append_eq_append_iff.1 he with ⟨u, rfl, hu⟩ | ⟨u, rfl, hu⟩
    · cases u with
      | nil => simp
      | cons y u =>
        simp only [List.cons_append, List.cons.injEq] at hu
        rw [← hu.1] at h2
        simp at h2
    · cases u with
      | nil => simp
      | cons y u =>
        simp only [List.cons_append, List.cons.injEq] at hu
        rw [← hu.1] at h
        simp at h
theorem ib_miss (c : UInt8) (a : List UInt8) (h : c ∉ a) : Lib.index a [c] = -1 := by
  rw [Lib.index_one]
  rcases ib_spec c a with ⟨h1, _⟩ | ⟨a', b', rfl, _, _⟩
  · exact h1
  · simp at h
theorem cut_hit (a b : List UInt8) (h : (10 : UInt8) ∉ a) : Lib.cut (a ++ 10 :: b) [10] = (a, b, true) := by
  unfold Lib.cut
  rw [ib_hit 10 a b h, if_pos (by omega)]
  simp
theorem cut_inv {s : List UInt8} (h : (Lib.cut s [10]).2.2 = true) : s = (Lib.cut s [10]).1 ++ 10 :: (Lib.cut s [10]).2.1 := by
  have hi := Lib.index_one s 10
  rcases ib_spec 10 s with ⟨h1, _⟩ | ⟨a, b, rfl, h2, _⟩
  · unfold Lib.cut at h
    rw [hi, h1] at h
    simp at h
  · rw [cut_hit a b h2]
theorem join_split (k : Nat) : ∀ s : List UInt8, Lib.join (Lib.splitK [32] 0 k s) [32] = s := by
  induction k with
  | zero => intro s; exact Lib.join_one _ _
  | succ k ih =>
    intro s
    unfold Lib.splitK
    rcases ib_spec 32 s with ⟨h1, h2⟩ | ⟨a, b, rfl, h2, _⟩
    · rw [ib_miss 32 s h2]
      simp [Lib.join_one]
    · rw [ib_hit 32 a b h2]
      have hn : (((a.length : Nat) : Int) == -1) = false := by
        rw [beq_eq_false_iff_ne]; omega
      rw [hn]
      simp only [Bool.false_eq_true, if_false, Int.toNat_natCast, Nat.add_zero, List.length_singleton]
      rw [List.take_left, show (a ++ 32 :: b).drop (a.length + 1) = b by simp]
      have hj := ih b
      rw [Lib.join_cons]
      cases hs : Lib.splitK [32] 0 k b with
      | nil => rw [hs] at hj; cases k <;> simp [Lib.splitK] at hs <;> split at hs <;> simp at hs
      | cons y ys =>
        rw [hs, Lib.join_cons] at hj
        rw [← hj]
        simp [Lib.joinTail]
theorem split_join : ∀ (ws : List (List UInt8)), ws ≠ [] → (∀ w ∈ ws, (32 : UInt8) ∉ w) → Lib.splitK [32] 0 (ws.length - 1) (Lib.join ws [32]) = ws ∧ (Lib.join ws [32]).count 32 = ws.length - 1
  | [], h, _ => absurd rfl h
  | [w], _, hw => by
    have h0 := hw w (by simp)
    rw [Lib.join_one]
    exact ⟨rfl, List.count_eq_zero.2 h0⟩
  | w :: v :: ws, _, hw => by
    have h0 := hw w (by simp)
    obtain ⟨h1, h2⟩ := split_join (v :: ws) (by simp) (fun x hx => hw x (by simp [hx]))
    have hj : Lib.join (w :: v :: ws) [32] = w ++ 32 :: Lib.join (v :: ws) [32] := by
      rw [Lib.join_cons, Lib.join_cons]
      simp [Lib.joinTail]
    rw [hj]
    constructor
    · simp only [List.length_cons, Nat.add_sub_cancel] at h1 ⊢
      rw [Lib.splitK, ib_hit 32 w _ h0]
      have hn : (((w.length : Nat) : Int) == -1) = false := by
        rw [beq_eq_false_iff_ne]; omega
      rw [hn]
      simp only [Bool.false_eq_true, if_false, Int.toNat_natCast, Nat.add_zero, List.length_singleton]
      rw [List.take_left, show (w ++ 32 :: Lib.join (v :: ws) [32]).drop (w.length + 1) = Lib.join (v :: ws) [32] by simp, h1]
    · rw [List.count_append, List.count_cons, List.count_eq_zero.2 h0, h2]
      simp

theorem ba_ext {a b : ByteArray} (h : a.data.toList = b.data.toList) : a = b := by
  cases a; cases b; simp only [ByteArray.mk.injEq]
  exact Array.toList_inj.1 h
theorem ba_app (a b : ByteArray) : (a ++ b).data.toList = a.data.toList ++ b.data.toList := by simp
theorem joinB_list (l : List ByteArray) : (joinB l).data.toList = Lib.join (l.map (·.data.toList)) [32] := by simp [joinB]
theorem lineB_list (l : List ByteArray) : (lineB l).data.toList = Lib.join (l.map (·.data.toList)) [32] ++ [10] := by
  unfold lineB
  rw [ba_app, joinB_list]
theorem cut_line {ws : List ByteArray} (r : ByteArray) (h : ∀ w ∈ ws, (10 : UInt8) ∉ w.data.toList) (_hne : ws ≠ []) : cutF (lineB ws ++ r) = joinB ws ∧ cutR (lineB ws ++ r) = r ∧ cutB (lineB ws ++ r) = true := by
  have hj : (10 : UInt8) ∉ (joinB ws).data.toList := by
    rw [joinB_list]
    intro hm
    clear _hne
    induction ws with
    | nil => simp [Lib.join_nil] at hm
    | cons w ws ih =>
      rw [List.map_cons, Lib.join_cons] at hm
      simp only [Lib.joinTail, List.mem_append, List.mem_flatten, List.mem_map] at hm
      rcases hm with hm | ⟨l, ⟨v, ⟨b, hb, rfl⟩, rfl⟩, hm⟩
      · exact h w (by simp) hm
      · simp only [List.mem_append, List.mem_singleton] at hm
        rcases hm with hm | hm
        · simp at hm
        · exact h b (by simp [hb]) hm
  have he : (lineB ws ++ r).data.toList = (joinB ws).data.toList ++ 10 :: r.data.toList := by
    rw [ba_app, lineB_list, joinB_list]; simp
  have hc := cut_hit (joinB ws).data.toList r.data.toList hj
  rw [← he] at hc
  refine ⟨?_, ?_, ?_⟩
  · unfold cutF; rw [hc]
  · unfold cutR; rw [hc]
  · unfold cutB; rw [hc]
theorem line_of_cut {s : ByteArray} (h : cutB s = true) : s = lineB (wordsV (cutF s)) ++ cutR s := by
  apply ba_ext
  have h1 := cut_inv h
  have hw : (wordsV (cutF s)).map (·.data.toList) = Lib.splitK [32] 0 (Lib.countB (cutF s) ⟨#[32]⟩) (cutF s).data.toList := Lib.splitB_data _ _ _ _
  rw [ba_app, lineB_list, hw, join_split]
  have h2 : (cutF s).data.toList = (Lib.cut s.data.toList [10]).1 := by simp [cutF]
  have h3 : (cutR s).data.toList = (Lib.cut s.data.toList [10]).2.1 := by simp [cutR]
  rw [h2, h3]
  simpa using h1
theorem map_inj {l m : List ByteArray} (h : l.map (·.data.toList) = m.map (·.data.toList)) : l = m :=
  List.map_inj_right (fun _ _ e => ba_ext e) |>.1 h
theorem words_line {ws : List ByteArray} (hne : ws ≠ []) (h : ∀ w ∈ ws, (32 : UInt8) ∉ w.data.toList) : wordsV (joinB ws) = ws := by
  apply map_inj
  have hw : (wordsV (joinB ws)).map (·.data.toList) = Lib.splitK [32] 0 (Lib.countB (joinB ws) ⟨#[32]⟩) (joinB ws).data.toList := Lib.splitB_data _ _ _ _
  obtain ⟨h1, h2⟩ := split_join (ws.map (·.data.toList)) (by simpa using hne) (fun w hw => by
    obtain ⟨b, hb, rfl⟩ := List.mem_map.1 hw
    exact h b hb)
  have hc : Lib.countB (joinB ws) ⟨#[32]⟩ = (ws.map (·.data.toList)).length - 1 := by
    show Lib.count (joinB ws).data.toList [32] = _
    rw [Lib.count_one, joinB_list, h2]
  rw [hw, hc, joinB_list, h1]
end Go.Proofs.YtnpajncolkafgaaGreatDoor

namespace Go.Proofs.YtnpajncolkafgaaGreatDoor

theorem tl_inj {a b : ByteArray} (h : a.toList = b.toList) : a = b := by
  rw [ByteArray.toList_eq, ByteArray.toList_eq] at h
  exact ba_ext h
theorem numV_inv {s : ByteArray} {v : Int} (h : numV s = some v) : itoaB v = s := by
  unfold numV at h
  split at h
  · split at h
    · rename_i hq
      simp only [Option.some.injEq] at h
      subst h
      exact tl_inj (by simpa using hq)
    · cases h
  · cases h
theorem propsW_inv : ∀ (ws : List ByteArray) (l : List Pr), propsW ws = some l → ws = l.flatMap fun p => [p.nm, itoaB p.er]
  | [], l, h => by
    simp only [propsW, Option.some.injEq] at h
    subst h; rfl
  | [a], l, h => by simp [propsW] at h
  | a :: b :: r, l, h => by
    simp only [propsW] at h
    split at h
    · cases h
    · rename_i v hv
      rw [Option.map_eq_some_iff] at h
      obtain ⟨l', hl', rfl⟩ := h
      rw [propsW_inv r l' hl', ← numV_inv hv]
      simp
theorem spansW_inv : ∀ (ws : List ByteArray) (l : List (Int × Int)), spansW ws = some l → ws = l.flatMap fun r => [itoaB r.1, itoaB r.2]
  | [], l, h => by
    simp only [spansW, Option.some.injEq] at h
    subst h; rfl
  | [a], l, h => by simp [spansW] at h
  | a :: b :: r, l, h => by
    simp only [spansW] at h
    split at h
    · rename_i x y hx hy
      rw [Option.map_eq_some_iff] at h
      obtain ⟨l', hl', rfl⟩ := h
      rw [spansW_inv r l' hl', ← numV_inv hx, ← numV_inv hy]
      simp
    · cases h
theorem tstV_inv {s cr : ByteArray} {l : List Pr} {ws : List ByteArray} (h : tstV s = some (l, cr, ws)) : s = lineB (propW l) ++ cr := by
  unfold tstV at h
  split at h
  · rename_i hc
    have hl := line_of_cut hc
    generalize wordsV (cutF s) = wv at *
    cases wv with
    | nil => cases h
    | cons a r =>
      simp only [tstW] at h
      split at h
      · rename_i hq
        rw [Option.map_eq_some_iff] at h
        obtain ⟨l', hl', he⟩ := h
        simp only [Prod.mk.injEq] at he
        obtain ⟨rfl, rfl, rfl⟩ := he
        have ha : a = testsW := tl_inj (by simpa using hq)
        refine hl.trans ?_
        rw [propsW_inv r _ hl', ha]
        rfl
      · cases h
  · cases h
theorem purV_inv {s cr : ByteArray} {pu : Int} {ws : List ByteArray} (h : purV s = some (pu, cr, ws)) : s = lineB [⟨#[112, 117, 114, 101]⟩, itoaB pu] ++ cr := by
  unfold purV at h
  split at h
  · rename_i hc
    have hl := line_of_cut hc
    generalize wordsV (cutF s) = wv at *
    unfold purW at h
    split at h
    · rename_i a b
      split at h
      · rename_i hq
        rw [Option.map_eq_some_iff] at h
        obtain ⟨v, hv, he⟩ := h
        simp only [Prod.mk.injEq] at he
        obtain ⟨rfl, rfl, rfl⟩ := he
        have ha : a = pureW := tl_inj (by simpa using hq)
        rw [numV_inv hv]
        rw [ha] at hl
        exact hl
      · cases h
    · cases h
  · cases h
theorem kndV_inv {s cr : ByteArray} {x : ByteArray × List (Int × Int)} {ws : List ByteArray} (h : kndV s = some (x, cr, ws)) : s = lineB (kindW x.1 x.2) ++ cr := by
  unfold kndV at h
  split at h
  · rename_i hc
    have hl := line_of_cut hc
    generalize wordsV (cutF s) = wv at *
    cases wv with
    | nil => cases h
    | cons a r =>
      simp only [kndW] at h
      rw [Option.map_eq_some_iff] at h
      obtain ⟨l', hl', he⟩ := h
      simp only [Prod.mk.injEq] at he
      obtain ⟨rfl, rfl, rfl⟩ := he
      refine hl.trans ?_
      rw [spansW_inv r _ hl']
      rfl
  · cases h
/-- The lines of kinds. -/
def catK : List (ByteArray × List (Int × Int)) → ByteArray
  | [] => ⟨#[]⟩
  | k :: l => lineB (kindW k.1 k.2) ++ catK l
theorem kindsV_inv : ∀ (f : Nat) (s : ByteArray) (kl : List (ByteArray × List (Int × Int))), s.size < f → kindsV f s = some kl → s = catK kl
  | 0, s, kl, hf, _ => by omega
  | f + 1, s, kl, hf, h => by
    simp only [kindsV] at h
    split at h
    · rename_i hq
      simp only [Option.some.injEq] at h
      subst h
      exact tl_inj (show s.toList = ByteArray.toList ⟨#[]⟩ from by simpa using hq)
    · cases hkn : kndV s with
      | none => rw [hkn] at h; cases h
      | some y =>
        obtain ⟨x, r, ws⟩ := y
        rw [hkn] at h
        simp only [Option.map_eq_some_iff] at h
        obtain ⟨l', hl', rfl⟩ := h
        obtain ⟨_, _, hlt⟩ := kndV_some hkn
        have hi := kndV_inv hkn
        rw [kindsV_inv f r l' (by omega) hl'] at hi
        exact hi
theorem app_assoc (a b c : ByteArray) : a ++ b ++ c = a ++ (b ++ c) := ba_ext (by simp)
theorem app_nil (a : ByteArray) : a ++ ⟨#[]⟩ = a := ba_ext (by simp)
theorem fold_cat (ks : List Kd) : ∀ s : ByteArray, ks.foldl (fun s k => s ++ lineB (kindW k.nm k.rs)) s = s ++ catK (ks.map fun k => (k.nm, k.rs)) := by
  induction ks with
  | nil => intro s; exact (app_nil s).symm
  | cons k ks ih =>
    intro s
    rw [List.foldl_cons, ih, List.map_cons, catK, app_assoc]
theorem textV_eq (t : Tab) : textV t = lineB (propW t.ps) ++ (lineB [⟨#[112, 117, 114, 101]⟩, itoaB t.pu] ++ catK (t.ks.map fun k => (k.nm, k.rs))) := by
  unfold textV textK headV
  rw [fold_cat, app_assoc]
theorem rtV_inv {s : ByteArray} {x : List Pr × Int × List (ByteArray × List (Int × Int))} (h : rtV s = some x) : s = lineB (propW x.1) ++ (lineB [⟨#[112, 117, 114, 101]⟩, itoaB x.2.1] ++ catK x.2.2) := by
  unfold rtV at h
  cases h1 : tstV s with
  | none => rw [h1] at h; cases h
  | some y =>
    obtain ⟨l, cr, ws⟩ := y
    rw [h1] at h
    simp only at h
    cases h2 : purV cr with
    | none => rw [h2] at h; cases h
    | some z =>
      obtain ⟨pu, cr2, ws2⟩ := z
      rw [h2] at h
      simp only [Option.map_eq_some_iff] at h
      obtain ⟨kl, hkl, rfl⟩ := h
      have e1 := tstV_inv h1
      have e2 := purV_inv h2
      have e3 := kindsV_inv _ _ _ (Nat.lt_succ_self _) hkl
      rw [← e3, ← e2]
      exact e1
/-- Write of what Read returns is the text. -/
theorem read_write {s : ByteArray} {l : List Pr} {pu : Int} {ks : List Kd} (h : readV s = (some (l, pu, ks.map fun k => (k.nm, k.rs)), 0)) : writeV ⟨l, ks, pu⟩ = (s, 0) := by
  unfold readV at h
  split at h
  · cases h
  · split at h
    · cases h
    · rename_i x hx
      split at h
      · rename_i hc
        simp only [Prod.mk.injEq, Option.some.injEq, and_true] at h
        subst h
        rw [checkT_plain] at hc
        unfold writeV
        rw [if_neg (by rw [hc]; simp), textV_eq]
        exact Prod.ext (rtV_inv hx).symm rfl
      · cases h
end Go.Proofs.YtnpajncolkafgaaGreatDoor

namespace Go.Proofs.YtnpajncolkafgaaGreatDoor

theorem dd_digits (u : Nat) : ∀ c ∈ Lib.decDigits u, 48 ≤ c.toNat ∧ c.toNat ≤ 57 := by
  induction u using Nat.strongRecOn with
  | _ u ih =>
    intro c hc
    rw [Lib.decDigits] at hc
    split at hc
    · rename_i h
      simp only [List.mem_singleton] at hc
      subst hc
      rw [UInt8.toNat_ofNat_of_lt' (by show 48 + u < 256; omega)]
      omega
    · rename_i h
      rw [List.mem_append] at hc
      rcases hc with hc | hc
      · exact ih (u / 10) (by omega) c hc
      · simp only [List.mem_singleton] at hc
        subst hc
        rw [UInt8.toNat_ofNat_of_lt' (by show 48 + u % 10 < 256; omega)]
        omega
theorem parse_snoc (c : UInt8) : ∀ (l : List UInt8) (acc v : Nat), Lib.parseUint10 acc l = .ok v → Lib.parseUint10 acc (l ++ [c]) = Lib.parseUint10 v [c]
  | [], acc, v, h => by
    simp only [Lib.parseUint10, Lib.NumEnd.ok.injEq] at h
    subst h; rfl
  | x :: l, acc, v, h => by
    rw [List.cons_append]
    rw [Lib.parseUint10] at h ⊢
    split at h
    · rename_i h1
      split at h
      · cases h
      · rename_i h2
        split at h
        · cases h
        · rename_i h3
          rw [if_pos h1, if_neg h2, if_neg h3]
          exact parse_snoc c l _ v h
    · cases h
theorem dd_parse (u : Nat) : u < 1000000000000000000 → Lib.parseUint10 0 (Lib.decDigits u) = .ok u := by
  induction u using Nat.strongRecOn with
  | _ u ih =>
    intro hu
    rw [Lib.decDigits]
    split
    · rename_i h
      have hc : (UInt8.ofNat (48 + u)).toNat = 48 + u := UInt8.toNat_ofNat_of_lt' (by show 48 + u < 256; omega)
      rw [Lib.parseUint10, hc, if_pos (by omega), if_neg (by omega), if_neg (by omega), Lib.parseUint10]
      congr 1
      omega
    · rename_i h
      have hc : (UInt8.ofNat (48 + u % 10)).toNat = 48 + u % 10 := UInt8.toNat_ofNat_of_lt' (by show 48 + u % 10 < 256; omega)
      rw [parse_snoc _ _ _ _ (ih (u / 10) (by omega) (by omega)), Lib.parseUint10, hc, if_pos (by omega), if_neg (by omega), if_neg (by omega), Lib.parseUint10]
      congr 1
      omega
theorem dd_len : ∀ (k u : Nat), u < 10 ^ (k + 1) → (Lib.decDigits u).length ≤ k + 1
  | 0, u, h => by
    rw [Lib.decDigits, dif_pos (by simpa using h)]
    simp
  | k + 1, u, h => by
    rw [Lib.decDigits]
    split
    · simp
    · have := dd_len k (u / 10) (by rw [Nat.pow_succ] at h; omega)
      simp only [List.length_append, List.length_singleton]
      omega
theorem dd_ne (u : Nat) : Lib.decDigits u ≠ [] := by
  rw [Lib.decDigits]
  split <;> simp
theorem itoaB_list {n : Int} (h : 0 ≤ n) : (itoaB n).data.toList = Lib.decDigits n.toNat := by
  unfold itoaB Lib.itoa
  rw [if_neg (by omega)]
theorem numV_itoa {n : Int} (h : 0 ≤ n) (h2 : n ≤ 1000000) : numV (itoaB n) = some n := by
  have hl := itoaB_list h
  have ha : Lib.atoiAll (itoaB n).data.toList = .ok n := by
    rw [hl]
    cases hd : Lib.decDigits n.toNat with
    | nil => exact absurd hd (dd_ne _)
    | cons c r =>
      have hc := dd_digits n.toNat c (by rw [hd]; simp)
      unfold Lib.atoiAll
      simp only
      rw [if_neg (by omega)]
      have hp := dd_parse n.toNat (by omega)
      rw [hd] at hp
      unfold Lib.parseMag
      rw [if_neg (by simp), hp]
      simp only
      rw [if_neg (by omega), if_neg (by omega), if_neg (by omega)]
      congr 1
      omega
  unfold numV
  rw [ha]
  simp
theorem itoaB_no {n : Int} (h : 0 ≤ n) (c : UInt8) (hc : c.toNat < 48) : c ∉ (itoaB n).data.toList := by
  rw [itoaB_list h]
  intro hm
  have := dd_digits _ c hm
  omega
theorem itoaB_len {n : Int} (h : 0 ≤ n) (h2 : n ≤ 100000) : (itoaB n).data.toList.length ≤ 6 := by
  rw [itoaB_list h]
  exact dd_len 5 _ (by omega)
theorem rest_chars : ∀ (l : List UInt8) (b : Nat), nameRest b l = true → ∀ c ∈ l, c.toNat = 45 ∨ (97 ≤ c.toNat ∧ c.toNat ≤ 122)
  | [], _, _, c, hc => by simp at hc
  | x :: l, b, h, c, hc => by
    unfold nameRest at h
    rcases List.mem_cons.1 hc with rfl | hc
    · split at h
      · rename_i h1; exact .inr h1
      · split at h
        · rename_i h1; exact .inl h1.1
        · cases h
    · split at h
      · exact rest_chars l _ h c hc
      · split at h
        · exact rest_chars l _ h c hc
        · cases h
theorem name_no {s : ByteArray} (h : nameB s = true) (c : UInt8) (hc : c.toNat < 45) : c ∉ s.data.toList := by
  unfold nameB at h
  rw [Bool.and_eq_true] at h
  intro hm
  rcases rest_chars _ _ h.2 c hm with h1 | h1 <;> omega
theorem name_len {s : ByteArray} (h : nameB s = true) : s.data.toList.length ≤ 20 := by
  unfold nameB at h
  rw [Bool.and_eq_true, decide_eq_true_eq] at h
  have : s.data.toList.length = s.size := by simp
  omega
theorem propsW_all (l : List Pr) (h : ∀ p ∈ l, 0 ≤ p.er ∧ p.er ≤ 1000000) : propsW (l.flatMap fun p => [p.nm, itoaB p.er]) = some l := by
  induction l with
  | nil => rfl
  | cons p l ih =>
    have h0 := h p (by simp)
    simp only [List.flatMap_cons, List.cons_append, List.nil_append, propsW]
    rw [numV_itoa h0.1 h0.2, ih (fun q hq => h q (by simp [hq]))]
    rfl
theorem spansW_all (l : List (Int × Int)) (h : ∀ r ∈ l, (0 ≤ r.1 ∧ r.1 ≤ 1000000) ∧ (0 ≤ r.2 ∧ r.2 ≤ 1000000)) : spansW (l.flatMap fun r => [itoaB r.1, itoaB r.2]) = some l := by
  induction l with
  | nil => rfl
  | cons p l ih =>
    have h0 := h p (by simp)
    simp only [List.flatMap_cons, List.cons_append, List.nil_append, spansW]
    rw [numV_itoa h0.1.1 h0.1.2, numV_itoa h0.2.1 h0.2.2, ih (fun q hq => h q (by simp [hq]))]
    rfl
/-- A line is read as its words. -/
theorem line_read {ws : List ByteArray} (r : ByteArray) (hne : ws ≠ []) (h : ∀ w ∈ ws, (10 : UInt8) ∉ w.data.toList ∧ (32 : UInt8) ∉ w.data.toList) : cutB (lineB ws ++ r) = true ∧ wordsV (cutF (lineB ws ++ r)) = ws ∧ cutR (lineB ws ++ r) = r := by
  obtain ⟨h1, h2, h3⟩ := cut_line r (fun w hw => (h w hw).1) hne
  exact ⟨h3, by rw [h1]; exact words_line hne (fun w hw => (h w hw).2), h2⟩
theorem propW_words {t : Tab} (hv : Valid t) : ∀ w ∈ propW t.ps, (10 : UInt8) ∉ w.data.toList ∧ (32 : UInt8) ∉ w.data.toList := by
  intro w hw
  rcases List.mem_cons.1 hw with rfl | hw
  · exact ⟨by decide, by decide⟩
  · obtain ⟨p, hp, hw⟩ := List.mem_flatMap.1 hw
    simp only [List.mem_cons, List.not_mem_nil, or_false] at hw
    rcases hw with rfl | rfl
    · exact ⟨name_no (hv.pn p hp) _ (by decide), name_no (hv.pn p hp) _ (by decide)⟩
    · exact ⟨itoaB_no (hv.er p hp).1 _ (by decide), itoaB_no (hv.er p hp).1 _ (by decide)⟩
theorem kindW_words {t : Tab} (hv : Valid t) (k : Kd) (hk : k ∈ t.ks) : ∀ w ∈ kindW k.nm k.rs, (10 : UInt8) ∉ w.data.toList ∧ (32 : UInt8) ∉ w.data.toList := by
  intro w hw
  rcases List.mem_cons.1 hw with rfl | hw
  · exact ⟨name_no (hv.kn k hk) _ (by decide), name_no (hv.kn k hk) _ (by decide)⟩
  · obtain ⟨r, hr, hw⟩ := List.mem_flatMap.1 hw
    have hb := hv.rs k hk r hr
    simp only [List.mem_cons, List.not_mem_nil, or_false] at hw
    rcases hw with rfl | rfl
    · exact ⟨itoaB_no hb.1 _ (by decide), itoaB_no hb.1 _ (by decide)⟩
    · exact ⟨itoaB_no (by omega) _ (by decide), itoaB_no (by omega) _ (by decide)⟩
theorem tst_read {t : Tab} (hv : Valid t) (r : ByteArray) : tstV (lineB (propW t.ps) ++ r) = some (t.ps, r, []) := by
  obtain ⟨h1, h2, h3⟩ := line_read r (by simp [propW]) (propW_words hv)
  unfold tstV
  rw [if_pos h1, h2, h3]
  show tstW r (testsW :: _) = _
  rw [tstW, if_pos (by simp), propsW_all _ (fun p hp => by have := hv.er p hp; omega)]
  rfl
theorem pur_read {t : Tab} (hv : Valid t) (r : ByteArray) : purV (lineB [⟨#[112, 117, 114, 101]⟩, itoaB t.pu] ++ r) = some (t.pu, r, []) := by
  have hp := hv.pu
  obtain ⟨h1, h2, h3⟩ := line_read (ws := [⟨#[112, 117, 114, 101]⟩, itoaB t.pu]) r (by simp) (fun w hw => by
    simp only [List.mem_cons, List.not_mem_nil, or_false] at hw
    rcases hw with rfl | rfl
    · exact ⟨by decide, by decide⟩
    · exact ⟨itoaB_no (by omega) _ (by decide), itoaB_no (by omega) _ (by decide)⟩)
  unfold purV
  rw [if_pos h1, h2, h3]
  show purW r [pureW, itoaB t.pu] = _
  rw [purW, if_pos (by simp), numV_itoa (by omega) (by omega)]
  rfl
theorem knd_read {t : Tab} (hv : Valid t) (k : Kd) (hk : k ∈ t.ks) (r : ByteArray) : kndV (lineB (kindW k.nm k.rs) ++ r) = some ((k.nm, k.rs), r, []) := by
  obtain ⟨h1, h2, h3⟩ := line_read r (by simp [kindW]) (kindW_words hv k hk)
  unfold kndV
  rw [if_pos h1, h2, h3]
  show kndW r (k.nm :: _) = _
  rw [kndW, spansW_all _ (fun x hx => by have := hv.rs k hk x hx; omega)]
  rfl
theorem line_size (ws : List ByteArray) : 0 < (lineB ws).size := by
  have : (lineB ws).data.toList.length = (lineB ws).size := by simp
  rw [← this, lineB_list]
  simp
theorem kinds_read {t : Tab} (hv : Valid t) : ∀ (ks : List Kd), (∀ k ∈ ks, k ∈ t.ks) → ∀ f, (catK (ks.map fun k => (k.nm, k.rs))).size < f → kindsV f (catK (ks.map fun k => (k.nm, k.rs))) = some (ks.map fun k => (k.nm, k.rs))
  | [], _, f, hf => kindsV_end (by simp [catK])
  | k :: ks, h, f, hf => by
    simp only [List.map_cons, catK] at hf ⊢
    have hz := line_size (kindW k.nm k.rs)
    rw [ByteArray.size_append] at hf
    obtain ⟨g, rfl⟩ : ∃ g, f = g + 1 := ⟨f - 1, by omega⟩
    have hne : ((lineB (kindW k.nm k.rs) ++ catK (ks.map fun k => (k.nm, k.rs))).toList == ByteArray.toList ⟨#[]⟩) = false := by
      rw [beq_eq_false_iff_ne]
      intro e
      have e2 := congrArg ByteArray.size (tl_inj e)
      rw [ByteArray.size_append] at e2
      have e3 : ByteArray.size ⟨#[]⟩ = 0 := rfl
      omega
    rw [kindsV_step hne (knd_read hv k (h k (by simp)) _), kinds_read hv ks (fun x hx => h x (by simp [hx])) g (by omega)]
    rfl
theorem rt_read {t : Tab} (hv : Valid t) : rtV (textV t) = some (t.ps, t.pu, t.ks.map fun k => (k.nm, k.rs)) := by
  rw [textV_eq]
  unfold rtV
  rw [tst_read hv]
  simp only
  rw [pur_read hv]
  simp only
  rw [kinds_read hv t.ks (fun k hk => hk) _ (Nat.lt_succ_self _)]
  rfl
theorem lens_cons (x : List UInt8) (r : List (List UInt8)) : Lib.lens (x :: r) = x.length + Lib.lens r := by simp [Lib.lens]
theorem lens_nil : Lib.lens [] = 0 := rfl
theorem lens_two {α : Type} (f g : α → ByteArray) (K : Nat) : ∀ l : List α, (∀ x ∈ l, (f x).data.toList.length + (g x).data.toList.length ≤ K) → Lib.lens ((l.flatMap fun x => [f x, g x]).map (·.data.toList)) ≤ K * l.length
  | [], _ => by simp [lens_nil]
  | x :: l, h => by
    have h0 := h x (by simp)
    have h1 := lens_two f g K l (fun y hy => h y (by simp [hy]))
    simp only [List.flatMap_cons, List.cons_append, List.nil_append, List.map_cons, lens_cons, List.length_cons] at h1 ⊢
    rw [Nat.mul_add]
    omega
theorem text_size {t : Tab} (hv : Valid t) : (textV t).size ≤ 2000 := by
  have hp := hv.np
  have hk := hv.nk
  have e1 : (lineB (propW t.ps)).size ≤ 200 := by
    have hs : (lineB (propW t.ps)).data.toList.length = (lineB (propW t.ps)).size := by simp
    rw [← hs, lineB_list, propW, List.map_cons, List.length_append, Lib.join_length, List.length_map]
    have hl := lens_two (fun p : Pr => p.nm) (fun p => itoaB p.er) 26 t.ps (fun p hp => by
      have a := name_len (hv.pn p hp)
      have b := itoaB_len (hv.er p hp).1 (by have := (hv.er p hp).2; omega)
      omega)
    have hc := propW_len t.ps
    simp only [propW, List.length_cons] at hc
    simp only [lens_cons, List.length_singleton]
    have : 26 * t.ps.length ≤ 130 := by omega
    simp only [List.length_cons, List.length_nil] at hl hc ⊢
    omega
  have e2 : (lineB [⟨#[112, 117, 114, 101]⟩, itoaB t.pu]).size ≤ 20 := by
    have hs : (lineB [⟨#[112, 117, 114, 101]⟩, itoaB t.pu]).data.toList.length = (lineB [⟨#[112, 117, 114, 101]⟩, itoaB t.pu]).size := by simp
    rw [← hs, lineB_list, List.map_cons, List.length_append, Lib.join_length]
    have b := itoaB_len (n := t.pu) (by have := hv.pu; omega) (by have := hv.pu; omega)
    have h4 : (ByteArray.data ⟨#[112, 117, 114, 101]⟩).toList.length = 4 := rfl
    simp only [lens_cons, lens_nil, List.length_cons, List.length_nil, List.map_cons, List.map_nil]
    omega
  have e3 : ∀ ks : List Kd, (∀ k ∈ ks, k ∈ t.ks) → (catK (ks.map fun k => (k.nm, k.rs))).size ≤ 100 * ks.length := by
    intro ks
    induction ks with
    | nil => intro _; exact Nat.le_refl 0
    | cons k ks ih =>
      intro h
      have hi := ih (fun x hx => h x (by simp [hx]))
      have hkm := h k (by simp)
      have hrl := hv.rl k hkm
      have hs : (lineB (kindW k.nm k.rs)).data.toList.length = (lineB (kindW k.nm k.rs)).size := by simp
      have hl := lens_two (fun r : Int × Int => itoaB r.1) (fun r => itoaB r.2) 12 k.rs (fun r hr => by
        have hb := hv.rs k hkm r hr
        have a := itoaB_len (n := r.1) (by omega) (by omega)
        have b := itoaB_len (n := r.2) (by omega) (by omega)
        omega)
      have hn := name_len (hv.kn k hkm)
      have hc : (k.rs.flatMap fun r => [itoaB r.1, itoaB r.2]).length = 2 * k.rs.length := by
        have : ∀ l : List (Int × Int), (l.flatMap fun r => [itoaB r.1, itoaB r.2]).length = 2 * l.length := by
          intro l
          induction l with
          | nil => rfl
          | cons x r ih => rw [List.flatMap_cons, List.length_append, ih, List.length_cons]; simp; omega
        exact this _
      have hz : (lineB (kindW k.nm k.rs)).size ≤ 100 := by
        rw [← hs, lineB_list, kindW, List.map_cons, List.length_append, Lib.join_length, List.length_map]
        simp only [lens_cons, List.length_singleton]
        have : 12 * k.rs.length ≤ 60 := by omega
        omega
      simp only [List.map_cons, catK, List.length_cons]
      rw [ByteArray.size_append]
      omega
  have e4 := e3 t.ks (fun k hk => hk)
  rw [textV_eq, ByteArray.size_append, ByteArray.size_append]
  have : 100 * t.ks.length ≤ 800 := by omega
  omega
/-- Read of what Write returns is the table. -/
theorem write_read {t : Tab} (hc : (checkT t).2.2 = 0) : readV (textV t) = (some (t.ps, t.pu, t.ks.map fun k => (k.nm, k.rs)), 0) ∧ (textV t).size ≤ 2000 := by
  have hv := valid_of hc
  have hs := text_size hv
  refine ⟨?_, hs⟩
  unfold readV
  rw [if_neg (by omega), rt_read hv]
  simp only
  rw [checkT_plain, if_pos hc]
end Go.Proofs.YtnpajncolkafgaaGreatDoor
