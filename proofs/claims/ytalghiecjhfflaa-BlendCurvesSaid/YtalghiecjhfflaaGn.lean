/- Layer blend, a part: recipes that fit. No statement is proved here. -/
import Derived.Test.YtalghiecjhfflaaGb
import Derived.Test.YtalghiecjhfflaaGm
import Derived.RangeFuncNested
import Derived.RangeFuncBound
import Derived.RangeFuncCalls
import Derived.RangeFuncLeaves
import Derived.RangeFuncWrites
import Derived.OwnWalkIn
import Derived.TacticsInMore
import Derived.LoopNIn
import Derived.LoopIn
import Derived.Maps.OwnIn
import Derived.Stop.RegionWithIn
import Derived.Lib.MinMax
import Derived.Sort.CutIn
import Derived.Deep.OwnRows
import Derived.Laws.EntriesVeiled
namespace Go.Proofs.Ytalghiecjhfflaa
open Go.RowKit Go.Shelf Go.Maps
attribute [local go_sem] Oper.semAt_some


/-- The recipes that begin with less than n parts of the first wax. -/
def recF (l : List (Int × Int)) (s : Int × Int) (m n : Nat) : List (List Int) := (List.range n).flatMap fun i : Nat => if s.1 ≤ (i : Int) ∧ (i : Int) ≤ s.2 then (recN l (m - i)).map fun r => (i : Int) :: r else []
theorem recN_cons (s : Int × Int) (l : List (Int × Int)) (m : Nat) : recN (s :: l) m = recF l s m (m + 1) := rfl
theorem recF_in {l : List (Int × Int)} {s : Int × Int} {m n : Nat} (h1 : s.1 ≤ (n : Int)) (h2 : (n : Int) ≤ s.2) : recF l s m (n + 1) = recF l s m n ++ (recN l (m - n)).map fun r => (n : Int) :: r := by
  unfold recF
  rw [List.range_succ, List.flatMap_append]
  simp [h1, h2]
theorem recF_out {l : List (Int × Int)} {s : Int × Int} {m n : Nat} (h : ¬ (s.1 ≤ (n : Int) ∧ (n : Int) ≤ s.2)) : recF l s m (n + 1) = recF l s m n := by
  unfold recF
  rw [List.range_succ, List.flatMap_append]
  simp [h]
theorem recF_lo {l : List (Int × Int)} {s : Int × Int} {m : Nat} : ∀ {n : Nat}, (n : Int) ≤ s.1 → recF l s m n = []
  | 0, _ => rfl
  | n + 1, h => by rw [recF_out (by omega), recF_lo (n := n) (by omega)]
theorem recF_hi {l : List (Int × Int)} {s : Int × Int} {m n : Nat} (h : s.2 < (n : Int)) : ∀ k : Nat, recF l s m (n + k) = recF l s m n
  | 0 => rfl
  | k + 1 => by rw [← Nat.add_assoc, recF_out (by omega), recF_hi h k]
theorem recF_end {l : List (Int × Int)} {s : Int × Int} {m n : Nat} (h1 : n ≤ m + 1 ∨ (n : Int) = s.1) (h2 : ¬ ((n : Int) ≤ min s.2 (m : Int))) : recF l s m n = recF l s m (m + 1) := by
  by_cases h3 : n ≤ m + 1
  · by_cases h4 : n = m + 1
    · rw [h4]
    · have h5 : s.2 < (n : Int) := by omega
      have := recF_hi (l := l) (m := m) h5 (m + 1 - n)
      rw [show n + (m + 1 - n) = m + 1 by omega] at this
      exact this.symm
  · rcases h1 with h1 | h1
    · exact absurd h1 h3
    · rw [recF_lo (n := n) (by omega), recF_lo (n := m + 1) (by omega)]
theorem recF_map (p : List Int) (n : Int) (L : List (List Int)) : (L.map fun r => n :: r).map (fun r => p ++ r) = L.map (fun r => (p ++ [n]) ++ r) := by
  rw [List.map_map]
  refine List.map_congr_left fun r _ => ?_
  simp
theorem recF_mem {l : List (Int × Int)} {s : Int × Int} {m n : Nat} (h1 : s.1 ≤ (n : Int)) (h2 : (n : Int) ≤ s.2) (h3 : n ≤ m) {r : List Int} (hr : r ∈ recN l (m - n)) : (n : Int) :: r ∈ recN (s :: l) m := by
  rw [recN_cons]
  unfold recF
  refine List.mem_flatMap.2 ⟨n, List.mem_range.2 (by omega), ?_⟩
  rw [if_pos ⟨h1, h2⟩]
  exact List.mem_map.2 ⟨r, hr, rfl⟩
/-- A recipe that is handed over: where it lies. -/
abbrev Rq := List Int × Nat × Nat
abbrev rqV (x : Rq) : Value := .slice (some ⟨x.2.1, 0, none⟩) x.1.length x.2.2
def MR (rs : List (Int × Int)) (T : Nat) (x : Rq) (X : World) : Prop := x.1 ∈ recN rs 20 ∧ IntsOut T X (rqV x) x.1
/-- What surrounds the closure: p is what has been laid of a recipe. -/
structure Fil (wB : World) (B Eb ly : Nat) (pa : Option Addr) (pc : Nat) (rs : List (Int × Int)) (p : List Int) (X : World) : Prop where
  yb : Blk X B 147 #[.func (.yield ly) #[] #[]]
  rb : Blk X (B + 2) 31 #[.slice (some ⟨B + 1, 0, none⟩) rs.length rs.length]
  fb : Blk X (B + 3) 148 #[.func (.func 103) #[] #[.pointer (some ⟨B + 2, 0, none⟩), .pointer (some ⟨B, 0, none⟩), .pointer (some ⟨Eb, 0, none⟩), .pointer (some ⟨B + 3, 0, none⟩)]]
  sb : Blk X Eb 44 #[.slice pa rs.length pc]
  ar : ∃ c : List Int, c.length = rs.length ∧ c.take p.length = p ∧ Blk X (B + 1) 3 (c.map (Value.int .i64)).toArray
  b : Below wB.heap.size wB X
theorem Fil.keep {wB X Y : World} {B Eb ly : Nat} {pa : Option Addr} {pc : Nat} {rs : List (Int × Int)} {p : List Int} (h : Fil wB B Eb ly pa pc rs p X) (hk : Keep wB.heap.size (fun k => k = Eb) B 4 X Y) : Fil wB B Eb ly pa pc rs p Y := by
  obtain ⟨c, h1, h2, h3⟩ := h.ar
  exact ⟨(hk.kept _ h.yb.lt (.inr (by omega))).trans h.yb, (hk.kept _ h.rb.lt (.inr (by omega))).trans h.rb, (hk.kept _ h.fb.lt (.inr (by omega))).trans h.fb, (hk.kept _ h.sb.lt (.inl rfl)).trans h.sb, ⟨c, h1, h2, (hk.kept _ h3.lt (.inr (by omega))).trans h3⟩, h.b.trans hk.below⟩
theorem Fil.on {wB X Y : World} {B Eb ly : Nat} {pa : Option Addr} {pc : Nat} {rs : List (Int × Int)} {p : List Int} (h : Fil wB B Eb ly pa pc rs p X) (hk : Below X.heap.size X Y) : Fil wB B Eb ly pa pc rs p Y := h.keep (Keep.of_below hk h.b.size)
theorem Fil.init {wB X : World} {B Eb ly : Nat} {pa : Option Addr} {pc : Nat} {rs : List (Int × Int)} {p : List Int} {v : Int} (h : Fil wB B Eb ly pa pc rs (p ++ [v]) X) : Fil wB B Eb ly pa pc rs p X := by
  obtain ⟨c, h1, h2, h3⟩ := h.ar
  refine ⟨h.yb, h.rb, h.fb, h.sb, ⟨c, h1, ?_, h3⟩, h.b⟩
  have h4 := congrArg (List.take p.length) h2
  rw [List.take_take, List.length_append, Nat.min_eq_left (by omega)] at h4
  rw [h4, List.take_append_of_le_length (Nat.le_refl _), List.take_length]
theorem Fil.set {wB X : World} {B Eb ly : Nat} {pa : Option Addr} {pc : Nat} {rs : List (Int × Int)} {p : List Int} (h : Fil wB B Eb ly pa pc rs p X) (hp : p.length < rs.length) (hB : wB.heap.size ≤ B) (hE : Eb < B) (v : Int) : Fil wB B Eb ly pa pc rs (p ++ [v]) (X.setCell ⟨B + 1, p.length, none⟩ (.int .i64 v)) := by
  obtain ⟨c, h1, h2, h3⟩ := h.ar
  refine ⟨h.yb.far (by simp) _, h.rb.far (by simp) _, h.fb.far (by simp) _, h.sb.far (by show Eb ≠ B + 1; omega) _, ⟨c.set p.length v, by simpa using h1, ?_, ?_⟩, h.b.setCell (by show wB.heap.size ≤ B + 1; omega) _⟩
  · rw [List.length_append, List.length_singleton, List.take_set, List.take_add_one, h2, List.getElem?_eq_getElem (by omega)]
    simp
  · have h4 := h3.set_ p.length (.int .i64 v)
    simpa [List.map_set] using h4
theorem Fil.cell {wB X : World} {B Eb ly : Nat} {pa : Option Addr} {pc : Nat} {rs : List (Int × Int)} {p : List Int} (h : Fil wB B Eb ly pa pc rs p X) (hp : p.length < rs.length) : ∃ u, X.cell? ⟨B + 1, p.length, none⟩ = some (.int .i64 u) ∧ X.frozen? ⟨B + 1, p.length, none⟩ = false := by
  obtain ⟨c, h1, h2, h3⟩ := h.ar
  refine ⟨c[p.length]'(by omega), ?_, h3.frozen _⟩
  have := h3.cell p.length
  rw [this]; simp [h1, hp]
/-- A whole recipe lies in the array. -/
theorem Fil.whole {wB X : World} {B Eb ly : Nat} {pa : Option Addr} {pc : Nat} {rs : List (Int × Int)} {p : List Int} (h : Fil wB B Eb ly pa pc rs p X) (hp : p.length = rs.length) (h5 : rs.length ≤ 1000) : IntsIn X (some ⟨B + 1, 0, none⟩) p := by
  obtain ⟨c, h1, h2, h3⟩ := h.ar
  rw [hp, ← h1, List.take_length] at h2
  subst h2
  exact ints_blk h3 rfl (by omega)
/-- How a call of the closure ends. -/
def FilPost (wB : World) (B Eb ly : Nat) (pa : Option Addr) (pc : Nat) (rs : List (Int × Int)) (J Jx : List Rq → World → Prop) (p : List Int) (left : Nat) (pre : List Rq) (e : Ending) (Y : World) : Prop :=
  (∃ ys : List Rq, e = .returned (.bool true) ∧ ys.map (·.1) = (recN (rs.drop p.length) left).map (fun r => p ++ r) ∧ J (pre ++ ys) Y ∧ Fil wB B Eb ly pa pc rs p Y) ∨ (∃ pre', e = .returned (.bool false) ∧ Jx pre' Y)
end Go.Proofs.Ytalghiecjhfflaa

namespace Go.Proofs.Ytalghiecjhfflaa
open Go.RowKit Go.Shelf Go.Maps
attribute [local go_sem] Oper.semAt_some


set_option maxRecDepth 100000 in
set_option maxHeartbeats 4000000 in
theorem fill_more {wB : World} {pa : Option Addr} {pc B Eb ly : Nat} {rs : List (Int × Int)} {J Jx : List Rq → World → Prop} {p : List Int} {left : Nat} {pre : List Rq} {X : World} (hp : p.length = rs.length) (hl : 0 < left) (hF : Fil wB B Eb ly pa pc rs p X) (h0 : J pre X) (hJ : ∀ s X Y, J s X → Outside B 4 X Y → J s Y) :
    Calls Try.prog 103 #[.int .i64 (p.length : Int), .int .i64 (left : Int), .pointer (some ⟨B + 2, 0, none⟩), .pointer (some ⟨B, 0, none⟩), .pointer (some ⟨Eb, 0, none⟩), .pointer (some ⟨B + 3, 0, none⟩)] X (FilPost wB B Eb ly pa pc rs J Jx p left pre) := by
  have hl2 : decide (0 < (left : Int)) = true := decide_eq_true (by omega)
  have r0 := hF.rb.cell 0
  have HF := Lib.hid hF
  have HJ0 := Lib.hid h0
  have HR := Lib.hid (show recN (rs.drop p.length) left = [] by
    rw [hp, List.drop_length]
    obtain ⟨m, rfl⟩ : ∃ m, left = m + 1 := ⟨left - 1, by omega⟩
    rfl)
  clear hF h0
  have hwf : ∀ f, Fence.wide.fn f = True := fun _ => rfl
  rw [hp]
  refine (callsIn_wide (n := 10)).1 ?_
  refine callsIn_of_wp Try.func103 rfl trivial ?_ rfl
  simp only [Try.ntmps103, List.size_toArray, List.length_cons, List.length_nil, Nat.reduceAdd, Nat.reduceSub, Array.replicate_succ, Array.replicate_zero, List.push_toArray, List.append_toArray, List.nil_append, List.cons_append]
  gi_wp2_with fail
  gi_region_with (fail)
  all_goals gi_wp2_with fail
  all_goals refine bodyPost_ret (v := .bool true) ?_ rfl (.inl ⟨[], rfl, ?_, ?_, ?_⟩)
  all_goals first
    | (simp [results, Try.results103, go_sem]; done)
    | (rw [HR.out]; rfl)
    | (rw [List.append_nil]; exact hJ _ _ _ HJ0.out (Outside.of_below (Below.refl _ _).drew))
    | exact HF.out.on (Below.refl _ _).drew
end Go.Proofs.Ytalghiecjhfflaa

namespace Go.Proofs.Ytalghiecjhfflaa
open Go.RowKit Go.Shelf Go.Maps
attribute [local go_sem] Oper.semAt_some


theorem yield_end {e : Ending} {A C : Prop} (h : (e = .returned (.bool true) ∧ A) ∨ (e = .returned (.bool false) ∧ C)) : ∃ z, e = .returned (.bool z) ∧ ((z = true ∧ A) ∨ (z = false ∧ C)) := by
  rcases h with ⟨rfl, h⟩ | ⟨rfl, h⟩
  · exact ⟨true, rfl, .inl ⟨rfl, h⟩⟩
  · exact ⟨false, rfl, .inr ⟨rfl, h⟩⟩
set_option maxRecDepth 100000 in
set_option maxHeartbeats 4000000 in
theorem fill_whole {wB : World} {pa : Option Addr} {pc B Eb ly : Nat} {rs : List (Int × Int)} {J Jx : List Rq → World → Prop} (h5 : 1 ≤ rs.length ∧ rs.length ≤ 5) (hJ : ∀ s X Y, J s X → Outside B 4 X Y → J s Y)
    (HY : Hid (∀ pre x X, J pre X → MR rs (B + 4) x X → B + 4 ≤ X.heap.size → YieldAt Fence.wide 0 Try.prog ly #[rqV x] X fun e Y => Keep wB.heap.size (fun k => k = Eb) B 4 X Y ∧ ((e = .returned (.bool true) ∧ J (pre ++ [x]) Y) ∨ (e = .returned (.bool false) ∧ Jx (pre ++ [x]) Y)))) {p : List Int} {pre : List Rq} {X : World} (hp : p.length = rs.length) (hm : p ∈ recN rs 20) (hF : Fil wB B Eb ly pa pc rs p X) (hB : B + 4 ≤ X.heap.size) (h0 : J pre X) :
    Calls Try.prog 103 #[.int .i64 (p.length : Int), .int .i64 ((0 : Nat) : Int), .pointer (some ⟨B + 2, 0, none⟩), .pointer (some ⟨B, 0, none⟩), .pointer (some ⟨Eb, 0, none⟩), .pointer (some ⟨B + 3, 0, none⟩)] X (FilPost wB B Eb ly pa pc rs J Jx p 0 pre) := by
  have r0 := hF.rb.cell 0
  have y0 := hF.yb.cell 0
  have HF := Lib.hid hF
  have HJ0 := Lib.hid h0
  have HP := Lib.hid hp
  have HM := Lib.hid hm
  have HBX := Lib.hid hB
  have HY0 := Lib.hid y0
  have HCL := Lib.hid (fun (W : World) (hb : Below X.heap.size X W) => cloneI_any (c := rs.length) ((hF.on hb).whole hp (by omega)) (by omega) (by omega))
  have HR := Lib.hid (show recN (rs.drop p.length) 0 = [[]] by rw [hp, List.drop_length]; rfl)
  rw [hp] at HCL
  clear hF h0 hm hB
  have hwf : ∀ f, Fence.wide.fn f = True := fun _ => rfl
  rw [hp]
  refine (callsIn_wide (n := 10)).1 ?_
  refine callsIn_of_wp Try.func103 rfl trivial ?_ rfl
  simp only [Try.ntmps103, List.size_toArray, List.length_cons, List.length_nil, Nat.reduceAdd, Nat.reduceSub, Array.replicate_succ, Array.replicate_zero, List.push_toArray, List.append_toArray, List.nil_append, List.cons_append]
  clear hp
  gi_wp2_with fail
  gi_region_with (first
    | (gi_at_call 104; (with_reducible refine CallsIn.mono (callsIn_wide.2 (HCL.out _ (Below.refl _ _).drew)) ?_); rintro e w1 ⟨g, cap, rfl, hp1, hb⟩; have HB1 := Lib.hid ((Below.refl X.heap.size X).drew.trans hb); have HMR : Hid (MR rs (B + 4) (p, g, cap) w1) := ⟨HM.out, own_base (by rw [← HP.out] at hp1; exact hp1) HBX.out⟩; obtain ⟨fn, tm, asg, bd, hy, hR⟩ := HY.out pre (p, g, cap) w1 (hJ _ _ _ HJ0.out (Outside.of_below HB1.out)) HMR.out (Nat.le_trans HBX.out HB1.out.size); dsimp only [rqV] at hy; rw [HP.out] at hy; have HRR := Lib.hid hR; have y1 := (HB1.out.cell (p := ⟨B, 0, none⟩) (show B < X.heap.size by have := HBX.out; omega)).trans HY0.out; clear hR hp1 hb)
    | (refine RoundIn.mono (roundIn_wide HRR.out) ?_; rintro e w4 ⟨hk, hz⟩; obtain ⟨z, rfl, hA⟩ := yield_end hz; have HK := Lib.hid hk; have HA := Lib.hid hA; clear hk hz hA hy HRR)
    | fail)
  all_goals
    have HFY := Lib.hid (HF.out.keep ((Keep.of_below HB1.out HF.out.b.size).trans HK.out))
    rcases HA.out with ⟨rfl, hA⟩ | ⟨rfl, hA⟩
  all_goals
    have HA2 := Lib.hid hA
    clear hA HA
    gi_wp2_with fail
    first
      | (refine bodyPost_ret (v := .bool true) ?_ rfl (.inl ⟨[(p, g, cap)], rfl, ?_, HA2.out, HFY.out⟩)
         · simp [results, Try.results103, go_sem]
         · rw [HR.out]; simp)
      | (refine bodyPost_ret (v := .bool false) ?_ rfl (.inr ⟨_, rfl, HA2.out⟩)
         simp [results, Try.results103, go_sem])
end Go.Proofs.Ytalghiecjhfflaa

namespace Go.Proofs.Ytalghiecjhfflaa
open Go.RowKit Go.Shelf Go.Maps
attribute [local go_sem] Oper.semAt_some


/-- The span of a place. -/
theorem span_cell {w X : World} {pa : Option Addr} {rs : List (Int × Int)} (hs : SpansIn w pa rs) (hb : Below w.heap.size w X) {k : Nat} {s : Int × Int} (hk : rs[k]? = some s) : ∃ sb so, pa = some ⟨sb, so, none⟩ ∧ X.cell? ⟨sb, so + k * 2, none⟩ = some (.int .i64 s.1) ∧ X.cell? ⟨sb, so + k * 2 + 1, none⟩ = some (.int .i64 s.2) := by
  obtain ⟨sb, so, e, h1, h2, h3⟩ := hs.get hk
  exact ⟨sb, so, e, (hb.cell (p := ⟨sb, _, none⟩) h1).trans h2, (hb.cell (p := ⟨sb, _, none⟩) h1).trans h3⟩
set_option maxRecDepth 100000 in
set_option maxHeartbeats 8000000 in
theorem fill_any {wB : World} {pa : Option Addr} {pc B Eb ly : Nat} {rs : List (Int × Int)} {J Jx : List Rq → World → Prop} (h5 : 1 ≤ rs.length ∧ rs.length ≤ 5) (hJ : ∀ s X Y, J s X → Outside B 4 X Y → J s Y)
    (HY : Hid (∀ pre x X, J pre X → MR rs (B + 4) x X → B + 4 ≤ X.heap.size → YieldAt Fence.wide 0 Try.prog ly #[rqV x] X fun e Y => Keep wB.heap.size (fun k => k = Eb) B 4 X Y ∧ ((e = .returned (.bool true) ∧ J (pre ++ [x]) Y) ∨ (e = .returned (.bool false) ∧ Jx (pre ++ [x]) Y))))
    (hs : SpansIn wB pa rs) (hv : ∀ s ∈ rs, 0 ≤ s.1 ∧ s.1 ≤ s.2 ∧ s.2 ≤ 20) (hwB : wB.heap.size ≤ B) (hEb : Eb < B) : ∀ (k : Nat) (p : List Int) (left : Nat) (pre : List Rq) (X : World), p.length + k = rs.length → left ≤ 20 → (∀ r ∈ recN (rs.drop p.length) left, p ++ r ∈ recN rs 20) → Fil wB B Eb ly pa pc rs p X → B + 4 ≤ X.heap.size → J pre X →
    Calls Try.prog 103 #[.int .i64 (p.length : Int), .int .i64 (left : Int), .pointer (some ⟨B + 2, 0, none⟩), .pointer (some ⟨B, 0, none⟩), .pointer (some ⟨Eb, 0, none⟩), .pointer (some ⟨B + 3, 0, none⟩)] X (FilPost wB B Eb ly pa pc rs J Jx p left pre) := by
  intro k
  induction k with
  | zero =>
    intro p left pre X hk hl hm hF hB h0
    cases left with
    | zero => exact fill_whole h5 hJ HY hk (by have := hm [] (by rw [show p.length = rs.length from hk, List.drop_length]; simp [recN]); simpa using this) hF hB h0
    | succ left => exact fill_more hk (by omega) hF h0 hJ
  | succ k ih =>
    intro p left pre X hk hl hm hF hB h0
    have hpl : p.length < rs.length := by omega
    obtain ⟨s, hsk⟩ : ∃ s, rs[p.length]? = some s := ⟨rs[p.length], List.getElem?_eq_getElem hpl⟩
    have hsv := hv s (List.mem_of_getElem? hsk)
    have hdr := drop_at hsk
    have HSK := Lib.hid hsk
    obtain ⟨lo, hlo⟩ : ∃ lo : Nat, s.1 = (lo : Int) := ⟨s.1.toNat, by omega⟩
    have HI := Lib.hid ih
    have HM := Lib.hid hm
    have HF := Lib.hid hF
    have HJ0 := Lib.hid h0
    have HBX := Lib.hid hB
    have HK := Lib.hid hk
    have HD := Lib.hid hdr
    have HSP := Lib.hid hs
    have HLO := Lib.hid hlo
    obtain ⟨sb, so, hpa, c1, c2⟩ := span_cell hs hF.b hsk
    have s0 := hF.sb.cell 0
    have r0 := hF.rb.cell 0
    have hne : decide (((p.length : Nat) : Int) = (rs.length : Int)) = false := decide_eq_false (by omega)
    have hpi : ((p.length : Nat) : Int) < (rs.length : Int) := by omega
    have hneb : (((p.length : Nat) : Int) == (rs.length : Int)) = false := by simp; omega
    rw [hpa] at s0
    rw [hlo] at c1
    have HPA := Lib.hid hpa
    have hl20 : s.2 ≤ 20 := by omega
    clear ih hm hF h0 hB hk hdr hs hsk hpa
    have hwf : ∀ f, Fence.wide.fn f = True := fun _ => rfl
    have HSV := Lib.hid hsv
    clear hsv hlo
    refine (callsIn_wide (n := 10)).1 ?_
    refine callsIn_of_wp Try.func103 rfl trivial ?_ rfl
    simp only [Try.ntmps103, List.size_toArray, List.length_cons, List.length_nil, Nat.reduceAdd, Nat.reduceSub, Array.replicate_succ, Array.replicate_zero, List.push_toArray, List.append_toArray, List.nil_append, List.cons_append]
    gi_wp2_with fail
    gi_loopw [9] (fun i Y => ∃ n : Nat, i = .int .i64 (n : Int) ∧ Hid ((lo ≤ n) ∧ (n ≤ 21) ∧ (n ≤ left + 1 ∨ (n : Int) = s.1)) ∧ Hid (∃ ys : List Rq, ys.map (·.1) = (recF (rs.drop (p.length + 1)) s left n).map (fun r => p ++ r) ∧ J (pre ++ ys) Y ∧ Fil wB B Eb ly pa pc rs p Y ∧ B + 4 ≤ Y.heap.size)) (fun i _ => 30 - (intOf i).toNat)
    case atStart =>
      refine ⟨lo, rfl, ⟨by omega, by have := HSV.out; have := HLO.out; omega, .inr HLO.out.symm⟩, [], ?_, by rw [List.append_nil]; exact HJ0.out, HF.out, HBX.out⟩
      rw [recF_lo (by rw [HLO.out]; exact Int.le_refl _)]; rfl
    case round =>
      obtain ⟨n, rfl, HN, HY0⟩ := hrel
      obtain ⟨ys, hy1, hy2, hy3, hy4⟩ := HY0.out
      obtain ⟨sb2, so2, hpa2, d1, d2⟩ := span_cell HSP.out hy3.b HSK.out
      rw [HPA.out] at hpa2
      cases hpa2
      have t0 := hy3.sb.cell 0
      rw [HPA.out] at t0
      have q0 := hy3.rb.cell 0
      obtain ⟨u0, a1, a2⟩ := hy3.cell hpl
      have HF1 := Lib.hid hy3
      have HJ1 := Lib.hid hy2
      have HYS := Lib.hid hy1
      have HB1 := Lib.hid hy4
      have hbl : B + 1 < wr.heap.size := by omega
      clear hy1 hy2 hy3 hy4 HY0 c1 c2 s0 r0
      by_cases hle : (n : Int) ≤ min s.2 (left : Int)
      · have hled : decide ((n : Int) ≤ min s.2 (left : Int)) = true := decide_eq_true hle
        have HL := Lib.hid hle
        clear hle
        gi_upto_region 7 with (fail)
        have hF2 := HF1.out.set hpl hwB hEb (n : Int)
        have hJ2 := hJ _ _ _ HJ1.out (Outside.of_grown (B := B) (K := 4) (grown_one wr (B + 1) p.length (.int .i64 (n : Int))) (fun k e => by cases e; omega))
        have hB2 : B + 4 ≤ (wr.setCell ⟨B + 1, p.length, none⟩ (.int .i64 (n : Int))).heap.size := by simpa [World.setCell] using HB1.out
        clear a1 a2 t0 q0 d1 d2 hbl
        generalize wr.setCell ⟨B + 1, p.length, none⟩ (.int .i64 (n : Int)) = W2 at *
        have f0 := hF2.fb.cell 0
        have hnl : n ≤ left := by have := HL.out; omega
        have HC := HI.out (p ++ [(n : Int)]) (left - n) (pre ++ ys) W2 (by simp; have := HK.out; omega) (by omega) (fun r hr => by
          have h1 := recF_mem (l := rs.drop (p.length + 1)) (s := s) (m := left) (n := n) (by have := HN.out.1; have := HLO.out; omega) (by have := HL.out; omega) hnl (r := r) (by simpa using hr)
          have h2 := HM.out ((n : Int) :: r) (by rw [HD.out]; exact h1)
          simpa using h2) hF2 hB2 hJ2
        rw [show (((p ++ [(n : Int)]).length : Nat) : Int) = (p.length : Int) + 1 by simp, show ((left - n : Nat) : Int) = (left : Int) - (n : Int) by omega] at HC
        have HCC := Lib.hid HC
        have hn21 := HN.out.2.1
        have w1_ : IntKind.i64.wrap ((p.length : Int) + 1) = (p.length : Int) + 1 := IntWalk.i64_in _ (by omega)
        have w2_ : IntKind.i64.wrap ((left : Int) - (n : Int)) = (left : Int) - (n : Int) := IntWalk.i64_in _ (by omega)
        have w3_ : IntKind.i64.wrap ((n : Int) + 1) = (n : Int) + 1 := IntWalk.i64_in _ (by omega)
        clear hF2 hB2 hJ2 HC
        gi_wp2_with fail
        refine CallsIn.mono (callsIn_wide.2 HCC.out) ?_
        rintro e W3 (⟨ys2, rfl, z1, z2, z3⟩ | ⟨pre', rfl, z4⟩)
        · have hrel2 : Hid (∃ ys : List Rq, ys.map (·.1) = (recF (rs.drop (p.length + 1)) s left (n + 1)).map (fun r => p ++ r) ∧ J (pre ++ ys) W3 ∧ Fil wB B Eb ly pa pc rs p W3 ∧ B + 4 ≤ W3.heap.size) := by
            refine ⟨ys ++ ys2, ?_, by rw [← List.append_assoc]; exact z2, z3.init, by have := z3.fb.lt; omega⟩
            rw [List.map_append, HYS.out, z1, recF_in (by have := HN.out.1; have := HLO.out; omega) (by have := HL.out; omega), List.map_append, recF_map]
            simp
          have hn3 : Hid ((lo ≤ n + 1) ∧ (n + 1 ≤ 21) ∧ (n + 1 ≤ left + 1 ∨ ((n + 1 : Nat) : Int) = s.1)) := ⟨by have := HN.out.1; omega, by have := HL.out; omega, .inl (by omega)⟩
          clear z1 z2 z3 HCC f0
          gi_wp2_with fail
          go_roundw
          case rel => exact ⟨n + 1, by go_num, hn3, hrel2⟩
          case measure => have := hn3.out.2.1; simp only [intOf]; omega
        · have HX := Lib.hid z4
          clear z4 HCC f0
          gi_wp2_with fail
          refine bodyPost_ret (v := .bool false) ?_ rfl (.inr ⟨_, rfl, HX.out⟩)
          simp [results, Try.results103, go_sem]
      · have hled : decide ((n : Int) ≤ min s.2 (left : Int)) = false := decide_eq_false hle
        have HE := Lib.hid (recF_end (l := rs.drop (p.length + 1)) HN.out.2.2 hle)
        clear hle a1 a2
        gi_wp2_with fail
        refine bodyPost_ret (v := .bool true) ?_ rfl (.inl ⟨ys, rfl, ?_, HJ1.out, HF1.out⟩)
        · simp [results, Try.results103, go_sem]
        · rw [HYS.out, HD.out, recN_cons, HE.out]
end Go.Proofs.Ytalghiecjhfflaa

namespace Go.Proofs.Ytalghiecjhfflaa
open Go.RowKit Go.Shelf Go.Maps
attribute [local go_sem] Oper.semAt_some


theorem IntsOut.outside {T B K : Nat} {X Y : World} {v : Value} {l : List Int} (h : IntsOut T X v l) (ho : Outside B K X Y) (hT : B + K ≤ T) : IntsOut T Y v l := by
  obtain ⟨h1, h2⟩ := h
  refine ⟨h1, ?_⟩
  rcases h2 with h2 | ⟨g, cap, cur, hv, hg, hh, hr⟩
  · exact .inl h2
  · exact .inr ⟨g, cap, cur, hv, hg, (ho.block g (Array.getElem?_eq_some_iff.1 hh).1 (.inr (by omega))).trans hh, hr⟩
theorem made_zero (n : Nat) : madeCells #[.int .i64 0] n = ((List.replicate n (0 : Int)).map (Value.int .i64)).toArray := by
  apply Array.ext
  · simp [madeCells]
  · intro i h1 h2
    simp [madeCells, Nat.mod_one]
theorem four_allocs (W : World) (o1 o2 o3 o4 : Obj) : Below W.heap.size W ((((W.alloc o1).alloc o2).alloc o3).alloc o4) :=
  (((((Below.refl _ W).alloc (Nat.le_refl _) o1).alloc (by simp) o2).alloc (by simp; omega) o3).alloc (by simp; omega) o4)
theorem Blk.at {W : World} {g : Nat} {T : TypeId} {cs : Array Value} (h : g = W.heap.size) : Blk (W.alloc (.cells cs T)) g T cs := by subst h; exact Blk.new W _ _
set_option maxRecDepth 100000 in
theorem recipes_any (w : World) (pa : Option Addr) (n pc : Nat) :
    Calls Try.prog 97 #[.slice pa n pc] w fun e w' => e = .returned (.func (.func 102) #[] #[.pointer (some ⟨w.heap.size, 0, none⟩)]) ∧ w' = w.alloc (.cells #[.slice pa n pc] 44) := by
  have hmf : ∀ (fn : Fn) (first cap : Array Value) (w : World), (Instr.makeFunc fn first cap).run Try.prog w = .ok (.func fn first cap) w := fun _ _ _ _ => rfl
  go_enter Try.func97, Try.ntmps97
  go_wp2_with fail
  go_ret
  exact ⟨rfl, rfl⟩
theorem fil_end {wB : World} {B Eb ly : Nat} {pa : Option Addr} {pc : Nat} {rs : List (Int × Int)} {J Jx : List Rq → World → Prop} {p : List Int} {left : Nat} {pre : List Rq} {e : Ending} {Y : World} (h : FilPost wB B Eb ly pa pc rs J Jx p left pre e Y) : ∃ z, e = .returned (.bool z) ∧ FilPost wB B Eb ly pa pc rs J Jx p left pre (.returned (.bool z)) Y := by
  rcases h with ⟨ys, rfl, h1⟩ | ⟨pre', rfl, h1⟩
  · exact ⟨true, rfl, .inl ⟨ys, rfl, h1⟩⟩
  · exact ⟨false, rfl, .inr ⟨pre', rfl, h1⟩⟩
set_option maxRecDepth 100000 in
set_option maxHeartbeats 4000000 in
theorem rec_seq {wB w0 : World} {pa : Option Addr} {pc Eb : Nat} {rs : List (Int × Int)} (hs : SpansIn wB pa rs) (h5 : 1 ≤ rs.length ∧ rs.length ≤ 5) (hv : ∀ s ∈ rs, 0 ≤ s.1 ∧ s.1 ≤ s.2 ∧ s.2 ≤ 20) (hb0 : Below wB.heap.size wB w0) (hbox : Blk w0 Eb 44 #[.slice pa rs.length pc]) :
    SeqM Try.prog 102 #[.pointer (some ⟨Eb, 0, none⟩)] (fun x : Rq => #[rqV x]) wB.heap.size (fun k => k = Eb) 4 (MR rs) (fun xs => xs.map (·.1) = recN rs 20) (fun _ => True) w0 := by
  intro l J Jx W hW hJ hJx hY h0
  have hbW : Below wB.heap.size wB W := hb0.trans (hW.mono hb0.size)
  have hbx := hbox.on hW
  have hel : Eb < W.heap.size := hbx.lt
  have e0 := hbx.cell 0
  have HY : Hid (∀ pre x X, J pre X → MR rs (W.heap.size + 4) x X → W.heap.size + 4 ≤ X.heap.size → YieldAt Fence.wide 0 Try.prog l #[rqV x] X fun e Y => Keep wB.heap.size (fun k => k = Eb) W.heap.size 4 X Y ∧ ((e = .returned (.bool true) ∧ J (pre ++ [x]) Y) ∨ (e = .returned (.bool false) ∧ Jx (pre ++ [x]) Y))) := fun pre x X h1 h2 h3 => hY pre x X h1 h2 h3 trivial
  have hF : ∀ V, V = (((W.alloc (.cells #[.func (.yield l) #[] #[]] 147)).alloc (.cells (madeCells #[.int .i64 0] rs.length) 3)).alloc (.cells #[.slice (some ⟨W.heap.size + 1, 0, none⟩) rs.length rs.length] 31)).alloc (.cells #[.func (.func 103) #[] #[.pointer (some ⟨W.heap.size + 2, 0, none⟩), .pointer (some ⟨W.heap.size, 0, none⟩), .pointer (some ⟨Eb, 0, none⟩), .pointer (some ⟨W.heap.size + 3, 0, none⟩)]] 148) → Fil wB W.heap.size Eb l pa pc rs [] V ∧ W.heap.size + 4 ≤ V.heap.size ∧ J [] V := by
    rintro V rfl
    have hb := four_allocs W (.cells #[.func (.yield l) #[] #[]] 147) (.cells (madeCells #[.int .i64 0] rs.length) 3) (.cells #[.slice (some ⟨W.heap.size + 1, 0, none⟩) rs.length rs.length] 31) (.cells #[.func (.func 103) #[] #[.pointer (some ⟨W.heap.size + 2, 0, none⟩), .pointer (some ⟨W.heap.size, 0, none⟩), .pointer (some ⟨Eb, 0, none⟩), .pointer (some ⟨W.heap.size + 3, 0, none⟩)]] 148)
    refine ⟨⟨?_, ?_, ?_, hbx.on hb, ⟨List.replicate rs.length 0, by simp, by simp, ?_⟩, hbW.trans (hb.mono hbW.size)⟩, by simp, hJ _ _ _ h0 (Outside.of_below hb)⟩
    · exact (((Blk.new W _ _).alloc _).alloc _).alloc _
    · exact (Blk.at (by simp)).alloc _
    · exact Blk.at (by simp)
    · rw [← made_zero]; exact ((Blk.at (by simp)).alloc _).alloc _
  have HF := Lib.hid hF
  have HC : Hid (∀ X : World, Fil wB W.heap.size Eb l pa pc rs [] X ∧ W.heap.size + 4 ≤ X.heap.size ∧ J [] X → Calls Try.prog 103 #[.int .i64 0, .int .i64 20, .pointer (some ⟨W.heap.size + 1 + 1, 0, none⟩), .pointer (some ⟨W.heap.size, 0, none⟩), .pointer (some ⟨Eb, 0, none⟩), .pointer (some ⟨W.heap.size + 1 + 1 + 1, 0, none⟩)] X (FilPost wB W.heap.size Eb l pa pc rs J Jx [] 20 [])) := fun X hX => fill_any (Jx := Jx) h5 hJ HY hs hv (Nat.le_trans hb0.size hW.size) hel rs.length [] 20 [] X (by simp) (by omega) (fun r hr => by simpa using hr) hX.1 hX.2.1 hX.2.2
  have hmk : ∀ W, (Instr.makeSlice 31 (.int .i64 (rs.length : Int)) (.int .i64 (rs.length : Int))).run Try.prog W = .ok (.slice (some ⟨W.heap.size, 0, none⟩) rs.length rs.length) (W.alloc (.cells (madeCells #[.int .i64 0] rs.length) 3)) := fun W => run_make_row' 31 3 (.int .i64 0) 8 und_ints infoInt rfl .i64 .i64 rs.length (by omega) (by omega) W
  have hmf : ∀ (fn : Fn) (first cap : Array Value) (w : World), (Instr.makeFunc fn first cap).run Try.prog w = .ok (.func fn first cap) w := fun _ _ _ _ => rfl
  clear hF hY h0 hb0 hW hbx hbox hv hs
  show Calls Try.prog 102 #[.func (.yield l) #[] #[], .pointer (some ⟨Eb, 0, none⟩)] W _
  go_enter Try.func102, Try.ntmps102
  go_wp2_with fail
  refine Calls.mono (HC.out _ (HF.out _ rfl)) ?_
  intro e Y hq
  obtain ⟨z, rfl, hq2⟩ := fil_end hq
  have HQ := Lib.hid hq2
  clear hq hq2
  go_wp2_with fail
  go_end0
  refine ⟨⟨_, rfl⟩, ?_⟩
  rcases HQ.out with ⟨ys, h1, h2, h3, h4⟩ | ⟨pre', h1, h2⟩
  · exact .inl ⟨ys, by simpa using h2, by simpa using h3⟩
  · exact .inr ⟨pre', h2⟩
end Go.Proofs.Ytalghiecjhfflaa

namespace Go.Proofs.Ytalghiecjhfflaa
open Go.RowKit Go.Shelf Go.Maps
attribute [local go_sem] Oper.semAt_some


theorem callsIn_round {n lo : Nat} {P : Program} {f : FuncId} {args : Array Value} {w : World} {R : Ending → World → Prop} (h : Calls P f args w R) : CallsIn (Fence.wide.inRound lo) n P f args w R := (callsIn_wide (n := n)).2 h
theorem roundIn_round {n m lo : Nat} {P : Program} {l : Nat} {f : FuncId} {tmps : Array Value} {assign body : Code} {w : World} {R : Ending → World → Prop} (h : RoundIn Fence.wide n P l f tmps assign body w R) : RoundIn (Fence.wide.inRound lo) m P l f tmps assign body w R := roundIn_wide (n := n) h
/-- The recipes that fit a wish. -/
def fitL (l : List Bw) (x : Ws) : List (List Int) := (recN x.ps 20).filter fun r => whyV l x r == 0
/-- A mix that is handed over. -/
def MF (b o : Nat) (l : List Bw) (x : Ws) (T : Nat) (y : Rq) (X : World) : Prop := y.1 ∈ fitL l x ∧ PosOut T X (rqV y) (mixL b o l y.1)
theorem rec_rc {m : Nat} {x : Ws} (hw : WsOk m x) {r : List Int} (hr : r ∈ recN x.ps 20) : RcOk m r := by
  obtain ⟨h1, h2, h3⟩ := recN_mem.1 hr
  refine ⟨h1.trans hw.len, fun n hn => ?_, h3⟩
  obtain ⟨i, hi⟩ := List.getElem?_of_mem hn
  have hil : i < x.ps.length := by rw [← h1]; exact (List.getElem?_eq_some_iff.1 hi).1
  obtain ⟨s, hs⟩ : ∃ s, x.ps[i]? = some s := ⟨x.ps[i], List.getElem?_eq_getElem hil⟩
  have h4 := h2 (s, n) (List.mem_of_getElem? (i := i) (by rw [List.getElem?_zip_eq_some]; exact ⟨hs, hi⟩))
  have h5 := hw.ps s (List.mem_of_getElem? hs)
  simp only at h4
  omega
theorem PosOut.outside {T B K : Nat} {X Y : World} {v : Value} {l : List Po} (h : PosOut T X v l) (ho : Outside B K X Y) (hT : B + K ≤ T) : PosOut T Y v l := by
  obtain ⟨h1, h2⟩ := h
  refine ⟨h1, ?_⟩
  rcases h2 with h2 | ⟨g, cap, cur, hv, hg, hh, hr⟩
  · exact .inl h2
  · exact .inr ⟨g, cap, cur, hv, hg, (ho.block g (Array.getElem?_eq_some_iff.1 hh).1 (.inr (by omega))).trans hh, hr⟩
set_option maxRecDepth 100000 in
theorem fitting_any (w : World) (A : Option Addr) (n c : Nat) (q : Wm) :
    Calls Try.prog 71 #[.slice A n c, .agg #[.slice q.pa q.w.ps.length q.pc, .int .i64 q.w.mlo, .int .i64 q.w.mhi, .int .i64 q.w.slo, .int .i64 q.w.shi]] w fun e w' => e = .returned (.func (.func 96) #[] #[.pointer (some ⟨w.heap.size + 1, 0, none⟩), .pointer (some ⟨w.heap.size, 0, none⟩)]) ∧ w' = (w.alloc (.cells #[.slice A n c] 22)).alloc (.cells #[.slice q.pa q.w.ps.length q.pc, .int .i64 q.w.mlo, .int .i64 q.w.mhi, .int .i64 q.w.slo, .int .i64 q.w.shi] 46) := by
  have hmf : ∀ (fn : Fn) (first cap : Array Value) (w : World), (Instr.makeFunc fn first cap).run Try.prog w = .ok (.func fn first cap) w := fun _ _ _ _ => rfl
  go_enter Try.func71, Try.ntmps71
  go_wp2_with fail
  go_ret
  exact ⟨rfl, rfl⟩
/-- Between two rounds of fitting. -/
structure FiI (wB : World) (B ly Pw Pl : Nat) (V V2 : Array Value) (X : World) : Prop where
  w : Blk X Pw 46 V
  l : Blk X Pl 22 V2
  y : Blk X B 139 #[.func (.yield ly) #[] #[]]
  b : Below wB.heap.size wB X
theorem FiI.out {wB X Y : World} {B ly Pw Pl K : Nat} {V V2 : Array Value} (h : FiI wB B ly Pw Pl V V2 X) (ho : Outside (B + 2) K X Y) (h1 : Pw < B) (h2 : Pl < B) (h3 : wB.heap.size ≤ B) : FiI wB B ly Pw Pl V V2 Y :=
  ⟨(ho.block _ h.w.lt (.inl (by omega))).trans h.w, (ho.block _ h.l.lt (.inl (by omega))).trans h.l, (ho.block _ h.y.lt (.inl (by omega))).trans h.y, h.b.trans ⟨ho.os, ho.tape, ho.output, ho.size, fun k hk => ho.block k (Nat.lt_of_lt_of_le hk h.b.size) (.inl (by omega))⟩⟩
theorem FiI.on {wB X Y : World} {B ly Pw Pl : Nat} {V V2 : Array Value} (h : FiI wB B ly Pw Pl V V2 X) (hb : Below X.heap.size X Y) : FiI wB B ly Pw Pl V V2 Y := ⟨h.w.on hb, h.l.on hb, h.y.on hb, h.b.trans (hb.mono h.b.size)⟩
theorem FiI.keep {wB X Y : World} {B ly Pw Pl : Nat} {V V2 : Array Value} (h : FiI wB B ly Pw Pl V V2 X) (hk : Keep wB.heap.size (fun k => k = Pw ∨ k = Pl) B 8 X Y) : FiI wB B ly Pw Pl V V2 Y :=
  ⟨(hk.kept _ h.w.lt (.inl (.inl rfl))).trans h.w, (hk.kept _ h.l.lt (.inl (.inr rfl))).trans h.l, (hk.kept _ h.y.lt (.inr (by omega))).trans h.y, h.b.trans hk.below⟩
theorem fit_snoc {l : List Bw} {x : Ws} (pre : List Rq) (y : Rq) : ((pre ++ [y]).map (·.1)).filter (fun r => whyV l x r == 0) = (pre.map (·.1)).filter (fun r => whyV l x r == 0) ++ (if whyV l x y.1 = 0 then [y.1] else []) := by
  rw [List.map_append, List.filter_append]
  congr 1
  by_cases h : whyV l x y.1 = 0 <;> simp [h]
end Go.Proofs.Ytalghiecjhfflaa

namespace Go.Proofs.Ytalghiecjhfflaa
open Go.RowKit Go.Shelf Go.Maps
attribute [local go_sem] Oper.semAt_some


set_option maxRecDepth 100000 in
set_option maxHeartbeats 4000000 in
theorem fit_seq {wB w0 : World} {b o c Pw Pl : Nat} {l : List Bw} {q : Wm} (h : BwsIn wB (some ⟨b, o, none⟩) l) (hl : ∀ x ∈ l, BwOk x) (hn : 1 ≤ l.length ∧ l.length ≤ 5) (hs : SpansIn wB q.pa q.w.ps) (hw : WsOk l.length q.w) (hb0 : Below wB.heap.size wB w0) (hbw : Blk w0 Pw 46 #[.slice q.pa q.w.ps.length q.pc, .int .i64 q.w.mlo, .int .i64 q.w.mhi, .int .i64 q.w.slo, .int .i64 q.w.shi]) (hbl : Blk w0 Pl 22 #[.slice (some ⟨b, o, none⟩) l.length c]) :
    SeqM Try.prog 96 #[.pointer (some ⟨Pw, 0, none⟩), .pointer (some ⟨Pl, 0, none⟩)] (fun x : Rq => #[rqV x]) wB.heap.size (fun k => k = Pw ∨ k = Pl) 8 (MF b o l q.w) (fun xs => xs.map (·.1) = fitL l q.w) (fun _ => True) w0 := by
  intro l_ J Jx W hW hJ hJx hY h0
  have hbW : Below wB.heap.size wB W := hb0.trans (hW.mono hb0.size)
  have bw := hbw.on hW
  have bl := hbl.on hW
  have e0 := bw.cell 0
  have hpw : Pw < W.heap.size := bw.lt
  have hpl : Pl < W.heap.size := bl.lt
  have hwl := hw.len
  have hFI : FiI wB W.heap.size l_ Pw Pl #[.slice q.pa q.w.ps.length q.pc, .int .i64 q.w.mlo, .int .i64 q.w.mhi, .int .i64 q.w.slo, .int .i64 q.w.shi] #[.slice (some ⟨b, o, none⟩) l.length c] ((W.alloc (.cells #[.func (.yield l_) #[] #[]] 139)).alloc (.cells #[.slice q.pa q.w.ps.length q.pc] 44)) := ⟨(bw.alloc _).alloc _, (bl.alloc _).alloc _, (Blk.new W _ _).alloc _, (hbW.alloc hbW.size _).alloc (by simp; have := hbW.size; omega) _⟩
  have hRS := rec_seq (w0 := (W.alloc (.cells #[.func (.yield l_) #[] #[]] 139)).alloc (.cells #[.slice q.pa q.w.ps.length q.pc] 44)) (Eb := W.heap.size + 1) (pc := q.pc) hs (by rw [hwl]; exact hn) hw.ps hFI.b (Blk.at (by simp))
  have HRS := Lib.hid hRS
  have HFI := Lib.hid hFI
  have HBW := Lib.hid hbW
  have HY := Lib.hid hY
  have HJ0 := Lib.hid h0
  have HWL := Lib.hid hwl
  clear hRS hFI hY h0 bw bl hbw hbl hW hb0 hbW hwl
  refine (callsIn_wide (n := 10)).1 ?_
  refine callsIn_of_wp_marks Try.func96 rfl trivial ?_ rfl
  simp only [Try.ntmps96, List.size_toArray, List.length_cons, List.length_nil, Nat.reduceAdd, Nat.reduceSub, Array.replicate_succ, Array.replicate_zero, List.push_toArray, List.append_toArray, List.nil_append, List.cons_append]
  gi_wp2_with fail
  refine ⟨trivial, ?_⟩
  refine CallsIn.mono (callsIn_wide.2 (recipes_any _ _ _ _)) ?_
  rintro e w2 ⟨rfl, hw2⟩
  rw [hw2]
  clear hw2
  gi_wp2_with fail
  have hs2 : ((W.alloc (.cells #[.func (.yield l_) #[] #[]] 139)).alloc (.cells #[.slice q.pa q.w.ps.length q.pc] 44)).heap.size = W.heap.size + 2 := by simp
  have hJ2 := hJ _ _ _ HJ0.out (Outside.of_below (((Below.refl _ W).alloc (Nat.le_refl _) (.cells #[.func (.yield l_) #[] #[]] 139)).alloc (by simp) (.cells #[.slice q.pa q.w.ps.length q.pc] 44)))
  generalize (W.alloc (.cells #[.func (.yield l_) #[] #[]] 139)).alloc (.cells #[.slice q.pa q.w.ps.length q.pc] 44) = W2 at *
  have hwBW := HBW.out.size
  refine wpIn_rangeM (gf := 102) (lb := #[.pointer (some ⟨W.heap.size + 1, 0, none⟩)]) rfl (enters_of Try.func102 (by kernel_rfl) rfl) HRS.out (by omega) (fun k hk => by omega) (Below.refl _ _) (fun _ => rfl)
    (fun pre X => FiI wB W.heap.size l_ Pw Pl #[.slice q.pa q.w.ps.length q.pc, .int .i64 q.w.mlo, .int .i64 q.w.mhi, .int .i64 q.w.slo, .int .i64 q.w.shi] #[.slice (some ⟨b, o, none⟩) l.length c] X ∧ ∃ ys : List Rq, ys.map (·.1) = (pre.map (·.1)).filter (fun r => whyV l q.w r == 0) ∧ J ys X)
    (fun c _ X => c = .ret ∧ ∃ ys, Jx ys X) ?hI ?hIx ⟨HFI.out, [], rfl, hJ2⟩ ?hM (fun x => ⟨#[.func (.yield l_) #[] #[], .pointer (some ⟨Pw, 0, none⟩), .pointer (some ⟨Pl, 0, none⟩), .pointer (some ⟨W.heap.size, 0, none⟩), rqV x, undef, .pointer (some ⟨Pw, 0, none⟩), .slice q.pa q.w.ps.length q.pc, .func (.func 102) #[] #[.pointer (some ⟨W.heap.size + 1, 0, none⟩)], rqV x, undef, undef, undef, undef, undef, undef, undef, undef, undef, undef, undef, undef, undef], []⟩) ?assign ?body ?done ?stop
  case hI =>
    rintro s X Y ⟨h1, ys, h2, h3⟩ ho
    rw [hs2] at ho
    exact ⟨h1.out ho hpw hpl hwBW, ys, h2, hJ _ _ _ h3 (ho.widen (by omega) (by omega))⟩
  case hIx =>
    rintro c s X Y ⟨h1, ys, h2⟩ ho
    rw [hs2] at ho
    exact ⟨h1, ys, hJx _ _ _ h2 (ho.widen (by omega) (by omega))⟩
  case hM =>
    rintro x X Y ⟨h1, h2⟩ ho
    exact ⟨h1, h2.outside ho (by omega)⟩
  case assign =>
    intro lo x X N hN
    gi_wp2_with fail
    exact hN
  case body =>
    rintro lo pre x X ⟨hFI, ys, hys, hj⟩ ⟨hm1, hm2⟩ hsz -
    have hrc := rec_rc hw hm1
    obtain ⟨rA, rC, hrv, hrI⟩ := hm2.in_
    have hrA : rA = some ⟨x.2.1, 0, none⟩ := by unfold rqV at hrv; cases hrv; rfl
    rw [hrA] at hrI
    have f0 := hFI.w.cell 0; have f1 := hFI.w.cell 1; have f2 := hFI.w.cell 2; have f3 := hFI.w.cell 3; have f4 := hFI.w.cell 4
    have g0 := hFI.l.cell 0
    have HBX := Lib.hid hFI.b
    have HFX := Lib.hid hFI
    have HJX := Lib.hid hj
    have HYS := Lib.hid hys
    have HMX := Lib.hid hm1
    have HSZ := Lib.hid hsz
    have HRC := Lib.hid hrc
    have HC1 := Lib.hid (mixOf_any (w := X) (c := c) (rc := x.2.2) (h.on hFI.b) hrI hrc.len hn)
    have HBWS := Lib.hid (h.on hFI.b)
    have HCF := Lib.hid (fun (V : World) (g cap : Nat) (hb : Below X.heap.size X V) (hp : PosIn V (some ⟨g, 0, none⟩) (mixL b o l x.1)) => fault_any (c := cap) (q := q) hp hl hn hrc hw ((hs.on hFI.b).on hb))
    clear hFI hj hm1 hm2 hsz hrc hrI hrv hrA hys
    gi_wp2_with fail
    refine ⟨trivial, ?_⟩
    refine CallsIn.mono (callsIn_round HC1.out) ?_
    rintro e V ⟨g, cap, rfl, hp, hb⟩
    have hpi := (mix_in HBWS.out hb hp).2
    have hFV := HFX.out.on hb
    have f0 := hFV.w.cell 0; have f1 := hFV.w.cell 1; have f2 := hFV.w.cell 2; have f3 := hFV.w.cell 3; have f4 := hFV.w.cell 4
    have HB := Lib.hid hb
    have HP := Lib.hid hp
    have hCF := HCF.out V g cap hb hpi
    clear hpi hFV hp hb HCF HC1 g0
    by_cases hfit : whyV l q.w x.1 = 0
    · rw [hfit] at hCF
      have HCF := Lib.hid hCF
      have HFIT := Lib.hid hfit
      clear hCF hfit
      gi_wp2_with fail
      refine ⟨trivial, ?_⟩
      refine CallsIn.mono (callsIn_round HCF.out) ?_
      rintro e V2 ⟨rfl, hb2⟩
      have hB2 := HB.out.trans (hb2.mono HB.out.size)
      have hMF : MF b o l q.w (W.heap.size + 8) (x.1, g, cap) V2 := ⟨List.mem_filter.2 ⟨HMX.out, by simpa using HFIT.out⟩, own_base (by have := own_below HP.out hb2; rw [← HRC.out.len] at this; exact this) (by have := HSZ.out; omega)⟩
      have y0 := (HFX.out.on hB2).y.cell 0
      obtain ⟨fn, tm, asg, bd, hy, hR⟩ := HY.out ys (x.1, g, cap) V2 (hJ _ _ _ HJX.out (Outside.of_below hB2)) hMF (by have := HSZ.out; have := hB2.size; omega) trivial
      dsimp only [rqV] at hy
      rw [HRC.out.len] at hy
      have HRR := Lib.hid hR
      have HB2 := Lib.hid hB2
      clear hR hb2 hB2 hMF f0 f1 f2 f3 f4
      gi_wp2_with fail
      refine RoundIn.mono (roundIn_round HRR.out) ?_
      rintro e V3 ⟨hk, hz⟩
      have HKK : Hid (Keep wB.heap.size (fun k => k = W.heap.size + 1) W2.heap.size (2 + 4) X V3) := (Keep.of_below HB2.out HBX.out.size).trans (hk.part (Nat.le_refl _) (fun k hk => .inr (.inr (by omega))) (by omega) (by omega))
      have HFF := Lib.hid ((HFX.out.on HB2.out).keep hk)
      rcases hz with ⟨rfl, hj3⟩ | ⟨rfl, hj3⟩
      · have HJ3 := Lib.hid hj3
        clear hj3 hk hy HRR y0
        gi_wp2_with fail
        refine ⟨HKK.out, HFF.out, ys ++ [(x.1, g, cap)], ?_, HJ3.out⟩
        rw [fit_snoc, if_pos HFIT.out, List.map_append, HYS.out]; rfl
      · have HJ3 := Lib.hid hj3
        clear hj3 hk hy HRR y0
        gi_wp2_with fail
        exact ⟨HKK.out, rfl, _, HJ3.out⟩
    · have hz0 : (whyV l q.w x.1 == 0) = false := by simpa using hfit
      have HCF := Lib.hid hCF
      have HFIT := Lib.hid hfit
      clear hCF hfit
      gi_wp2_with fail
      refine ⟨trivial, ?_⟩
      refine CallsIn.mono (callsIn_round HCF.out) ?_
      rintro e V2 ⟨rfl, hb2⟩
      have HB2 := Lib.hid (HB.out.trans (hb2.mono HB.out.size))
      clear hb2 f0 f1 f2 f3 f4
      have hwf : ∀ f, Fence.wide.fn f = True := fun _ => rfl
      gi_wp2_with fail
      refine ⟨Keep.of_below HB2.out HBX.out.size, HFX.out.on HB2.out, ys, ?_, hJ _ _ _ HJX.out (Outside.of_below HB2.out)⟩
      rw [fit_snoc, if_neg HFIT.out, List.append_nil]; exact HYS.out
  case done =>
    rintro D xs X hD1 hD2 hS ⟨hFI, ys, hys, hj⟩ hd
    have HJX := Lib.hid hj
    have HD := Lib.hid hd
    have HYS := Lib.hid (hys.trans (congrArg _ hS))
    clear hFI hj hd hys hS
    gi_wp2_with fail
    refine ⟨by simp, .inl ⟨_, _, rfl, run_takeDeferred HD.out, ?_⟩⟩
    exact ⟨_, results_none rfl _ _ _, ⟨_, rfl⟩, .inl ⟨ys, HYS.out, hJ _ _ _ HJX.out (Outside.put _ _ (by omega) (by omega))⟩⟩
  case stop =>
    rintro D c pre X hD1 hD2 ⟨rfl, ys, hj⟩ hd
    have HJX := Lib.hid hj
    have HD := Lib.hid hd
    clear hj hd
    gi_wp2_with fail
    refine ⟨by simp, .inl ⟨_, _, rfl, run_takeDeferred HD.out, ?_⟩⟩
    exact ⟨_, results_none rfl _ _ _, ⟨_, rfl⟩, .inr ⟨ys, hJx _ _ _ HJX.out (Outside.put _ _ (by omega) (by omega))⟩⟩
end Go.Proofs.Ytalghiecjhfflaa
