/- Layer blend, a part: words for memory, mathematics, regions. No statement is proved here. -/
import Derived.WalkKit
import Derived.Deep.Draws
import Derived.Lib.Hide
import Derived.Test.YtalghiecjhfflaaProg
import Derived.Deep.AppendLies
import Derived.OwnWalk
import Derived.Deep.DeepCutAuto
import Derived.WalkSpells
import Derived.WalkLawsBesides
import Derived.Outline
import Derived.Deep.RegionHeld3
import Derived.Deep.QuietTactic
import Derived.BigQuiet
import Derived.Shelf.Abstract
import Derived.Deep.RegionWith
import Derived.RegionDies
import Derived.Deep.RegionLaw
namespace Go.Proofs.Ytalghiecjhfflaa
open Go.RowKit

/-- A property of a table. -/
structure Pr where
  nm : ByteArray
  er : Int
/-- A kind of a table; where its ranges lie. -/
structure Kd where
  nm : ByteArray
  ad : Option Addr
  cp : Nat
  rs : List (Int × Int)
/-- A table. -/
structure Tab where
  ps : List Pr
  ks : List Kd
  pu : Int

def encI (x : Int) (_ : Nat) : Value := .int .i64 x
def encB (x : ByteArray) (_ : Nat) : Value := .string x
def encS (x : Int × Int) (j : Nat) : Value := if j = 0 then .int .i64 x.1 else .int .i64 x.2
def encP (x : Pr) (j : Nat) : Value := if j = 0 then .string x.nm else .int .i64 x.er
def encK (x : Kd) (j : Nat) : Value := if j = 0 then .string x.nm else .slice x.ad x.rs.length x.cp

/-- The cells at A on are those of the elements of l, in blocks below B. -/
def RowAt {α : Type} (sz : Nat) (enc : α → Nat → Value) (w : World) (B : Nat) (A : Option Addr) (l : List α) : Prop :=
  0 < l.length → ∃ b o, A = some ⟨b, o, none⟩ ∧ b < B ∧ ∀ i x, l[i]? = some x → ∀ j, j < sz → w.cell? ⟨b, o + i * sz + j, none⟩ = some (enc x j)

section
variable {α : Type} {sz B B' : Nat} {enc : α → Nat → Value} {w w' : World} {A : Option Addr} {l : List α}
theorem RowAt.nil : RowAt sz enc w B A ([] : List α) := fun h => absurd h (by simp)
theorem RowAt.keep (h : RowAt sz enc w B A l) (hk : ∀ p : Addr, p.block < B → w'.cell? p = w.cell? p) : RowAt sz enc w' B A l := fun hl => by
  obtain ⟨b, o, e, hb, hc⟩ := h hl
  exact ⟨b, o, e, hb, fun i x hx j hj => (hk _ hb).trans (hc i x hx j hj)⟩
theorem RowAt.mono (h : RowAt sz enc w B A l) (hB : B ≤ B') : RowAt sz enc w B' A l := fun hl => by
  obtain ⟨b, o, e, hb, hc⟩ := h hl
  exact ⟨b, o, e, by omega, hc⟩
theorem RowAt.below (h : RowAt sz enc w B A l) (hb : Below B' w w') (hB : B ≤ B') : RowAt sz enc w' B A l := h.keep fun _ hp => hb.cell (by omega)
theorem RowAt.take (h : RowAt sz enc w B A l) (n : Nat) : RowAt sz enc w B A (l.take n) := fun hl => by
  obtain ⟨b, o, e, hb, hc⟩ := h (by rw [List.length_take] at hl; omega)
  refine ⟨b, o, e, hb, fun i x hx j hj => hc i x ?_ j hj⟩
  by_cases hi : i < n
  · rwa [List.getElem?_take_of_lt hi] at hx
  · rw [List.getElem?_eq_none (by rw [List.length_take]; omega)] at hx; cases hx
theorem RowAt.two (h : RowAt 2 enc w B A l) {i : Nat} {x : α} (hi : l[i]? = some x) :
    ∃ b o, A = some ⟨b, o, none⟩ ∧ b < B ∧ w.cell? ⟨b, o + i * 2, none⟩ = some (enc x 0) ∧ w.cell? ⟨b, o + i * 2 + 1, none⟩ = some (enc x 1) := by
  obtain ⟨b, o, e, hb, hc⟩ := h (by have := (List.getElem?_eq_some_iff.1 hi).1; omega)
  exact ⟨b, o, e, hb, hc i x hi 0 (by omega), hc i x hi 1 (by omega)⟩
theorem RowAt.one (h : RowAt 1 enc w B A l) {i : Nat} {x : α} (hi : l[i]? = some x) :
    ∃ b o, A = some ⟨b, o, none⟩ ∧ b < B ∧ w.cell? ⟨b, o + i, none⟩ = some (enc x 0) := by
  obtain ⟨b, o, e, hb, hc⟩ := h (by have := (List.getElem?_eq_some_iff.1 hi).1; omega)
  have := hc i x hi 0 (by omega)
  rw [Nat.mul_one, Nat.add_zero] at this
  exact ⟨b, o, e, hb, this⟩
end
abbrev IntsAt := RowAt 1 encI
abbrev StrsAt := RowAt 1 encB
abbrev SpansAt := RowAt 2 encS
abbrev PropsAt := RowAt 2 encP
def KindsAt (w : World) (B : Nat) (A : Option Addr) (l : List Kd) : Prop := RowAt 2 encK w B A l ∧ ∀ k ∈ l, SpansAt w B k.ad k.rs ∧ k.rs.length ≤ 9223372036854775807

theorem ints_at {w : World} {B : Nat} {A : Option Addr} {l : List Int} (h : IntsAt w B A l) {i : Nat} {x : Int} (hi : l[i]? = some x) :
    ∃ b o, A = some ⟨b, o, none⟩ ∧ b < B ∧ w.cell? ⟨b, o + i, none⟩ = some (.int .i64 x) := h.one hi
theorem strs_at {w : World} {B : Nat} {A : Option Addr} {l : List ByteArray} (h : StrsAt w B A l) {i : Nat} {x : ByteArray} (hi : l[i]? = some x) :
    ∃ b o, A = some ⟨b, o, none⟩ ∧ b < B ∧ w.cell? ⟨b, o + i, none⟩ = some (.string x) := h.one hi
theorem spans_at {w : World} {B : Nat} {A : Option Addr} {l : List (Int × Int)} (h : SpansAt w B A l) {i : Nat} {x : Int × Int} (hi : l[i]? = some x) :
    ∃ b o, A = some ⟨b, o, none⟩ ∧ b < B ∧ w.cell? ⟨b, o + i * 2, none⟩ = some (.int .i64 x.1) ∧ w.cell? ⟨b, o + i * 2 + 1, none⟩ = some (.int .i64 x.2) := h.two hi
theorem props_at {w : World} {B : Nat} {A : Option Addr} {l : List Pr} (h : PropsAt w B A l) {i : Nat} {x : Pr} (hi : l[i]? = some x) :
    ∃ b o, A = some ⟨b, o, none⟩ ∧ b < B ∧ w.cell? ⟨b, o + i * 2, none⟩ = some (.string x.nm) ∧ w.cell? ⟨b, o + i * 2 + 1, none⟩ = some (.int .i64 x.er) := h.two hi
theorem kinds_at {w : World} {B : Nat} {A : Option Addr} {l : List Kd} (h : KindsAt w B A l) {i : Nat} {x : Kd} (hi : l[i]? = some x) :
    ∃ b o, A = some ⟨b, o, none⟩ ∧ b < B ∧ w.cell? ⟨b, o + i * 2, none⟩ = some (.string x.nm) ∧ w.cell? ⟨b, o + i * 2 + 1, none⟩ = some (.slice x.ad x.rs.length x.cp) ∧ SpansAt w B x.ad x.rs ∧ x.rs.length ≤ 9223372036854775807 := by
  obtain ⟨b, o, e, hb, h1, h2⟩ := h.1.two hi
  exact ⟨b, o, e, hb, h1, h2, h.2 x (List.mem_of_getElem? hi)⟩
theorem KindsAt.below {w w' : World} {B B' : Nat} {A : Option Addr} {l : List Kd} (h : KindsAt w B A l) (hb : Below B' w w') (hB : B ≤ B') : KindsAt w' B A l :=
  ⟨RowAt.below h.1 hb hB, fun k hk => ⟨RowAt.below (h.2 k hk).1 hb hB, (h.2 k hk).2⟩⟩
theorem KindsAt.mono {w : World} {B B' : Nat} {A : Option Addr} {l : List Kd} (h : KindsAt w B A l) (hB : B ≤ B') : KindsAt w B' A l :=
  ⟨RowAt.mono h.1 hB, fun k hk => ⟨RowAt.mono (h.2 k hk).1 hB, (h.2 k hk).2⟩⟩
theorem KindsAt.take {w : World} {B : Nat} {A : Option Addr} {l : List Kd} (h : KindsAt w B A l) (n : Nat) : KindsAt w B A (l.take n) :=
  ⟨RowAt.take h.1 n, fun k hk => h.2 k (List.mem_of_mem_take hk)⟩

/-- A table in memory. -/
structure TabAt (w : World) (B : Nat) (pa ka : Option Addr) (t : Tab) : Prop where
  ps : PropsAt w B pa t.ps
  ks : KindsAt w B ka t.ks
  lp : t.ps.length ≤ 9223372036854775807
  lk : t.ks.length ≤ 9223372036854775807
theorem TabAt.below {w w' : World} {B B' : Nat} {pa ka : Option Addr} {t : Tab} (h : TabAt w B pa ka t) (hb : Below B' w w') (hB : B ≤ B') : TabAt w' B pa ka t := ⟨RowAt.below h.ps hb hB, h.ks.below hb hB, h.lp, h.lk⟩
theorem TabAt.mono {w : World} {B B' : Nat} {pa ka : Option Addr} {t : Tab} (h : TabAt w B pa ka t) (hB : B ≤ B') : TabAt w B' pa ka t := ⟨RowAt.mono h.ps hB, h.ks.mono hB, h.lp, h.lk⟩
/-- .. and behind a call. -/
theorem TabAt.on {w w' : World} {pa ka : Option Addr} {t : Tab} (h : TabAt w w.heap.size pa ka t) (hb : Below w.heap.size w w') : TabAt w' w'.heap.size pa ka t := (h.below hb (Nat.le_refl _)).mono hb.size

theorem below_drewN' {B : Nat} {a w : World} (h : Below B a w) (n : Nat) : Below B a (w.drewN n) := ⟨h.os, h.tape, h.output, h.size, h.block⟩
/-- Two steps, the second one above all that was there. -/
theorem Below.then_ {a b c : World} {B : Nat} (h : Below B a b) (k : Below b.heap.size b c) (hB : B ≤ b.heap.size) : Below B a c := h.trans (k.mono hB)
/-- All that was in a cell is there yet. -/
theorem kept_of {W w' : World} (h : Below W.heap.size W w') : ∀ p v, W.cell? p = some v → w'.cell? p = some v := fun p v hv => by
  refine (h.cell (p := p) ?_).trans hv
  unfold World.cell? at hv
  rcases Nat.lt_or_ge p.block W.heap.size with hlt | hge
  · exact hlt
  · rw [Array.getElem?_eq_none hge] at hv; cases hv
theorem box4 {w w1 : World} {c0 c1 c2 c3 : Value} {T : TypeId} (hb : Below (w.alloc (.cells #[c0, c1, c2, c3] T)).heap.size (w.alloc (.cells #[c0, c1, c2, c3] T)) w1) :
    w1.cell? ⟨w.heap.size, 0, none⟩ = some c0 ∧ w1.cell? ⟨w.heap.size, 1, none⟩ = some c1 ∧ w1.cell? ⟨w.heap.size, 2, none⟩ = some c2 ∧ w1.cell? ⟨w.heap.size, 3, none⟩ = some c3 ∧ Below w.heap.size w w1 ∧ w.heap.size < w1.heap.size := by
  have hk := kept_of hb
  exact ⟨hk _ _ (by simp), hk _ _ (by simp), hk _ _ (by simp), hk _ _ (by simp), ((Below.refl _ w).alloc (Nat.le_refl _) _).trans (hb.mono (by simp)), by have := hb.size; simp at this; omega⟩
theorem box3 {w w1 : World} {c0 c1 c2 : Value} {T : TypeId} (hb : Below (w.alloc (.cells #[c0, c1, c2] T)).heap.size (w.alloc (.cells #[c0, c1, c2] T)) w1) :
    w1.cell? ⟨w.heap.size, 0, none⟩ = some c0 ∧ w1.cell? ⟨w.heap.size, 1, none⟩ = some c1 ∧ w1.cell? ⟨w.heap.size, 2, none⟩ = some c2 ∧ Below w.heap.size w w1 ∧ w.heap.size < w1.heap.size := by
  have hk := kept_of hb
  exact ⟨hk _ _ (by simp), hk _ _ (by simp), hk _ _ (by simp), ((Below.refl _ w).alloc (Nat.le_refl _) _).trans (hb.mono (by simp)), by have := hb.size; simp at this; omega⟩
theorem ret_i64 {a b : Int} (h : a = b) : Ending.returned (.int .i64 a) = .returned (.int .i64 b) := by rw [h]
theorem ret_bool {a b : Bool} (h : a = b) : Ending.returned (.bool a) = .returned (.bool b) := by rw [h]
theorem ret3 {R : Int × Int × Int} {a b c : Int} (h : R = (a, b, c)) : Ending.returned (.tuple #[.int .i64 a, .int .i64 b, .int .i64 c]) = .returned (.tuple #[.int .i64 R.1, .int .i64 R.2.1, .int .i64 R.2.2]) := by subst h; rfl
theorem ret_str {a b : ByteArray} (h : a = b) : Ending.returned (.string a) = .returned (.string b) := by rw [h]
end Go.Proofs.Ytalghiecjhfflaa

namespace Go.Proofs.Ytalghiecjhfflaa
open Go.RowKit

/-- Block g is just these cells, none of them frozen. -/
def Blk (w : World) (g : Nat) (T : TypeId) (cs : Array Value) : Prop := w.heap[g]? = some (.cells cs T (0, 0))
section
variable {w w' : World} {g : Nat} {T : TypeId} {cs : Array Value}
theorem Blk.lt (h : Blk w g T cs) : g < w.heap.size := by
  rcases Nat.lt_or_ge g w.heap.size with hlt | hge
  · exact hlt
  · unfold Blk at h; rw [Array.getElem?_eq_none hge] at h; cases h
theorem Blk.new (w : World) (T : TypeId) (cs : Array Value) : Blk (w.alloc (.cells cs T)) w.heap.size T cs := heap_alloc_new w _
theorem Blk.new1 (w : World) (T : TypeId) (cs : Array Value) (o : Obj) : Blk ((w.alloc o).alloc (.cells cs T)) (w.heap.size + 1) T cs := by simpa using Blk.new (w.alloc o) T cs
theorem Blk.new2 (w : World) (T : TypeId) (cs : Array Value) (o o' : Obj) : Blk (((w.alloc o).alloc o').alloc (.cells cs T)) (w.heap.size + 1 + 1) T cs := by simpa using Blk.new ((w.alloc o).alloc o') T cs
theorem Blk.new3 (w : World) (T : TypeId) (cs : Array Value) (o o' o'' : Obj) : Blk ((((w.alloc o).alloc o').alloc o'').alloc (.cells cs T)) (w.heap.size + 3) T cs := by simpa using Blk.new (((w.alloc o).alloc o').alloc o'') T cs
theorem Blk.new4 (w : World) (T : TypeId) (cs : Array Value) (o o' o'' o3 : Obj) : Blk (((((w.alloc o).alloc o').alloc o'').alloc o3).alloc (.cells cs T)) (w.heap.size + 4) T cs := by simpa using Blk.new ((((w.alloc o).alloc o').alloc o'').alloc o3) T cs
theorem Blk.drew (h : Blk w g T cs) : Blk w.drew g T cs := h
theorem Blk.alloc (h : Blk w g T cs) (o : Obj) : Blk (w.alloc o) g T cs := (Below.heap_alloc w o g h.lt).trans h
theorem Blk.on (h : Blk w g T cs) (hb : Below w.heap.size w w') : Blk w' g T cs := (hb.block g h.lt).trans h
theorem Blk.below {B : Nat} (h : Blk w g T cs) (hb : Below B w w') (hB : g < B) : Blk w' g T cs := (hb.block g hB).trans h
theorem Blk.cell (h : Blk w g T cs) (i : Nat) : w.cell? ⟨g, i, none⟩ = cs[i]? := cell_of_row w g i cs T (0, 0) h
theorem Blk.frozen (h : Blk w g T cs) (i : Nat) : w.frozen? ⟨g, i, none⟩ = false := by
  unfold Blk at h
  simp [World.frozen?, h]
theorem Blk.far (h : Blk w g T cs) {p : Addr} (hp : g ≠ p.block) (u : Value) : Blk (w.setCell p u) g T cs := (Below.heap_setCell w p u g hp).trans h
theorem Blk.set_ (h : Blk w g T cs) (i : Nat) (u : Value) : Blk (w.setCell ⟨g, i, none⟩ u) g T (cs.setIfInBounds i u) := by
  unfold Blk at h ⊢
  simp [World.setCell, Array.getElem?_modify, h]
theorem Blk.one {a : Value} (h : Blk w g T #[a]) : w.cell? ⟨g, 0, none⟩ = some a ∧ w.frozen? ⟨g, 0, none⟩ = false ∧ g < w.heap.size := ⟨h.cell 0, h.frozen 0, h.lt⟩
theorem Blk.two {a b : Value} (h : Blk w g T #[a, b]) : w.cell? ⟨g, 0, none⟩ = some a ∧ w.cell? ⟨g, 1, none⟩ = some b ∧ w.frozen? ⟨g, 0, none⟩ = false ∧ w.frozen? ⟨g, 1, none⟩ = false ∧ g < w.heap.size :=
  ⟨h.cell 0, h.cell 1, h.frozen 0, h.frozen 1, h.lt⟩
theorem Blk.three {a b c : Value} (h : Blk w g T #[a, b, c]) : w.cell? ⟨g, 0, none⟩ = some a ∧ w.cell? ⟨g, 1, none⟩ = some b ∧ w.cell? ⟨g, 2, none⟩ = some c ∧ w.frozen? ⟨g, 0, none⟩ = false ∧ w.frozen? ⟨g, 1, none⟩ = false ∧ w.frozen? ⟨g, 2, none⟩ = false ∧ g < w.heap.size :=
  ⟨h.cell 0, h.cell 1, h.cell 2, h.frozen 0, h.frozen 1, h.frozen 2, h.lt⟩
theorem Blk.four {a b c d : Value} (h : Blk w g T #[a, b, c, d]) : w.cell? ⟨g, 0, none⟩ = some a ∧ w.cell? ⟨g, 1, none⟩ = some b ∧ w.cell? ⟨g, 2, none⟩ = some c ∧ w.cell? ⟨g, 3, none⟩ = some d ∧ w.frozen? ⟨g, 0, none⟩ = false ∧ w.frozen? ⟨g, 1, none⟩ = false ∧ w.frozen? ⟨g, 2, none⟩ = false ∧ w.frozen? ⟨g, 3, none⟩ = false ∧ g < w.heap.size :=
  ⟨h.cell 0, h.cell 1, h.cell 2, h.cell 3, h.frozen 0, h.frozen 1, h.frozen 2, h.frozen 3, h.lt⟩
theorem Blk.set2 {a b : Value} (h : Blk w g T #[a, b]) (u v : Value) : Blk ((w.setCell ⟨g, 0, none⟩ u).setCell ⟨g, 1, none⟩ v) g T #[u, v] := by
  have := (h.set_ 0 u).set_ 1 v
  simpa using this
end
end Go.Proofs.Ytalghiecjhfflaa

namespace Go.Proofs.Ytalghiecjhfflaa

/-- The rest of a name, behind a byte. -/
def nameRest : Nat → List UInt8 → Bool
  | bef, [] => bef != 45
  | bef, c :: cs => if 97 ≤ c.toNat ∧ c.toNat ≤ 122 then nameRest c.toNat cs else if c.toNat = 45 ∧ bef ≠ 45 then nameRest 45 cs else false
def nameB (s : ByteArray) : Bool := decide (s.size ≤ 20) && nameRest 45 s.data.toList
/-- The error of a name among those before it. -/
def nameErr (bef : List ByteArray) (s : ByteArray) : Int := if nameB s then (if bef.any (fun y => y.toList == s.toList) then 5 else 0) else 6
def inB (n lo hi : Int) : Bool := decide (lo ≤ n) && decide (n ≤ hi)
theorem inB_iff {n lo hi : Int} : inB n lo hi = true ↔ lo ≤ n ∧ n ≤ hi := by simp [inB]
theorem inB_t {n lo hi : Int} (h1 : lo ≤ n) (h2 : n ≤ hi) : inB n lo hi = true := by simp [inB, h1, h2]
theorem inB_f {n lo hi : Int} (h : ¬ (lo ≤ n ∧ n ≤ hi)) : inB n lo hi = false := by
  unfold inB
  rw [Bool.and_eq_false_iff, decide_eq_false_iff_not, decide_eq_false_iff_not]
  omega
def emptyB (x : Int × Int) : Bool := decide (x.2 < x.1)
/-- The error of numbers that have to be from a to b. -/
def rangeE (a b : Int) (l : List Int) : Int := if l.all (fun x => inB x a b) = true then 0 else 7
theorem rangeE_cons (a b x : Int) (l : List Int) : rangeE a b (x :: l) = if inB x a b = true then rangeE a b l else 7 := by
  unfold rangeE
  rw [List.all_cons]
  cases inB x a b <;> simp
theorem rangeE_zero {a b : Int} {l : List Int} : rangeE a b l = 0 ↔ ∀ x ∈ l, a ≤ x ∧ x ≤ b := by
  unfold rangeE
  by_cases h : l.all (fun x => inB x a b) = true
  · rw [if_pos h]
    simp only [List.all_eq_true, inB_iff] at h
    simpa using h
  · rw [if_neg h]
    simp only [List.all_eq_true, inB_iff] at h
    simpa using h
def orderE (l : List (Int × Int)) : Int := if l.any emptyB = true then 2 else 0
theorem orderE_zero {l : List (Int × Int)} : orderE l = 0 ↔ ∀ x ∈ l, x.1 ≤ x.2 := by
  unfold orderE
  by_cases h : l.any emptyB = true
  · rw [if_pos h]
    simp only [List.any_eq_true, emptyB, decide_eq_true_eq] at h
    obtain ⟨x, hx, hl⟩ := h
    constructor
    · intro h2; cases h2
    · intro h2; have := h2 x hx; omega
  · rw [if_neg h]
    simp only [List.any_eq_true, emptyB, decide_eq_true_eq] at h
    refine ⟨fun _ x hx => ?_, fun _ => rfl⟩
    by_cases hl : x.1 ≤ x.2
    · exact hl
    · exact absurd ⟨x, hx, by omega⟩ h
/-- The first of some errors. -/
def orE : List Int → Int
  | [] => 0
  | e :: l => if e ≠ 0 then e else orE l
theorem orE_zero : ∀ {l : List Int}, orE l = 0 ↔ ∀ e ∈ l, e = 0
  | [] => by simp [orE]
  | e :: l => by
    unfold orE
    by_cases h : e = 0
    · subst h
      simp [orE_zero]
    · simp [h]
/-- The error of a range, as the reference tells it. -/
def spanErr (x : Int × Int) (a b : Int) : Int := if inB x.1 a b = false ∨ inB x.2 a b = false then 7 else if x.2 < x.1 then 2 else 0
theorem spanErr_or (x : Int × Int) (a b : Int) : spanErr x a b = orE [rangeE a b [x.1, x.2], orderE [x]] := by
  unfold spanErr orderE rangeE
  simp only [List.all_cons, List.all_nil, List.any_cons, List.any_nil, emptyB, Bool.or_false, Bool.and_true, decide_eq_true_eq]
  cases inB x.1 a b <;> cases inB x.2 a b <;> by_cases h : x.2 < x.1 <;> simp [orE, h]

/-- The first number below n at which f is not 0. -/
def firstAt (f : Nat → Int) (n : Nat) : Option (Nat × Int) := ((List.range n).find? fun i => f i != 0).map fun i => (i, f i)
theorem firstAt_hit {f : Nat → Int} {n k : Nat} (h : ∀ i, i < k → f i = 0) (hk : k < n) (hf : f k ≠ 0) : firstAt f n = some (k, f k) := by
  unfold firstAt
  have : (List.range n).find? (fun i => f i != 0) = some k := by
    rw [List.find?_range_eq_some]
    exact ⟨by simp [hf], by simpa using hk, fun j hj => by simp [h j hj]⟩
  rw [this]; rfl
theorem firstAt_none {f : Nat → Int} {n : Nat} (h : ∀ i, i < n → f i = 0) : firstAt f n = none := by
  unfold firstAt
  have : (List.range n).find? (fun i => f i != 0) = none := by
    rw [List.find?_eq_none]
    intro i hi
    simp [h i (by simpa using hi)]
  rw [this]; rfl
theorem firstAt_zero {f : Nat → Int} {n : Nat} (h : firstAt f n = none) : ∀ i, i < n → f i = 0 := by
  intro i hi
  unfold firstAt at h
  rw [Option.map_eq_none_iff, List.find?_eq_none] at h
  have := h i (by simpa using hi)
  simpa using this
theorem firstAt_ne {f : Nat → Int} {n k : Nat} {e : Int} (h : firstAt f n = some (k, e)) : e ≠ 0 := by
  unfold firstAt at h
  rw [Option.map_eq_some_iff] at h
  obtain ⟨j, hj, hh⟩ := h
  cases hh
  have := List.find?_some hj
  simpa using this

/-- A wick, a wax, a shop, a candle; a truth, and how it burns. -/
structure Wk where
  nm : ByteArray
  th : Int
  plo : Int
  phi : Int
structure Wx where
  nm : ByteArray
  flo : Int
  fhi : Int
  rlo : Int
  rhi : Int
  slo : Int
  shi : Int
  ch : Int
structure Sh where
  ks : List Wk
  xs : List Wx
  flo : Int
  fhi : Int
  plo : Int
  phi : Int
structure Cd where
  wax : Int
  dia : Int
  dra : Int
  clo : Int
  chi : Int
structure Tu where
  pull : Int
  flow : Int
  rise : Int
  spr : Int
  dra : Int
  cold : Int
structure Bn where
  rate : Int
  flame : Int
  pool : Int

/-- The error of a wick, of a wax, of a shop. -/
def wickE (l : List Wk) (i : Nat) : Int := match l[i]? with
  | some x => orE [nameErr ((l.take i).map Wk.nm) x.nm, rangeE 1 100 [x.th], rangeE 1 1000 [x.plo, x.phi], orderE [(x.plo, x.phi)]]
  | none => 0
def waxE (l : List Wx) (i : Nat) : Int := match l[i]? with
  | some x => orE [nameErr ((l.take i).map Wx.nm) x.nm, rangeE 0 50 [x.ch], rangeE 1 300 [x.flo, x.fhi], rangeE 1 1000 [x.rlo, x.rhi], rangeE 1 2000 [x.slo, x.shi], orderE [(x.flo, x.fhi), (x.rlo, x.rhi), (x.slo, x.shi)]]
  | none => 0
def boundE (s : Sh) : Int := if inB s.ks.length 1 12 = true ∧ inB s.xs.length 1 6 = true then orE [rangeE 0 2000 [s.flo, s.fhi, s.plo, s.phi], orderE [(s.flo, s.fhi), (s.plo, s.phi)]] else 3
def checkOf (b : Int) (k x : Option (Nat × Int)) : Int × Int × Int := if b ≠ 0 then (1, 0, b) else match k with
  | some (i, e) => (2, i, e)
  | none => match x with
    | some (i, e) => (3, i, e)
    | none => (0, 0, 0)
def checkS (s : Sh) : Int × Int × Int := checkOf (boundE s) (firstAt (wickE s.ks) s.ks.length) (firstAt (waxE s.xs) s.xs.length)
def shopE (s : Sh) : Int := (checkS s).2.2
def idxE (n : Nat) (i : Int) : Int := if inB i 0 (n - 1) = true then 0 else 4
def candE (s : Sh) (c : Cd) : Int := orE [idxE s.xs.length c.wax, rangeE 1 2000 [c.dia], rangeE 0 90 [c.dra], rangeE 0 300 [c.clo, c.chi], orderE [(c.clo, c.chi)]]
def askE (s : Sh) (k : Int) (c : Cd) : Int := orE [shopE s, idxE s.ks.length k, candE s c]

/-- A valid wick, wax, shop, candle. -/
structure WkOk (x : Wk) : Prop where
  th : 1 ≤ x.th ∧ x.th ≤ 100
  p : 1 ≤ x.plo ∧ x.plo ≤ x.phi ∧ x.phi ≤ 1000
structure WxOk (x : Wx) : Prop where
  ch : 0 ≤ x.ch ∧ x.ch ≤ 50
  f : 1 ≤ x.flo ∧ x.flo ≤ x.fhi ∧ x.fhi ≤ 300
  r : 1 ≤ x.rlo ∧ x.rlo ≤ x.rhi ∧ x.rhi ≤ 1000
  s : 1 ≤ x.slo ∧ x.slo ≤ x.shi ∧ x.shi ≤ 2000
structure ShOk (s : Sh) : Prop where
  nk : 1 ≤ s.ks.length ∧ s.ks.length ≤ 12
  nx : 1 ≤ s.xs.length ∧ s.xs.length ≤ 6
  fl : 0 ≤ s.flo ∧ s.flo ≤ s.fhi ∧ s.fhi ≤ 2000
  po : 0 ≤ s.plo ∧ s.plo ≤ s.phi ∧ s.phi ≤ 2000
  ks : ∀ x ∈ s.ks, WkOk x
  xs : ∀ x ∈ s.xs, WxOk x
structure CdOk (s : Sh) (c : Cd) : Prop where
  wax : 0 ≤ c.wax ∧ c.wax < s.xs.length
  dia : 1 ≤ c.dia ∧ c.dia ≤ 2000
  dra : 0 ≤ c.dra ∧ c.dra ≤ 90
  cold : 0 ≤ c.clo ∧ c.clo ≤ c.chi ∧ c.chi ≤ 300
theorem shopE_ok {s : Sh} (h : shopE s = 0) : ShOk s := by
  unfold shopE checkS checkOf at h
  by_cases hb : boundE s = 0
  · rw [if_neg (by simpa using hb)] at h
    cases h1 : firstAt (wickE s.ks) s.ks.length with
    | some x => rw [h1] at h; exact absurd h (firstAt_ne h1)
    | none =>
      rw [h1] at h
      cases h2 : firstAt (waxE s.xs) s.xs.length with
      | some x => rw [h2] at h; exact absurd h (firstAt_ne h2)
      | none =>
        unfold boundE at hb
        split at hb
        · rename_i hn
          rw [orE_zero] at hb
          have e1 := rangeE_zero.1 (hb (rangeE 0 2000 [s.flo, s.fhi, s.plo, s.phi]) (by simp))
          have e2 := orderE_zero.1 (hb (orderE [(s.flo, s.fhi), (s.plo, s.phi)]) (by simp))
          simp only [List.mem_cons, List.not_mem_nil, or_false, forall_eq_or_imp, forall_eq, inB_iff] at e1 e2 hn
          refine ⟨by omega, by omega, by omega, by omega, fun x hx => ?_, fun x hx => ?_⟩
          · obtain ⟨i, hi, rfl⟩ := List.getElem_of_mem hx
            have h3 := firstAt_zero h1 i hi
            simp only [wickE, List.getElem?_eq_getElem hi] at h3
            rw [orE_zero] at h3
            simp only [List.mem_cons, List.not_mem_nil, or_false, forall_eq_or_imp, forall_eq, rangeE_zero, orderE_zero] at h3
            exact ⟨by omega, by omega⟩
          · obtain ⟨i, hi, rfl⟩ := List.getElem_of_mem hx
            have h3 := firstAt_zero h2 i hi
            simp only [waxE, List.getElem?_eq_getElem hi] at h3
            rw [orE_zero] at h3
            simp only [List.mem_cons, List.not_mem_nil, or_false, forall_eq_or_imp, forall_eq, rangeE_zero, orderE_zero] at h3
            exact ⟨by omega, by omega, by omega, by omega⟩
        · simp at hb
  · rw [if_pos hb] at h
    exact absurd h hb
theorem idxE_zero {n : Nat} {i : Int} : idxE n i = 0 ↔ 0 ≤ i ∧ i < n := by
  unfold idxE
  by_cases h : inB i 0 (n - 1) = true
  · rw [if_pos h]; rw [inB_iff] at h; omega
  · rw [if_neg h]; rw [inB_iff] at h; omega
theorem candE_zero {s : Sh} {c : Cd} : candE s c = 0 ↔ CdOk s c := by
  unfold candE
  rw [orE_zero]
  simp only [List.mem_cons, List.not_mem_nil, or_false, forall_eq_or_imp, forall_eq, rangeE_zero, orderE_zero, idxE_zero]
  constructor
  · intro h; exact ⟨by omega, by omega, by omega, by omega⟩
  · intro h
    have h1 := h.wax; have h2 := h.dia; have h3 := h.dra; have h4 := h.cold
    omega
theorem askE_zero {s : Sh} {k : Int} {c : Cd} : askE s k c = 0 ↔ shopE s = 0 ∧ (0 ≤ k ∧ k < s.ks.length) ∧ candE s c = 0 := by
  unfold askE
  rw [orE_zero]
  simp only [List.mem_cons, List.not_mem_nil, or_false, forall_eq_or_imp, forall_eq, idxE_zero]

/-- The truths at the ends, and how a candle burns in a truth. -/
def weakT (k : Wk) (x : Wx) (c : Cd) : Tu := ⟨k.plo, x.flo, x.rlo, x.slo, -c.dra, c.chi⟩
def strongT (k : Wk) (x : Wx) (c : Cd) : Tu := ⟨k.phi, x.fhi, x.rhi, x.shi, c.dra, c.clo⟩
def drawn (t : Tu) : Int := t.pull * t.flow * (100 + t.dra)
def burn (x : Wx) (t : Tu) : Bn := ⟨drawn t * 100, drawn t * t.rise, drawn t * t.spr - t.cold * x.ch * 100000⟩
/-- A truth of a candle with a wick. -/
structure TuOk (k : Wk) (x : Wx) (c : Cd) (t : Tu) : Prop where
  pull : k.plo ≤ t.pull ∧ t.pull ≤ k.phi
  flow : x.flo ≤ t.flow ∧ t.flow ≤ x.fhi
  rise : x.rlo ≤ t.rise ∧ t.rise ≤ x.rhi
  spr : x.slo ≤ t.spr ∧ t.spr ≤ x.shi
  dra : -c.dra ≤ t.dra ∧ t.dra ≤ c.dra
  cold : c.clo ≤ t.cold ∧ t.cold ≤ c.chi
def tuB (k : Wk) (x : Wx) (c : Cd) (t : Tu) : Bool := inB t.pull k.plo k.phi && inB t.flow x.flo x.fhi && inB t.rise x.rlo x.rhi && inB t.spr x.slo x.shi && inB t.dra (-c.dra) c.dra && inB t.cold c.clo c.chi
theorem tuB_iff {k : Wk} {x : Wx} {c : Cd} {t : Tu} : tuB k x c t = true ↔ TuOk k x c t := by
  unfold tuB
  simp only [Bool.and_eq_true, inB_iff]
  constructor
  · rintro ⟨⟨⟨⟨⟨h1, h2⟩, h3⟩, h4⟩, h5⟩, h6⟩; exact ⟨h1, h2, h3, h4, h5, h6⟩
  · intro h; exact ⟨⟨⟨⟨⟨h.pull, h.flow⟩, h.rise⟩, h.spr⟩, h.dra⟩, h.cold⟩
/-- The numbers of a truth are as great as a program's words hold. -/
structure TuIn (t : Tu) : Prop where
  pull : 1 ≤ t.pull ∧ t.pull ≤ 1000
  flow : 1 ≤ t.flow ∧ t.flow ≤ 300
  rise : 1 ≤ t.rise ∧ t.rise ≤ 1000
  spr : 1 ≤ t.spr ∧ t.spr ≤ 2000
  dra : -90 ≤ t.dra ∧ t.dra ≤ 90
  cold : 0 ≤ t.cold ∧ t.cold ≤ 300
section
variable {s : Sh} {k : Wk} {x : Wx} {c : Cd} {t u : Tu}
theorem TuOk.in_ (h : TuOk k x c t) (hk : WkOk k) (hx : WxOk x) (hc : CdOk s c) : TuIn t := by
  have a1 := h.pull; have a2 := h.flow; have a3 := h.rise; have a4 := h.spr; have a5 := h.dra; have a6 := h.cold
  have b1 := hk.p; have b2 := hx.f; have b3 := hx.r; have b4 := hx.s; have b5 := hc.dra; have b6 := hc.cold
  exact ⟨by omega, by omega, by omega, by omega, by omega, by omega⟩
theorem weak_ok (hk : WkOk k) (hx : WxOk x) (hc : CdOk s c) : TuOk k x c (weakT k x c) := by
  have b1 := hk.p; have b2 := hx.f; have b3 := hx.r; have b4 := hx.s; have b5 := hc.dra; have b6 := hc.cold
  exact ⟨⟨Int.le_refl _, b1.2.1⟩, ⟨Int.le_refl _, b2.2.1⟩, ⟨Int.le_refl _, b3.2.1⟩, ⟨Int.le_refl _, b4.2.1⟩, ⟨Int.le_refl _, by show -c.dra ≤ c.dra; omega⟩, ⟨b6.2.1, Int.le_refl _⟩⟩
theorem strong_ok (hk : WkOk k) (hx : WxOk x) (hc : CdOk s c) : TuOk k x c (strongT k x c) := by
  have b1 := hk.p; have b2 := hx.f; have b3 := hx.r; have b4 := hx.s; have b5 := hc.dra; have b6 := hc.cold
  exact ⟨⟨b1.2.1, Int.le_refl _⟩, ⟨b2.2.1, Int.le_refl _⟩, ⟨b3.2.1, Int.le_refl _⟩, ⟨b4.2.1, Int.le_refl _⟩, ⟨by show -c.dra ≤ c.dra; omega, Int.le_refl _⟩, ⟨Int.le_refl _, b6.2.1⟩⟩
theorem drawn_mono (h1 : 0 ≤ t.pull) (h2 : 0 ≤ t.flow) (h3 : 0 ≤ 100 + t.dra) (e1 : t.pull ≤ u.pull) (e2 : t.flow ≤ u.flow) (e3 : t.dra ≤ u.dra) : drawn t ≤ drawn u := by
  unfold drawn
  have a : t.pull * t.flow ≤ u.pull * u.flow := Int.mul_le_mul e1 e2 h2 (by omega)
  exact Int.mul_le_mul a (by omega) h3 (Int.mul_nonneg (by omega) (by omega))
theorem drawn_in (h : TuIn t) : 10 ≤ drawn t ∧ drawn t ≤ 57000000 ∧ 1 ≤ t.pull * t.flow ∧ t.pull * t.flow ≤ 300000 := by
  have a1 := h.pull; have a2 := h.flow; have a5 := h.dra
  have p1 : 1 * 1 ≤ t.pull * t.flow := Int.mul_le_mul a1.1 a2.1 (by omega) (by omega)
  have p2 : t.pull * t.flow ≤ 1000 * 300 := Int.mul_le_mul a1.2 a2.2 (by omega) (by omega)
  have q1 : 1 * 10 ≤ t.pull * t.flow * (100 + t.dra) := Int.mul_le_mul (by omega) (by omega) (by omega) (by omega)
  have q2 : t.pull * t.flow * (100 + t.dra) ≤ 300000 * 190 := Int.mul_le_mul (by omega) (by omega) (by omega) (by omega)
  unfold drawn
  omega
theorem burn_mono (hx : 0 ≤ x.ch) (h : TuIn t) (_h' : TuIn u) (e1 : t.pull ≤ u.pull) (e2 : t.flow ≤ u.flow) (e3 : t.dra ≤ u.dra) (e4 : t.rise ≤ u.rise) (e5 : t.spr ≤ u.spr) (e6 : u.cold ≤ t.cold) :
    (burn x t).rate ≤ (burn x u).rate ∧ (burn x t).flame ≤ (burn x u).flame ∧ (burn x t).pool ≤ (burn x u).pool := by
  have d := drawn_mono (t := t) (u := u) (by have := h.pull; omega) (by have := h.flow; omega) (by have := h.dra; omega) e1 e2 e3
  have d1 := (drawn_in h).1
  have r := h.rise; have s := h.spr
  have f1 : drawn t * t.rise ≤ drawn u * u.rise := Int.mul_le_mul d e4 (by omega) (by omega)
  have f2 : drawn t * t.spr ≤ drawn u * u.spr := Int.mul_le_mul d e5 (by omega) (by omega)
  have f3 : u.cold * x.ch ≤ t.cold * x.ch := Int.mul_le_mul_of_nonneg_right e6 hx
  simp only [burn]
  omega
theorem burn_weak (hk : WkOk k) (hx : WxOk x) (hc : CdOk s c) (h : TuOk k x c t) : (burn x (weakT k x c)).rate ≤ (burn x t).rate ∧ (burn x (weakT k x c)).flame ≤ (burn x t).flame ∧ (burn x (weakT k x c)).pool ≤ (burn x t).pool :=
  burn_mono hx.ch.1 ((weak_ok hk hx hc).in_ hk hx hc) (h.in_ hk hx hc) h.pull.1 h.flow.1 h.dra.1 h.rise.1 h.spr.1 h.cold.2
theorem burn_strong (hk : WkOk k) (hx : WxOk x) (hc : CdOk s c) (h : TuOk k x c t) : (burn x t).rate ≤ (burn x (strongT k x c)).rate ∧ (burn x t).flame ≤ (burn x (strongT k x c)).flame ∧ (burn x t).pool ≤ (burn x (strongT k x c)).pool :=
  burn_mono hx.ch.1 (h.in_ hk hx hc) ((strong_ok hk hx hc).in_ hk hx hc) h.pull.2 h.flow.2 h.dra.2 h.rise.2 h.spr.2 h.cold.1
/-- How great what burns is. -/
structure BnIn (b : Bn) : Prop where
  rate : 1000 ≤ b.rate ∧ b.rate ≤ 5700000000
  flame : 10 ≤ b.flame ∧ b.flame ≤ 57000000000
  pool : -1500000000 ≤ b.pool ∧ b.pool ≤ 114000000000
theorem burn_in (h : TuIn t) (hx : WxOk x) : BnIn (burn x t) := by
  have d := drawn_in h
  have r := h.rise; have s := h.spr; have cc := h.cold; have ch := hx.ch
  have f1 : 10 * 1 ≤ drawn t * t.rise := Int.mul_le_mul d.1 r.1 (by omega) (by omega)
  have f2 : drawn t * t.rise ≤ 57000000 * 1000 := Int.mul_le_mul d.2.1 r.2 (by omega) (by omega)
  have f3 : 10 * 1 ≤ drawn t * t.spr := Int.mul_le_mul d.1 s.1 (by omega) (by omega)
  have f4 : drawn t * t.spr ≤ 57000000 * 2000 := Int.mul_le_mul d.2.1 s.2 (by omega) (by omega)
  have f5 : 0 ≤ t.cold * x.ch := Int.mul_nonneg cc.1 ch.1
  have f6 : t.cold * x.ch ≤ 300 * 50 := Int.mul_le_mul cc.2 ch.2 ch.1 (by omega)
  refine ⟨?_, ?_, ?_⟩ <;> simp only [burn] <;> omega
end
end Go.Proofs.Ytalghiecjhfflaa

namespace Go.Proofs.Ytalghiecjhfflaa
open Go.RowKit Go.Shelf

theorem infoInt : (Try.prog.info? 3).map (fun i => (i.zero, i.size, i.bytes)) = some (some (.int .i64 0), 1, 8) := by kernel_rfl
theorem infoSp : (Try.prog.info? 36).map (fun i => (i.zero, i.size, i.bytes)) = some (some (.agg #[.int .i64 0, .int .i64 0]), 2, 16) := by kernel_rfl
/-- A slice of ints that comes in. -/
structure IntsIn (w : World) (ra : Option Addr) (l : List Int) : Prop where
  at_ : IntsAt w w.heap.size ra l
  len : l.length ≤ 9223372036854775807
theorem IntsIn.on {w w' : World} {ra : Option Addr} {l : List Int} (h : IntsIn w ra l) (hb : Below w.heap.size w w') : IntsIn w' ra l := ⟨(RowAt.below h.at_ hb (Nat.le_refl _)).mono hb.size, h.len⟩
structure SpansIn (w : World) (ra : Option Addr) (l : List (Int × Int)) : Prop where
  at_ : SpansAt w w.heap.size ra l
  len : l.length ≤ 9223372036854775807
theorem SpansIn.on {w w' : World} {ra : Option Addr} {l : List (Int × Int)} (h : SpansIn w ra l) (hb : Below w.heap.size w w') : SpansIn w' ra l := ⟨(RowAt.below h.at_ hb (Nat.le_refl _)).mono hb.size, h.len⟩
/-- Slices that a call made. -/
def IntsOut (B : Nat) (w' : World) (v : Value) (l : List Int) : Prop := w'.ownsRow B 3 1 v l.length (l.map (Value.int .i64))
def spanCells (l : List (Int × Int)) : List Value := l.flatMap fun p => [.int .i64 p.1, .int .i64 p.2]
def SpansOut (B : Nat) (w' : World) (v : Value) (l : List (Int × Int)) : Prop := w'.ownsRow B 36 2 v l.length (spanCells l)
theorem own_below {base : Nat} {e : TypeId} {size n : Nat} {v : Value} {xs : List Value} {w w' : World} (h : w.ownsRow base e size v n xs) (hb : Below w.heap.size w w') : w'.ownsRow base e size v n xs := by
  refine ⟨h.1, ?_⟩
  rcases h.2 with h2 | ⟨g, cap, cur, hv, hg, hh, r⟩
  · exact .inl h2
  · refine .inr ⟨g, cap, cur, hv, hg, (hb.block g ?_).trans hh, r⟩
    rcases Nat.lt_or_ge g w.heap.size with hlt | hge
    · exact hlt
    · rw [Array.getElem?_eq_none hge] at hh; cases hh
theorem own_base {B B' : Nat} {e : TypeId} {size n : Nat} {v : Value} {xs : List Value} {w : World} (h : w.ownsRow B e size v n xs) (hB : B' ≤ B) : w.ownsRow B' e size v n xs := by
  refine ⟨h.1, ?_⟩
  rcases h.2 with h2 | ⟨g, cap, cur, hv, hg, r⟩
  · exact .inl h2
  · exact .inr ⟨g, cap, cur, hv, by omega, r⟩
theorem own_slice {B n : Nat} {e : TypeId} {sz : Nat} {w : World} {v : Value} {xs : List Value} (h : w.ownsRow B e sz v n xs) : ∃ A c, v = .slice A n c := by
  rcases h.2 with ⟨hv, h0⟩ | ⟨g, cap, cur, hv, _⟩
  · exact ⟨_, _, by rw [hv, h0]⟩
  · exact ⟨_, _, hv⟩
theorem own_rowAt {α : Type} {e : TypeId} {sz B n c : Nat} {enc : α → Nat → Value} {w : World} {A : Option Addr} {l : List α} {xs : List Value} (h : w.ownsRow B e sz (.slice A n c) l.length xs)
    (hx : ∀ i x, l[i]? = some x → ∀ j, j < sz → xs[i * sz + j]? = some (enc x j)) : n = l.length ∧ RowAt sz enc w w.heap.size A l ∧ l.length ≤ c ∧ l.length ≤ maxLen := by
  rcases h.2 with ⟨hv, h0⟩ | ⟨g, cap, cur, hv, hg, hh, hle, hcap, hsz, hxs⟩
  · cases hv
    exact ⟨h0.symm, fun hl => by omega, by omega, by omega⟩
  · cases hv
    have hlt : g < w.heap.size := by
      rcases Nat.lt_or_ge g w.heap.size with h' | h'
      · exact h'
      · rw [Array.getElem?_eq_none h'] at hh; cases hh
    refine ⟨rfl, fun hl => ⟨g, 0, rfl, hlt, fun i x hi j hj => ?_⟩, hle, by omega⟩
    have h1 := hx i x hi j hj
    rw [← hxs, List.getElem?_take] at h1
    split at h1
    · rw [Array.getElem?_toList] at h1
      simp [World.cell?, hh, h1]
    · cases h1
theorem flat_two {α : Type} (f g : α → Value) : ∀ (l : List α) (i : Nat) (x : α), l[i]? = some x → (l.flatMap fun x => [f x, g x])[i * 2]? = some (f x) ∧ (l.flatMap fun x => [f x, g x])[i * 2 + 1]? = some (g x)
  | [], i, x, h => by simp at h
  | y :: l, 0, x, h => by simp at h; subst h; simp
  | y :: l, i + 1, x, h => by
    have := flat_two f g l i x (by simpa using h)
    simp only [List.flatMap_cons, List.cons_append, List.nil_append]
    rw [show (i + 1) * 2 = i * 2 + 1 + 1 by omega, show i * 2 + 1 + 1 + 1 = (i * 2 + 1) + 1 + 1 by omega]
    simpa using this
theorem pair_cells {α : Type} {enc : α → Nat → Value} {l : List α} {f g : α → Value} (h0 : ∀ x, enc x 0 = f x) (h1 : ∀ x, enc x 1 = g x) : ∀ i x, l[i]? = some x → ∀ j, j < 2 → (l.flatMap fun x => [f x, g x])[i * 2 + j]? = some (enc x j) := by
  intro i x hi j hj
  obtain ⟨a, b⟩ := flat_two f g l i x hi
  match j, hj with
  | 0, _ => rw [h0]; exact a
  | 1, _ => rw [h1]; exact b
theorem SpansOut.reads {B n c : Nat} {w : World} {A : Option Addr} {l : List (Int × Int)} (h : SpansOut B w (.slice A n c) l) : n = l.length ∧ SpansAt w w.heap.size A l ∧ l.length ≤ c ∧ l.length ≤ maxLen :=
  own_rowAt (enc := encS) h (pair_cells (fun _ => rfl) (fun _ => rfl))
theorem IntsOut.reads {B n c : Nat} {w : World} {A : Option Addr} {l : List Int} (h : IntsOut B w (.slice A n c) l) : n = l.length ∧ IntsAt w w.heap.size A l ∧ l.length ≤ c ∧ l.length ≤ maxLen :=
  own_rowAt (enc := encI) h (fun i x hi j hj => by
    obtain rfl : j = 0 := by omega
    rw [Nat.mul_one, Nat.add_zero, List.getElem?_map, hi]; rfl)
/-- A list that a call made, as one that comes in. -/
theorem IntsOut.in_ {B : Nat} {w : World} {v : Value} {l : List Int} (h : IntsOut B w v l) : ∃ A c, v = .slice A l.length c ∧ IntsIn w A l := by
  obtain ⟨A, c, rfl⟩ := own_slice h
  obtain ⟨_, h2, h3, h4⟩ := h.reads
  exact ⟨A, c, rfl, h2, by unfold maxLen at h4; omega⟩
theorem SpansOut.in_ {B : Nat} {w : World} {v : Value} {l : List (Int × Int)} (h : SpansOut B w v l) : ∃ A c, v = .slice A l.length c ∧ SpansIn w A l := by
  obtain ⟨A, c, rfl⟩ := own_slice h
  obtain ⟨_, h2, h3, h4⟩ := h.reads
  exact ⟨A, c, rfl, h2, by unfold maxLen at h4; omega⟩
theorem IntsOut.nil (B : Nat) (w : World) : IntsOut B w (.slice none 0 0) [] := World.ownsRow_nil _ _ _ _
theorem SpansOut.nil (B : Nat) (w : World) : SpansOut B w (.slice none 0 0) [] := World.ownsRow_nil _ _ _ _
theorem IntsIn.nil (w : World) (A : Option Addr) : IntsIn w A [] := ⟨RowAt.nil, by simp⟩
theorem new_two (w : World) (u v : Value) (T : TypeId) (g : Nat) (hg : g = w.heap.size) : (w.alloc (.cells #[u, v] T)).heap[g]? = some (.cells #[u, v] T (0, 0)) := by subst hg; exact heap_alloc_new w _
theorem meas_one {n k : Nat} (h : k < n) : n - (intOf (Value.int .i64 ((k : Int) + 1))).toNat < n - (intOf (Value.int .i64 (k : Int))).toNat := by
  have h4 : ((k : Int) + 1).toNat = k + 1 := by omega
  simp only [intOf, h4, Int.toNat_natCast]
  omega
/-- These cells hold these values. -/
structure Held (cs : List (Nat × Nat × Value)) (W : World) : Prop where
  at_ : ∀ c ∈ cs, c.1 < W.heap.size ∧ W.cell? ⟨c.1, c.2.1, none⟩ = some c.2.2
theorem Held.on {cs : List (Nat × Nat × Value)} {W W' : World} (h : Held cs W) (hb : Below W.heap.size W W') : Held cs W' :=
  ⟨fun c hc => ⟨Nat.lt_of_lt_of_le (h.at_ c hc).1 hb.size, (hb.cell (p := ⟨c.1, c.2.1, none⟩) (h.at_ c hc).1).trans (h.at_ c hc).2⟩⟩
theorem Held.nil (W : World) : Held [] W := ⟨fun _ h => by cases h⟩
theorem Held.cons {cs : List (Nat × Nat × Value)} {W : World} {b o : Nat} {v : Value} (hb : b < W.heap.size) (hc : W.cell? ⟨b, o, none⟩ = some v) (h : Held cs W) : Held ((b, o, v) :: cs) W :=
  ⟨fun c hm => by
    rcases List.mem_cons.1 hm with rfl | hm
    · exact ⟨hb, hc⟩
    · exact h.at_ c hm⟩
/-- The cells, one by one, and all of them again. -/
def heldP (W : World) (P : Prop) : List (Nat × Nat × Value) → Prop
  | [] => P
  | c :: cs => W.cell? ⟨c.1, c.2.1, none⟩ = some c.2.2 ∧ heldP W P cs
theorem heldP_of {W : World} {P : Prop} (hP : P) : ∀ (cs : List (Nat × Nat × Value)), (∀ c ∈ cs, W.cell? ⟨c.1, c.2.1, none⟩ = some c.2.2) → heldP W P cs
  | [], _ => hP
  | c :: cs, h => ⟨h c (by simp), heldP_of hP cs fun d hd => h d (by simp [hd])⟩
/-- .. behind what was there at the start. -/
structure HeldB (w : World) (cs : List (Nat × Nat × Value)) (W : World) : Prop where
  held : Held cs W
  b : Below w.heap.size w W
theorem HeldB.on {w W W' : World} {cs : List (Nat × Nat × Value)} (h : HeldB w cs W) (hb : Below W.heap.size W W') : HeldB w cs W' := ⟨h.held.on hb, h.b.trans (hb.mono h.b.size)⟩
theorem HeldB.alloc {w W : World} {cs : List (Nat × Nat × Value)} (h : HeldB w cs W) (o : Obj) : HeldB w cs (W.alloc o) := h.on ((Below.refl _ W).alloc (Nat.le_refl _) _)
theorem HeldB.drew {w W : World} {cs : List (Nat × Nat × Value)} (h : HeldB w cs W) : HeldB w cs W.drew := h.on (Below.refl _ W).drew
theorem HeldB.all {w W : World} {cs : List (Nat × Nat × Value)} (h : HeldB w cs W) : heldP W (HeldB w cs W) cs := heldP_of h cs fun c hc => (h.held.at_ c hc).2
/-- A block of ints, of ranges, as a slice. -/
theorem ints_blk {W : World} {g : Nat} {T : TypeId} {cs : Array Value} {l : List Int} (h : Blk W g T cs) (hc : cs = (l.map (Value.int .i64)).toArray) (hl : l.length ≤ 9223372036854775807) : IntsIn W (some ⟨g, 0, none⟩) l :=
  ⟨fun _ => ⟨g, 0, rfl, h.lt, fun i x hi j hj => by
    obtain rfl : j = 0 := by omega
    rw [Nat.mul_one, Nat.zero_add, Nat.add_zero, h.cell, hc]
    simp [hi, encI]⟩, hl⟩
theorem spans_blk {W : World} {g : Nat} {T : TypeId} {cs : Array Value} {l : List (Int × Int)} (h : Blk W g T cs) (hc : cs = (spanCells l).toArray) (hl : l.length ≤ 9223372036854775807) : SpansIn W (some ⟨g, 0, none⟩) l :=
  ⟨fun _ => ⟨g, 0, rfl, h.lt, fun i x hi j hj => by
    rw [h.cell, Nat.zero_add, hc]
    have := pair_cells (enc := encS) (f := fun p : Int × Int => .int .i64 p.1) (g := fun p => .int .i64 p.2) (fun _ => rfl) (fun _ => rfl) i x hi j hj
    simpa [spanCells] using this⟩, hl⟩
def encWk (x : Wk) (j : Nat) : Value := if j = 0 then .string x.nm else if j = 1 then .int .i64 x.th else if j = 2 then .int .i64 x.plo else .int .i64 x.phi
def encWx (x : Wx) (j : Nat) : Value := if j = 0 then .string x.nm else if j = 1 then .int .i64 x.flo else if j = 2 then .int .i64 x.fhi else if j = 3 then .int .i64 x.rlo else if j = 4 then .int .i64 x.rhi else if j = 5 then .int .i64 x.slo else if j = 6 then .int .i64 x.shi else .int .i64 x.ch
abbrev WksAt := RowAt 4 encWk
abbrev WxsAt := RowAt 8 encWx
theorem wks_at {w : World} {B : Nat} {A : Option Addr} {l : List Wk} (h : WksAt w B A l) {i : Nat} {x : Wk} (hi : l[i]? = some x) :
    ∃ b o, A = some ⟨b, o, none⟩ ∧ b < B ∧ w.cell? ⟨b, o + i * 4, none⟩ = some (.string x.nm) ∧ w.cell? ⟨b, o + i * 4 + 1, none⟩ = some (.int .i64 x.th) ∧ w.cell? ⟨b, o + i * 4 + 2, none⟩ = some (.int .i64 x.plo) ∧ w.cell? ⟨b, o + i * 4 + 3, none⟩ = some (.int .i64 x.phi) := by
  obtain ⟨b, o, e, hb, hc⟩ := h (by have := (List.getElem?_eq_some_iff.1 hi).1; omega)
  exact ⟨b, o, e, hb, hc i x hi 0 (by omega), hc i x hi 1 (by omega), hc i x hi 2 (by omega), hc i x hi 3 (by omega)⟩
theorem wxs_at {w : World} {B : Nat} {A : Option Addr} {l : List Wx} (h : WxsAt w B A l) {i : Nat} {x : Wx} (hi : l[i]? = some x) :
    ∃ b o, A = some ⟨b, o, none⟩ ∧ b < B ∧ w.cell? ⟨b, o + i * 8, none⟩ = some (.string x.nm) ∧ w.cell? ⟨b, o + i * 8 + 1, none⟩ = some (.int .i64 x.flo) ∧ w.cell? ⟨b, o + i * 8 + 2, none⟩ = some (.int .i64 x.fhi) ∧ w.cell? ⟨b, o + i * 8 + 3, none⟩ = some (.int .i64 x.rlo) ∧ w.cell? ⟨b, o + i * 8 + 4, none⟩ = some (.int .i64 x.rhi) ∧ w.cell? ⟨b, o + i * 8 + 5, none⟩ = some (.int .i64 x.slo) ∧ w.cell? ⟨b, o + i * 8 + 6, none⟩ = some (.int .i64 x.shi) ∧ w.cell? ⟨b, o + i * 8 + 7, none⟩ = some (.int .i64 x.ch) := by
  obtain ⟨b, o, e, hb, hc⟩ := h (by have := (List.getElem?_eq_some_iff.1 hi).1; omega)
  exact ⟨b, o, e, hb, hc i x hi 0 (by omega), hc i x hi 1 (by omega), hc i x hi 2 (by omega), hc i x hi 3 (by omega), hc i x hi 4 (by omega), hc i x hi 5 (by omega), hc i x hi 6 (by omega), hc i x hi 7 (by omega)⟩
/-- A shop, and where its lists lie. -/
structure Sp where
  s : Sh
  ka : Option Addr
  kc : Nat
  xa : Option Addr
  xc : Nat
/-- A list of wicks, of waxes that comes in. -/
structure WksIn (w : World) (A : Option Addr) (c : Nat) (l : List Wk) : Prop where
  at_ : WksAt w w.heap.size A l
  len : l.length ≤ 9223372036854775807
  cap : l.length ≤ c
  nm : ∀ x ∈ l, x.nm.size ≤ 9223372036854775807
structure WxsIn (w : World) (A : Option Addr) (c : Nat) (l : List Wx) : Prop where
  at_ : WxsAt w w.heap.size A l
  len : l.length ≤ 9223372036854775807
  cap : l.length ≤ c
  nm : ∀ x ∈ l, x.nm.size ≤ 9223372036854775807
theorem WksIn.on {w w' : World} {A : Option Addr} {c : Nat} {l : List Wk} (h : WksIn w A c l) (hb : Below w.heap.size w w') : WksIn w' A c l := ⟨(RowAt.below h.at_ hb (Nat.le_refl _)).mono hb.size, h.len, h.cap, h.nm⟩
theorem WxsIn.on {w w' : World} {A : Option Addr} {c : Nat} {l : List Wx} (h : WxsIn w A c l) (hb : Below w.heap.size w w') : WxsIn w' A c l := ⟨(RowAt.below h.at_ hb (Nat.le_refl _)).mono hb.size, h.len, h.cap, h.nm⟩
structure ShIn (w : World) (p : Sp) : Prop where
  ks : WksIn w p.ka p.kc p.s.ks
  xs : WxsIn w p.xa p.xc p.s.xs
theorem ShIn.on {w w' : World} {p : Sp} (h : ShIn w p) (hb : Below w.heap.size w w') : ShIn w' p := ⟨h.ks.on hb, h.xs.on hb⟩
end Go.Proofs.Ytalghiecjhfflaa

namespace Go.Proofs.Ytalghiecjhfflaa
open Go.RowKit Go.Shelf

/-- The operations that an operation waits for. -/
def waits (md : Region.Mode) (ops : Array Oper) (i : Nat) : List Nat := match ops[i]? with
  | some o => (o.after.toList.filter (Region.binds md)).map (·.on)
  | none => []
def u1 (u : Nat → Value) (i : Nat) (v : Value) : Nat → Value := fun j => if j = i then v else u j
theorem u1_same (u : Nat → Value) (i : Nat) (v : Value) : u1 u i v i = v := by simp [u1]
theorem u1_other (u : Nat → Value) {i j : Nat} (v : Value) (h : j ≠ i) : u1 u i v j = u j := by simp [u1, h]

section
variable {P : Program} {ops : Array Oper} {Q : Exit → Act → World → Prop} {md : Region.Mode} {n : Nat}
theorem ready_iff (listed : Array Bool) (_hl : listed.size = ops.size) (i : Nat) :
    i ∈ Region.ready md ops listed ↔ (i < ops.size ∧ listed.getD i true = false ∧ ∀ j ∈ waits md ops i, listed.getD j false = true) := by
  unfold Region.ready
  rw [List.mem_filter, List.mem_range]
  by_cases hi : i < ops.size
  · have ho : ops[i]? = some ops[i] := Array.getElem?_eq_getElem hi
    simp only [hi, true_and, ho, Option.map_some, Option.getD_some, Bool.and_eq_true, Bool.not_eq_true', waits, List.mem_map, List.mem_filter, Array.all_eq_true]
    refine and_congr_right fun _ => ?_
    constructor
    · rintro h j ⟨e, ⟨he, hb⟩, rfl⟩
      obtain ⟨k, hk, rfl⟩ := List.mem_iff_getElem.1 he
      have := h k (by simpa using hk)
      simp only [Bool.or_eq_true, Bool.not_eq_true'] at this
      rcases this with h2 | h2
      · rw [show (ops[i].after.toList[k]) = ops[i].after[k]'(by simpa using hk) by simp, h2] at hb; cases hb
      · simpa using h2
    · intro h k hk
      simp only [Bool.or_eq_true, Bool.not_eq_true']
      cases hb : Region.binds md ops[i].after[k] with
      | false => exact .inl rfl
      | true => exact .inr (h _ ⟨ops[i].after[k], ⟨by simp, hb⟩, rfl⟩)
  · simp [hi]
/-- How many have not come up. -/
def unl (listed : Array Bool) : Nat := listed.toList.countP (fun b => !b)
theorem unl_set {listed : Array Bool} {i : Nat} (hi : i < listed.size) (h : listed.getD i true = false) : unl (listed.setIfInBounds i true) + 1 = unl listed := by
  have h2 : listed[i] = false := by
    rw [Array.getD_eq_getD_getElem?, Array.getElem?_eq_getElem hi] at h; simpa using h
  unfold unl
  rw [Array.toList_setIfInBounds, List.countP_set (by simpa using hi)]
  have h3 : 0 < listed.toList.countP (fun b => !b) := List.countP_pos_iff.2 ⟨listed[i], by simp, by simp [h2]⟩
  simp only [Array.getElem_toList, h2, Bool.not_false, if_true, Bool.not_true, Bool.false_eq_true, if_false]
  omega
theorem unl_zero {listed : Array Bool} (h : unl listed = 0) {i : Nat} (hi : i < listed.size) : listed.getD i true = true := by
  unfold unl at h
  rw [List.countP_eq_zero] at h
  have := h listed[i] (by simp)
  rw [Array.getD_eq_getD_getElem?, Array.getElem?_eq_getElem hi]
  simpa using this
theorem getD_set {listed : Array Bool} {i j : Nat} (d : Bool) : (listed.setIfInBounds i true).getD j d = if j = i ∧ i < listed.size then true else listed.getD j d := by
  rw [Array.getD_eq_getD_getElem?, Array.getD_eq_getD_getElem?, Array.getElem?_setIfInBounds]
  by_cases h : i = j
  · subst h
    by_cases h2 : i < listed.size
    · simp [h2]
    · simp [h2]
  · rw [if_neg h, if_neg (by rintro ⟨h2, -⟩; exact h h2.symm)]

theorem wpAny_spec (hn : ops.size = n) (fr : (Nat → Value) → Act) (u0 : Nat → Value) (B : World → Prop) (R : Nat → Value → World → Prop)
    (hR : ∀ i v w w', i < n → R i v w → Below w.heap.size w w' → R i v w')
    (hd : ∀ i, i < n → ∀ j ∈ waits md ops i, j < i)
    (step : ∀ i, i < n → ∀ u w, B w → u i = u0 i → (∀ j ∈ waits md ops i, R j (u j) w) → (∀ j, j < n → i ∈ waits md ops j → u j = u0 j) →
      wpOp P ops Q i (fun a' w' => ∃ v, a' = fr (u1 u i v) ∧ R i v w' ∧ B w' ∧ Below w.heap.size w w') (fr u) w)
    (done : ∀ u w, B w → (∀ j, j < n → R j (u j) w) → Q .normal (fr u) w) :
    ∀ (fuel : Nat) (listed : Array Bool) (u : Nat → Value) (w : World), listed.size = n → unl listed ≤ fuel → B w → (∀ j, j < n → listed.getD j false = true → R j (u j) w) → (∀ j, j < n → listed.getD j false = false → u j = u0 j) → (∀ j, j < n → listed.getD j false = true → ∀ k ∈ waits md ops j, listed.getD k false = true) →
      wpAny P md ops Q fuel listed (fr u) w := by
  have hsame : ∀ (listed : Array Bool), listed.size = n → ∀ j, j < n → listed.getD j true = listed.getD j false := by
    intro listed hl j hj
    rw [Array.getD_eq_getD_getElem?, Array.getD_eq_getD_getElem?, Array.getElem?_eq_getElem (by omega)]; rfl
  have hnil : ∀ (listed : Array Bool), listed.size = n → Region.ready md ops listed = [] → ∀ j, j < n → listed.getD j false = true := by
    intro listed hl hr j
    induction j using Nat.strongRecOn with
    | _ j ih =>
      intro hj
      cases hb : listed.getD j false with
      | true => rfl
      | false =>
        have hmem : j ∈ Region.ready md ops listed := (ready_iff listed (by omega) j).2 ⟨by omega, by rw [hsame listed hl j hj, hb], fun k hk => ih k (hd j hj k hk) (by have := hd j hj k hk; omega)⟩
        rw [hr] at hmem; cases hmem
  intro fuel
  induction fuel with
  | zero =>
    intro listed u w hl hf hB hRl hU hC
    have hall : ∀ j, j < n → listed.getD j false = true := fun j hj => by rw [← hsame listed hl j hj]; exact unl_zero (by omega) (by omega)
    refine ⟨?_, done u w hB fun j hj => hRl j hj (hall j hj)⟩
    cases hr : Region.ready md ops listed with
    | nil => rfl
    | cons i rs =>
      have hmem : i ∈ Region.ready md ops listed := by rw [hr]; simp
      obtain ⟨h1, h2, -⟩ := (ready_iff listed (by omega) i).1 hmem
      rw [hsame listed hl i (by omega), hall i (by omega)] at h2; cases h2
  | succ fuel ih =>
    intro listed u w hl hf hB hRl hU hC
    refine ⟨fun hr => done u w hB fun j hj => hRl j hj (hnil listed hl hr j hj), fun i hi => ?_⟩
    obtain ⟨h1, h2, h3⟩ := (ready_iff listed (by omega) i).1 hi
    have hin : i < n := by omega
    have h4 : listed.getD i false = false := by rw [← hsame listed hl i hin]; exact h2
    refine wpOp_mono ?_ (step i hin u w hB (hU i hin h4) (fun j hj => hRl j (by have := hd i hin j hj; omega) (h3 j hj)) ?_)
    · rintro a' w' ⟨v, rfl, hv, hB', hb⟩
      refine ih _ _ _ (by simpa using hl) (by have := unl_set (by omega) h2; omega) hB' ?_ ?_ ?_
      · intro j hj hlj
        by_cases hji : j = i
        · subst hji; rw [u1_same]; exact hv
        · rw [u1_other _ _ hji]
          rw [getD_set, if_neg (by rintro ⟨h, -⟩; exact hji h)] at hlj
          exact hR j _ _ _ hj (hRl j hj hlj) hb
      · intro j hj hlj
        have hji : j ≠ i := by
          rintro rfl
          rw [getD_set, if_pos ⟨rfl, by omega⟩] at hlj; cases hlj
        rw [u1_other _ _ hji]
        rw [getD_set, if_neg (by rintro ⟨h, -⟩; exact hji h)] at hlj
        exact hU j hj hlj
      · intro j hj hlj k hk
        have hk2 : listed.getD k false = true := by
          by_cases hji : j = i
          · subst hji; exact h3 k hk
          · rw [getD_set, if_neg (by rintro ⟨h, -⟩; exact hji h)] at hlj
            exact hC j hj hlj k hk
        rw [getD_set]
        split
        · rfl
        · exact hk2
    · intro j hj hw
      refine hU j hj ?_
      cases hb : listed.getD j false with
      | false => rfl
      | true =>
        have := hC j hj hb i hw
        rw [h4] at this; cases this
theorem wp_region_spec {id : Nat} {a : Act} {w : World} (hm : P.follows .mixedOrders = true) (n : Nat) (hn : ops.size = n) (fr : (Nat → Value) → Act) (u0 : Nat → Value) (B : World → Prop) (R : Nat → Value → World → Prop)
    (ha : a = fr u0) (hB : B w.drew)
    (hR : ∀ i v w w', i < n → R i v w → Below w.heap.size w w' → R i v w')
    (hd : ∀ i, i < n → ∀ j ∈ waits .any ops i, j < i)
    (step : ∀ i, i < n → ∀ u w, B w → u i = u0 i → (∀ j ∈ waits .any ops i, R j (u j) w) → (∀ j, j < n → i ∈ waits .any ops j → u j = u0 j) →
      ∀ K : Act → World → Prop, (∀ v w', R i v w' → B w' → Below w.heap.size w w' → K (fr (u1 u i v)) w') → wpOp P ops Q i K (fr u) w)
    (done : ∀ u w, B w → (∀ j, j < n → R j (u j) w) → Q .normal (fr u) w) : (Code.region id ops true).wp P Q a w := by
  subst ha
  refine wp_region_any hm ?_
  refine wpAny_spec hn fr u0 B R hR hd (fun i hi u w h1 h2 h3 h4 => step i hi u w h1 h2 h3 h4 _ (fun v w' h5 h6 h7 => ⟨v, rfl, h5, h6, h7⟩)) done _ _ _ _ (by simpa using hn) ?_ hB ?_ ?_ ?_
  · unfold unl
    exact Nat.le_trans List.countP_le_length (by simp)
  · intro j hj h
    rw [Array.getD_eq_getD_getElem?, Array.getElem?_replicate] at h
    split at h <;> simp at h
  · intro j _ _; rfl
  · intro j hj h
    rw [Array.getD_eq_getD_getElem?, Array.getElem?_replicate] at h
    split at h <;> simp at h
theorem u1_eq {u : Nat → Value} {i : Nat} {v : Value} (h : u i = v) : u1 u i v = u := by
  funext j
  unfold u1
  split
  · rename_i hj; rw [hj, h]
  · rfl
theorem all_zero {S : Nat → Prop} : ∀ i, i < 0 → S i := fun _ h => absurd h (by omega)
theorem all_succ {S : Nat → Prop} {n : Nat} (h : ∀ i, i < n → S i) (hn : S n) : ∀ i, i < n + 1 → S i := fun i hi => by
  by_cases h1 : i = n
  · subst h1; exact hn
  · exact h i (by omega)
theorem k_of {K : Act → World → Prop} {a a' : Act} {w : World} (h : K a w) (e : a = a') : K a' w := e ▸ h
theorem wpOp_of {i : Nat} {o : Oper} {K : Act → World → Prop} {a : Act} {w : World} (ho : ops[i]? = some o) (hg : Region.wanted o (yielded ops a.tmps) = true) (h : o.wp P a w K Q) : wpOp P ops Q i K a w := by
  unfold wpOp
  rw [ho]
  simp only [hg, if_true]
  exact .inl h
end
def regionAt (n : Nat) : Code → Option Code
  | .region i ops b => if i = n then some (.region i ops b) else none
  | .seq a b => match regionAt n a with
    | some c => some c
    | none => regionAt n b
  | .loop c => regionAt n c
  | .block _ c => regionAt n c
  | .scope c => regionAt n c
  | .cond _ a b => match regionAt n a with
    | some c => some c
    | none => regionAt n b
  | _ => none
theorem wp_of_eq {P : Program} {C C' : Code} {Q : Exit → Act → World → Prop} {a : Act} {w : World} (h : Code.wp P C Q a w) (e : C = C') : Code.wp P C' Q a w := e ▸ h
theorem wpOp_skip {P : Program} {ops : Array Oper} {Q : Exit → Act → World → Prop} {i : Nat} {o : Oper} {K : Act → World → Prop} {a : Act} {w : World} (ho : ops[i]? = some o) (hg : Region.wanted o (yielded ops a.tmps) = false) (h : K (a.put o.dst undef) w) : wpOp P ops Q i K a w := by
  unfold wpOp
  rw [ho]
  simp only [hg]
  exact h
end Go.Proofs.Ytalghiecjhfflaa

namespace Go.Proofs.Ytalghiecjhfflaa
open Go.RowKit Go.Shelf

def setL (L : Nat → Bool) (i : Nat) : Nat → Bool := fun j => if j = i then true else L j
theorem setL_same (L : Nat → Bool) (i : Nat) : setL L i i = true := by simp [setL]
theorem setL_other (L : Nat → Bool) {i j : Nat} (h : j ≠ i) : setL L i j = L j := by simp [setL, h]
theorem grown_one (W : World) (b i : Nat) (v : Value) : W.grownBy (W.setCell ⟨b, i, none⟩ v) (some b) :=
  ⟨rfl, rfl, rfl, by simp, fun k _ hk => by
    have hne : k ≠ b := fun e => hk (by rw [e])
    exact Below.heap_setCell W ⟨b, i, none⟩ v k (fun e => hne e)⟩
theorem grown_then {a b c : World} {r : Option Nat} (h : a.grownBy b r) (k : b.grownBy c r) : a.grownBy c r :=
  ⟨k.os.trans h.os, k.tape.trans h.tape, k.output.trans h.output, Nat.le_trans h.size k.size, fun i hi hr => (k.block i (Nat.lt_of_lt_of_le hi h.size) hr).trans (h.block i hi hr)⟩
theorem grown_more {W w : World} {b : Nat} (h : W.grownBy w (some b)) (i : Nat) (v : Value) : W.grownBy (w.setCell ⟨b, i, none⟩ v) (some b) := grown_then h (grown_one w b i v)
/-- A block: of which operation (or which one, where it was there), where it is stored into, what it holds ahead of that and behind. -/
structure Vr where
  a : Option Nat
  g : Nat
  st : Nat
  T : TypeId
  old : Array Value
  new : Array Value
def VrIs (N : Nat) (L : Nat → Bool) (u : Nat → Value) (q : Vr) (G : Nat) : Prop := match q.a with
  | none => G = q.g ∧ G < N
  | some a => L a = true ∧ u a = .pointer (some ⟨G, 0, none⟩) ∧ N ≤ G
def VrOk (N : Nat) (L : Nat → Bool) (u : Nat → Value) (w : World) (q : Vr) : Prop :=
  (∀ a, q.a = some a → L a = true → ∃ G, u a = .pointer (some ⟨G, 0, none⟩) ∧ N ≤ G) ∧ ∀ G, VrIs N L u q G → Blk w G q.T (if L q.st = true then q.new else q.old)
structure VrsOk (N : Nat) (L : Nat → Bool) (u : Nat → Value) (w : World) (l : List Vr) : Prop where
  ok : ∀ q ∈ l, VrOk N L u w q
  ne : ∀ q ∈ l, ∀ r ∈ l, q.st ≠ r.st → ∀ G, VrIs N L u q G → ¬ VrIs N L u r G
/-- The places of the stores and of the allocations. -/
def stores (l : List Vr) : List Nat := l.map (·.st)
def allocs (l : List Vr) : List Nat := l.filterMap (·.a)

theorem st_inj : ∀ (l : List Vr), (stores l).Nodup → ∀ x ∈ l, ∀ y ∈ l, x.st = y.st → x = y
  | [], _, x, hx, _, _, _ => by cases hx
  | a :: l, h, x, hx, y, hy, e => by
    have h' : (a.st :: stores l).Nodup := h
    rw [List.nodup_cons] at h'
    rcases List.mem_cons.1 hx with rfl | hx2
    · rcases List.mem_cons.1 hy with rfl | hy2
      · rfl
      · exact absurd (show x.st ∈ stores l from List.mem_map.2 ⟨y, hy2, e.symm⟩) h'.1
    · rcases List.mem_cons.1 hy with rfl | hy2
      · exact absurd (show y.st ∈ stores l from List.mem_map.2 ⟨x, hx2, e⟩) h'.1
      · exact st_inj l h'.2 x hx2 y hy2 e
theorem al_inj : ∀ (l : List Vr), (allocs l).Nodup → ∀ x ∈ l, ∀ y ∈ l, ∀ i, x.a = some i → y.a = some i → x = y
  | [], _, x, hx, _, _, _, _, _ => by cases hx
  | a :: l, h, x, hx, y, hy, i, e, e2 => by
    have h' : (allocs l).Nodup ∧ ∀ j, a.a = some j → j ∉ allocs l := by
      unfold allocs at h ⊢
      rw [List.filterMap_cons] at h
      split at h
      · rename_i h3; exact ⟨h, fun j h4 => by rw [h3] at h4; cases h4⟩
      · rename_i b h3
        rw [List.nodup_cons] at h
        exact ⟨h.2, fun j h4 => by rw [h3] at h4; cases h4; exact h.1⟩
    rcases List.mem_cons.1 hx with rfl | hx2
    · rcases List.mem_cons.1 hy with rfl | hy2
      · rfl
      · exact absurd (show i ∈ allocs l from List.mem_filterMap.2 ⟨y, hy2, e2⟩) (h'.2 i e)
    · rcases List.mem_cons.1 hy with rfl | hy2
      · exact absurd (show i ∈ allocs l from List.mem_filterMap.2 ⟨x, hx2, e⟩) (h'.2 i e2)
      · exact al_inj l h'.1 x hx2 y hy2 i e e2
section
variable {P : Program} {ops : Array Oper} {Q : Exit → Act → World → Prop} {md : Region.Mode} {n : Nat}
theorem getD_setL {listed : Array Bool} {i : Nat} (hi : i < listed.size) : (fun j => (listed.setIfInBounds i true).getD j false) = setL (fun j => listed.getD j false) i := by
  funext j
  rw [getD_set]
  unfold setL
  by_cases h : j = i
  · rw [if_pos ⟨h, hi⟩, if_pos h]
  · rw [if_neg (fun h2 => h h2.1), if_neg h]
theorem wpAny_spec4 (hn : ops.size = n) (fr : (Nat → Value) → Act) (I : (Nat → Bool) → (Nat → Value) → World → Prop)
    (hd : ∀ i, i < n → ∀ j ∈ waits md ops i, j < i)
    (step : ∀ i, i < n → ∀ (L : Nat → Bool) (u : Nat → Value) (w : World), I L u w → L i = false → (∀ j, j < n → L j = true → ∀ k ∈ waits md ops j, L k = true) → (∀ j ∈ waits md ops i, L j = true) →
      wpOp P ops Q i (fun a' w' => ∃ v, a' = fr (u1 u i v) ∧ I (setL L i) (u1 u i v) w') (fr u) w)
    (done : ∀ L u w, (∀ j, j < n → L j = true) → I L u w → Q .normal (fr u) w) :
    ∀ (fuel : Nat) (listed : Array Bool) (u : Nat → Value) (w : World), listed.size = n → unl listed ≤ fuel → I (fun j => listed.getD j false) u w → (∀ j, j < n → listed.getD j false = true → ∀ k ∈ waits md ops j, listed.getD k false = true) →
      wpAny P md ops Q fuel listed (fr u) w := by
  have hsame : ∀ (listed : Array Bool), listed.size = n → ∀ j, j < n → listed.getD j true = listed.getD j false := by
    intro listed hl j hj
    rw [Array.getD_eq_getD_getElem?, Array.getD_eq_getD_getElem?, Array.getElem?_eq_getElem (by omega)]; rfl
  have hnil : ∀ (listed : Array Bool), listed.size = n → Region.ready md ops listed = [] → ∀ j, j < n → listed.getD j false = true := by
    intro listed hl hr j
    induction j using Nat.strongRecOn with
    | _ j ih =>
      intro hj
      cases hb : listed.getD j false with
      | true => rfl
      | false =>
        have hmem : j ∈ Region.ready md ops listed := (ready_iff listed (by omega) j).2 ⟨by omega, by rw [hsame listed hl j hj, hb], fun k hk => ih k (hd j hj k hk) (by have := hd j hj k hk; omega)⟩
        rw [hr] at hmem; cases hmem
  intro fuel
  induction fuel with
  | zero =>
    intro listed u w hl hf hI hC
    have hall : ∀ j, j < n → listed.getD j false = true := fun j hj => by rw [← hsame listed hl j hj]; exact unl_zero (by omega) (by omega)
    refine ⟨?_, done _ u w hall hI⟩
    cases hr : Region.ready md ops listed with
    | nil => rfl
    | cons i rs =>
      have hmem : i ∈ Region.ready md ops listed := by rw [hr]; simp
      obtain ⟨h1, h2, -⟩ := (ready_iff listed (by omega) i).1 hmem
      rw [hsame listed hl i (by omega), hall i (by omega)] at h2; cases h2
  | succ fuel ih =>
    intro listed u w hl hf hI hC
    refine ⟨fun hr => done _ u w (hnil listed hl hr) hI, fun i hi => ?_⟩
    obtain ⟨h1, h2, h3⟩ := (ready_iff listed (by omega) i).1 hi
    have hin : i < n := by omega
    have h4 : listed.getD i false = false := by rw [← hsame listed hl i hin]; exact h2
    refine wpOp_mono ?_ (step i hin _ u w hI h4 hC h3)
    rintro a' w' ⟨v, rfl, hI'⟩
    refine ih _ _ _ (by simpa using hl) (by have := unl_set (by omega) h2; omega) (by rw [getD_setL (by omega)]; exact hI') ?_
    intro j hj hlj k hk2
    have hk3 : listed.getD k false = true := by
      by_cases hji : j = i
      · subst hji; exact h3 k hk2
      · rw [getD_set, if_neg (by rintro ⟨h, -⟩; exact hji h)] at hlj
        exact hC j hj hlj k hk2
    rw [getD_set]
    split
    · rfl
    · exact hk3
theorem vrIs_u1 {N : Nat} {L : Nat → Bool} {u : Nat → Value} {q : Vr} {i : Nat} (_hi : L i = false) (v : Value) {G : Nat} (ha : q.a ≠ some i) : VrIs N (setL L i) (u1 u i v) q G ↔ VrIs N L u q G := by
  unfold VrIs
  cases h : q.a with
  | none => simp
  | some a =>
    have hne : a ≠ i := fun e => ha (by rw [h, e])
    simp only [setL_other _ hne, u1_other _ _ hne]
/-- A step that is no allocation and no store leaves the blocks. -/
theorem VrsOk.step {N : Nat} {L : Nat → Bool} {u : Nat → Value} {w w' : World} {l : List Vr} (h : VrsOk N L u w l) {i : Nat} (hi : L i = false) (v : Value) (ha : ∀ q ∈ l, q.a ≠ some i) (hs : ∀ q ∈ l, q.st ≠ i) (hb : Below w.heap.size w w') : VrsOk N (setL L i) (u1 u i v) w' l := by
  refine ⟨fun q hq => ⟨fun a e hl => ?_, fun G hG => ?_⟩, fun q hq r hr hne G h1 h2 => h.ne q hq r hr hne G ((vrIs_u1 hi v (ha q hq)).1 h1) ((vrIs_u1 hi v (ha r hr)).1 h2)⟩
  · have hne : a ≠ i := fun e2 => ha q hq (by rw [e, e2])
    rw [setL_other _ hne] at hl
    rw [u1_other _ _ hne]
    exact (h.ok q hq).1 a e hl
  · rw [setL_other _ (hs q hq)]
    exact ((h.ok q hq).2 G ((vrIs_u1 hi v (ha q hq)).1 hG)).on hb
/-- An allocation. -/
theorem VrsOk.made {N : Nat} {L : Nat → Bool} {u : Nat → Value} {w : World} {l : List Vr} (h : VrsOk N L u w l) {q : Vr} {i : Nat} (_hq : q ∈ l) (hqa : q.a = some i) (hi : L i = false) (hst : L q.st = false) (hN : N ≤ w.heap.size)
    (huniq : ∀ r ∈ l, r.a = some i → r = q) (hs : ∀ r ∈ l, r.st ≠ i) :
    VrsOk N (setL L i) (u1 u i (.pointer (some ⟨w.heap.size, 0, none⟩))) (w.alloc (.cells q.old q.T)) l := by
  have hb : Below w.heap.size w (w.alloc (.cells q.old q.T)) := (Below.refl _ w).alloc (Nat.le_refl _) _
  have hlt : ∀ r ∈ l, ∀ G, VrIs N L u r G → G < w.heap.size := fun r hr G hG => ((h.ok r hr).2 G hG).lt
  have hnew : ∀ r ∈ l, r.a = some i → ∀ G, VrIs N (setL L i) (u1 u i (.pointer (some ⟨w.heap.size, 0, none⟩))) r G → G = w.heap.size := by
    intro r hr hra G hG
    unfold VrIs at hG
    rw [hra] at hG
    have := hG.2.1
    rw [u1_same] at this
    simp at this
    exact this.symm
  refine ⟨fun r hr => ⟨fun a e hl => ?_, fun G hG => ?_⟩, fun r hr s hs2 hne G h1 h2 => ?_⟩
  · by_cases hai : a = i
    · subst hai
      rw [u1_same]
      exact ⟨_, rfl, hN⟩
    · rw [setL_other _ hai] at hl
      rw [u1_other _ _ hai]
      exact (h.ok r hr).1 a e hl
  · rw [setL_other _ (hs r hr)]
    by_cases hra : r.a = some i
    · obtain rfl := huniq r hr hra
      obtain rfl := hnew r hr hra G hG
      rw [if_neg (by rw [hst]; simp)]
      exact Blk.new w _ _
    · exact ((h.ok r hr).2 G ((vrIs_u1 hi _ hra).1 hG)).on hb
  · by_cases hra : r.a = some i
    · obtain rfl := huniq r hr hra
      have e1 := hnew r hr hra G h1
      by_cases hsa : s.a = some i
      · exact hne (by rw [huniq s hs2 hsa])
      · have := hlt s hs2 G ((vrIs_u1 hi _ hsa).1 h2)
        omega
    · by_cases hsa : s.a = some i
      · have e1 := hnew s hs2 hsa G h2
        have := hlt r hr G ((vrIs_u1 hi _ hra).1 h1)
        omega
      · exact h.ne r hr s hs2 hne G ((vrIs_u1 hi _ hra).1 h1) ((vrIs_u1 hi _ hsa).1 h2)
/-- A store. -/
theorem VrsOk.put {N : Nat} {L : Nat → Bool} {u : Nat → Value} {w w' : World} {l : List Vr} (h : VrsOk N L u w l) {q : Vr} (hq : q ∈ l) {G : Nat} (hG : VrIs N L u q G) (hi : L q.st = false) (v : Value)
    (huniq : ∀ r ∈ l, r.st = q.st → r = q) (ha : ∀ r ∈ l, r.a ≠ some q.st) (hn : Blk w' G q.T q.new) (hg : w.grownBy w' (some G)) : VrsOk N (setL L q.st) (u1 u q.st v) w' l := by
  refine ⟨fun r hr => ⟨fun a e hl => ?_, fun G' hG' => ?_⟩, fun r hr s hs hne G' h1 h2 => h.ne r hr s hs hne G' ((vrIs_u1 hi v (ha r hr)).1 h1) ((vrIs_u1 hi v (ha s hs)).1 h2)⟩
  · have hne : a ≠ q.st := fun e2 => ha r hr (by rw [e, e2])
    rw [setL_other _ hne] at hl
    rw [u1_other _ _ hne]
    exact (h.ok r hr).1 a e hl
  · have h2 := (vrIs_u1 hi v (ha r hr)).1 hG'
    by_cases hst : r.st = q.st
    · obtain rfl := huniq r hr hst
      rw [setL_same, if_pos rfl]
      have : G' = G := by
        unfold VrIs at h2 hG
        cases hra : r.a with
        | none => rw [hra] at h2 hG; exact h2.1.trans hG.1.symm
        | some a =>
          rw [hra] at h2 hG
          have e := h2.2.1.symm.trans hG.2.1
          simpa using e
      rw [this]
      exact hn
    · rw [setL_other _ hst]
      have hb := (h.ok r hr).2 G' h2
      refine (hg.block G' hb.lt (fun e => ?_)).trans hb
      have : G' = G := by simpa using e
      subst this
      exact h.ne r hr q hq hst G' h2 hG
theorem wp_region_vars {id : Nat} {a : Act} {w : World} (hm : P.follows .mixedOrders = true) (n : Nat) (hn : ops.size = n) (fr : (Nat → Value) → Act) (u0 : Nat → Value) (S : World → Prop) (F : Nat → Value → Prop) (N : Nat) (l : List Vr) (al sl : List Nat) (hal : allocs l = al) (hsl : stores l = sl)
    (ha : a = fr u0) (hS : S w.drew) (hV : VrsOk N (fun _ => false) u0 w.drew l) (hN : ∀ w, S w → N ≤ w.heap.size) (hgN : ∀ q ∈ l, q.a = none → q.g < N)
    (hd : ∀ i, i < n → ∀ j ∈ waits .any ops i, j < i)
    (hon : ∀ w w', S w → Below w.heap.size w w' → S w')
    (hput : ∀ w w' G, S w → w.grownBy w' (some G) → (N ≤ G ∨ ∃ q ∈ l, q.a = none ∧ G = q.g) → S w')
    (hA : ∀ q ∈ l, ∀ i, q.a = some i → i ∈ waits .any ops q.st ∧ ∀ (u : Nat → Value) (w : World), S w → ∀ K : Act → World → Prop, K (fr (u1 u i (.pointer (some ⟨w.heap.size, 0, none⟩)))) (w.alloc (.cells q.old q.T)) → wpOp P ops Q i K (fr u) w)
    (hP : ∀ q ∈ l, ∀ (u : Nat → Value) (w : World), S w → (∀ j ∈ waits .any ops q.st, j ∉ al → j ∉ sl → F j (u j)) → ∀ G, VrIs N (fun _ => true) u q G → Blk w G q.T q.old → ∀ K : Act → World → Prop, (∀ w', Blk w' G q.T q.new → w.grownBy w' (some G) → K (fr (u1 u q.st undef)) w') → wpOp P ops Q q.st K (fr u) w)
    (h1 : sl.Nodup) (h2 : al.Nodup) (h3 : ∀ i ∈ al, i ∉ sl) (h4 : ∀ i ∈ al, i < n) (h5 : ∀ i ∈ sl, i < n)
    (step : ∀ i, i < n → i ∉ al → i ∉ sl → ∀ u w, S w → (∃ L, VrsOk N L u w l) → (∀ j ∈ waits .any ops i, j ∉ al → j ∉ sl → F j (u j)) →
      ∀ K : Act → World → Prop, (∀ v w', F i v → S w' → Below w.heap.size w w' → K (fr (u1 u i v)) w') → wpOp P ops Q i K (fr u) w)
    (done : ∀ L u w, (∀ j, j < n → L j = true) → S w → (∀ j, j < n → j ∉ al → j ∉ sl → F j (u j)) → VrsOk N L u w l → Q .normal (fr u) w) : (Code.region id ops true).wp P Q a w := by
  subst ha
  subst hal
  subst hsl
  refine wp_region_any hm ?_
  have h0 : (fun j => (Array.replicate ops.size false).getD j false) = fun _ => false := by
    funext j
    rw [Array.getD_eq_getD_getElem?, Array.getElem?_replicate]
    split <;> rfl
  have hms : ∀ q ∈ l, q.st ∈ stores l := fun q hq => List.mem_map.2 ⟨q, hq, rfl⟩
  have hma : ∀ q ∈ l, ∀ i, q.a = some i → i ∈ allocs l := fun q hq i e => List.mem_filterMap.2 ⟨q, hq, e⟩
  have hus : ∀ q ∈ l, ∀ r ∈ l, r.st = q.st → r = q := fun q hq r hr e => st_inj l h1 r hr q hq e
  have hua : ∀ q ∈ l, ∀ r ∈ l, ∀ i, q.a = some i → r.a = some i → r = q := fun q hq r hr i e e2 => al_inj l h2 r hr q hq i e2 e
  refine wpAny_spec4 hn fr (fun L u w => S w ∧ (∀ j, j < n → j ∉ allocs l → j ∉ stores l → L j = true → F j (u j)) ∧ VrsOk N L u w l) hd ?_ (fun L u w hL hI => done L u w hL hI.1 (fun j hj ha hs => hI.2.1 j hj ha hs (hL j hj)) hI.2.2) _ _ _ _ (by simpa using hn) ?_ (by rw [h0]; exact ⟨hS, fun j _ _ _ h => (by cases h), hV⟩) ?_
  · intro i hi L u w hI hLi hC hW
    obtain ⟨iS, iF, iV⟩ := hI
    have hF' : ∀ (j : Nat), j < n → j ∉ allocs l → j ∉ stores l → ∀ v, (j = i → F i v) → setL L i j = true → F j (u1 u i v j) := by
      intro j hj ha hs v hv hl
      by_cases hji : j = i
      · subst hji; rw [u1_same]; exact hv rfl
      · rw [u1_other _ _ hji]
        rw [setL_other _ hji] at hl
        exact iF j hj ha hs hl
    by_cases hia : i ∈ allocs l
    · obtain ⟨q, hq, hqa⟩ := List.mem_filterMap.1 hia
      obtain ⟨hw, hstep⟩ := hA q hq i hqa
      have hst : L q.st = false := by
        cases h : L q.st with
        | false => rfl
        | true =>
          have := hC q.st (h5 _ (hms q hq)) h i hw
          rw [hLi] at this; cases this
      refine hstep u w iS _ ⟨_, rfl, hon _ _ iS ((Below.refl _ w).alloc (Nat.le_refl _) _), fun j hj ha hs hl => hF' j hj ha hs _ (fun e => absurd (e ▸ hia) ha) hl, ?_⟩
      exact iV.made hq hqa hLi hst (hN w iS) (fun r hr hra => hua q hq r hr i hqa hra) (fun r hr e => h3 i hia (e ▸ hms r hr))
    · by_cases his : i ∈ stores l
      · obtain ⟨q, hq, rfl⟩ := List.mem_map.1 his
        have hFd : ∀ j ∈ waits .any ops q.st, j ∉ allocs l → j ∉ stores l → F j (u j) := fun j hj ha hs => iF j (by have := hd _ hi j hj; omega) ha hs (hW j hj)
        obtain ⟨G, hG⟩ : ∃ G, VrIs N L u q G := by
          unfold VrIs
          cases hqa : q.a with
          | none =>
            exact ⟨q.g, rfl, hgN q hq hqa⟩
          | some a =>
            have hla := hW a (hA q hq a hqa).1
            obtain ⟨G, e, hle⟩ := (iV.ok q hq).1 a hqa hla
            exact ⟨G, hla, e, hle⟩
        have hG' : VrIs N (fun _ => true) u q G := by
          unfold VrIs at hG ⊢
          cases hqa : q.a with
          | none => rw [hqa] at hG; exact hG
          | some a => rw [hqa] at hG; exact ⟨rfl, hG.2⟩
        have hb := (iV.ok q hq).2 G hG
        rw [if_neg (by rw [hLi]; simp)] at hb
        refine hP q hq u w iS hFd G hG' hb _ fun w' hn' hg => ⟨_, rfl, hput _ _ G iS hg ?_, fun j hj ha hs hl => hF' j hj ha hs _ (fun e => absurd (e ▸ his) hs) hl, ?_⟩
        · unfold VrIs at hG
          cases hqa : q.a with
          | none => rw [hqa] at hG; exact .inr ⟨q, hq, hqa, hG.1⟩
          | some a => rw [hqa] at hG; exact .inl hG.2.2
        · exact iV.put hq hG hLi _ (fun r hr e => hus q hq r hr e) (fun r hr e => h3 q.st (hma r hr _ e) his) hn' hg
      · refine step i hi hia his u w iS ⟨L, iV⟩ (fun j hj ha hs => iF j (by have := hd _ hi j hj; omega) ha hs (hW j hj)) _ fun v w' hv hS' hb => ⟨v, rfl, hS', fun j hj ha hs hl => hF' j hj ha hs v (fun _ => hv) hl, ?_⟩
        exact iV.step hLi v (fun q hq e => hia (hma q hq i e)) (fun q hq e => his (e ▸ hms q hq)) hb
  · unfold unl
    exact Nat.le_trans List.countP_le_length (by simp)
  · intro j hj h
    rw [Array.getD_eq_getD_getElem?, Array.getElem?_replicate] at h
    split at h <;> simp at h
end
end Go.Proofs.Ytalghiecjhfflaa
