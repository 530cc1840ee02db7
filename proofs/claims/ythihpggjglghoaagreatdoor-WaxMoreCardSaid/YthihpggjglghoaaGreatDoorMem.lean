/- Words for memory: a slice in memory that reads as a list, and the data of a table with where its parts lie. No condition. -/
import Derived.WalkKit
import Derived.Deep.Draws
import Derived.Lib.Hide
namespace Go.Proofs.YthihpggjglghoaaGreatDoor
open Go.RowKit

/-- A property of a table. -/
structure Pr where
  nm : ByteArray
  er : Int
/-- A kind of a table; where its ranges lie. -/
structure Kd where
  nm : ByteArray
  ad : Option Addr
  cp : Nat
  rs : List (Int × Int)
/-- A table. -/
structure Tab where
  ps : List Pr
  ks : List Kd
  pu : Int

def encI (x : Int) (_ : Nat) : Value := .int .i64 x
def encB (x : ByteArray) (_ : Nat) : Value := .string x
def encS (x : Int × Int) (j : Nat) : Value := if j = 0 then .int .i64 x.1 else .int .i64 x.2
def encP (x : Pr) (j : Nat) : Value := if j = 0 then .string x.nm else .int .i64 x.er
def encK (x : Kd) (j : Nat) : Value := if j = 0 then .string x.nm else .slice x.ad x.rs.length x.cp

/-- The cells at A on are those of the elements of l, in blocks below B. -/
def RowAt {α : Type} (sz : Nat) (enc : α → Nat → Value) (w : World) (B : Nat) (A : Option Addr) (l : List α) : Prop :=
  0 < l.length → ∃ b o, A = some ⟨b, o, none⟩ ∧ b < B ∧ ∀ i x, l[i]? = some x → ∀ j, j < sz → w.cell? ⟨b, o + i * sz + j, none⟩ = some (enc x j)

section
variable {α : Type} {sz B B' : Nat} {enc : α → Nat → Value} {w w' : World} {A : Option Addr} {l : List α}
theorem RowAt.nil : RowAt sz enc w B A ([] : List α) := fun h => absurd h (by simp)
theorem RowAt.keep (h : RowAt sz enc w B A l) (hk : ∀ p : Addr, p.block < B → w'.cell? p = w.cell? p) : RowAt sz enc w' B A l := fun hl => by
  obtain ⟨b, o, e, hb, hc⟩ := h hl
  exact ⟨b, o, e, hb, fun i x hx j hj => (hk _ hb).trans (hc i x hx j hj)⟩
theorem RowAt.mono (h : RowAt sz enc w B A l) (hB : B ≤ B') : RowAt sz enc w B' A l := fun hl => by
  obtain ⟨b, o, e, hb, hc⟩ := h hl
  exact ⟨b, o, e, by omega, hc⟩
theorem RowAt.below (h : RowAt sz enc w B A l) (hb : Below B' w w') (hB : B ≤ B') : RowAt sz enc w' B A l := h.keep fun _ hp => hb.cell (by omega)
theorem RowAt.take (h : RowAt sz enc w B A l) (n : Nat) : RowAt sz enc w B A (l.take n) := fun hl => by
  obtain ⟨b, o, e, hb, hc⟩ := h (by rw [List.length_take] at hl; omega)
  refine ⟨b, o, e, hb, fun i x hx j hj => hc i x ?_ j hj⟩
  by_cases hi : i < n
  · rwa [List.getElem?_take_of_lt hi] at hx
  · rw [List.getElem?_eq_none (by rw [List.length_take]; omega)] at hx; cases hx
theorem RowAt.two (h : RowAt 2 enc w B A l) {i : Nat} {x : α} (hi : l[i]? = some x) :
    ∃ b o, A = some ⟨b, o, none⟩ ∧ b < B ∧ w.cell? ⟨b, o + i * 2, none⟩ = some (enc x 0) ∧ w.cell? ⟨b, o + i * 2 + 1, none⟩ = some (enc x 1) := by
  obtain ⟨b, o, e, hb, hc⟩ := h (by have := (List.getElem?_eq_some_iff.1 hi).1; omega)
  exact ⟨b, o, e, hb, hc i x hi 0 (by omega), hc i x hi 1 (by omega)⟩
theorem RowAt.one (h : RowAt 1 enc w B A l) {i : Nat} {x : α} (hi : l[i]? = some x) :
    ∃ b o, A = some ⟨b, o, none⟩ ∧ b < B ∧ w.cell? ⟨b, o + i, none⟩ = some (enc x 0) := by
  obtain ⟨b, o, e, hb, hc⟩ := h (by have := (List.getElem?_eq_some_iff.1 hi).1; omega)
  have := hc i x hi 0 (by omega)
  rw [Nat.mul_one, Nat.add_zero] at this
  exact ⟨b, o, e, hb, this⟩
end
abbrev IntsAt := RowAt 1 encI
abbrev StrsAt := RowAt 1 encB
abbrev SpansAt := RowAt 2 encS
abbrev PropsAt := RowAt 2 encP
def KindsAt (w : World) (B : Nat) (A : Option Addr) (l : List Kd) : Prop := RowAt 2 encK w B A l ∧ ∀ k ∈ l, SpansAt w B k.ad k.rs ∧ k.rs.length ≤ 9223372036854775807

theorem ints_at {w : World} {B : Nat} {A : Option Addr} {l : List Int} (h : IntsAt w B A l) {i : Nat} {x : Int} (hi : l[i]? = some x) :
    ∃ b o, A = some ⟨b, o, none⟩ ∧ b < B ∧ w.cell? ⟨b, o + i, none⟩ = some (.int .i64 x) := h.one hi
theorem strs_at {w : World} {B : Nat} {A : Option Addr} {l : List ByteArray} (h : StrsAt w B A l) {i : Nat} {x : ByteArray} (hi : l[i]? = some x) :
    ∃ b o, A = some ⟨b, o, none⟩ ∧ b < B ∧ w.cell? ⟨b, o + i, none⟩ = some (.string x) := h.one hi
theorem spans_at {w : World} {B : Nat} {A : Option Addr} {l : List (Int × Int)} (h : SpansAt w B A l) {i : Nat} {x : Int × Int} (hi : l[i]? = some x) :
    ∃ b o, A = some ⟨b, o, none⟩ ∧ b < B ∧ w.cell? ⟨b, o + i * 2, none⟩ = some (.int .i64 x.1) ∧ w.cell? ⟨b, o + i * 2 + 1, none⟩ = some (.int .i64 x.2) := h.two hi
theorem props_at {w : World} {B : Nat} {A : Option Addr} {l : List Pr} (h : PropsAt w B A l) {i : Nat} {x : Pr} (hi : l[i]? = some x) :
    ∃ b o, A = some ⟨b, o, none⟩ ∧ b < B ∧ w.cell? ⟨b, o + i * 2, none⟩ = some (.string x.nm) ∧ w.cell? ⟨b, o + i * 2 + 1, none⟩ = some (.int .i64 x.er) := h.two hi
theorem kinds_at {w : World} {B : Nat} {A : Option Addr} {l : List Kd} (h : KindsAt w B A l) {i : Nat} {x : Kd} (hi : l[i]? = some x) :
    ∃ b o, A = some ⟨b, o, none⟩ ∧ b < B ∧ w.cell? ⟨b, o + i * 2, none⟩ = some (.string x.nm) ∧ w.cell? ⟨b, o + i * 2 + 1, none⟩ = some (.slice x.ad x.rs.length x.cp) ∧ SpansAt w B x.ad x.rs ∧ x.rs.length ≤ 9223372036854775807 := by
  obtain ⟨b, o, e, hb, h1, h2⟩ := h.1.two hi
  exact ⟨b, o, e, hb, h1, h2, h.2 x (List.mem_of_getElem? hi)⟩
theorem KindsAt.below {w w' : World} {B B' : Nat} {A : Option Addr} {l : List Kd} (h : KindsAt w B A l) (hb : Below B' w w') (hB : B ≤ B') : KindsAt w' B A l :=
  ⟨RowAt.below h.1 hb hB, fun k hk => ⟨RowAt.below (h.2 k hk).1 hb hB, (h.2 k hk).2⟩⟩
theorem KindsAt.mono {w : World} {B B' : Nat} {A : Option Addr} {l : List Kd} (h : KindsAt w B A l) (hB : B ≤ B') : KindsAt w B' A l :=
  ⟨RowAt.mono h.1 hB, fun k hk => ⟨RowAt.mono (h.2 k hk).1 hB, (h.2 k hk).2⟩⟩
theorem KindsAt.take {w : World} {B : Nat} {A : Option Addr} {l : List Kd} (h : KindsAt w B A l) (n : Nat) : KindsAt w B A (l.take n) :=
  ⟨RowAt.take h.1 n, fun k hk => h.2 k (List.mem_of_mem_take hk)⟩

/-- A table in memory. -/
structure TabAt (w : World) (B : Nat) (pa ka : Option Addr) (t : Tab) : Prop where
  ps : PropsAt w B pa t.ps
  ks : KindsAt w B ka t.ks
  lp : t.ps.length ≤ 9223372036854775807
  lk : t.ks.length ≤ 9223372036854775807
theorem TabAt.below {w w' : World} {B B' : Nat} {pa ka : Option Addr} {t : Tab} (h : TabAt w B pa ka t) (hb : Below B' w w') (hB : B ≤ B') : TabAt w' B pa ka t := ⟨RowAt.below h.ps hb hB, h.ks.below hb hB, h.lp, h.lk⟩
theorem TabAt.mono {w : World} {B B' : Nat} {pa ka : Option Addr} {t : Tab} (h : TabAt w B pa ka t) (hB : B ≤ B') : TabAt w B' pa ka t := ⟨RowAt.mono h.ps hB, h.ks.mono hB, h.lp, h.lk⟩
/-- .. and behind a call. -/
theorem TabAt.on {w w' : World} {pa ka : Option Addr} {t : Tab} (h : TabAt w w.heap.size pa ka t) (hb : Below w.heap.size w w') : TabAt w' w'.heap.size pa ka t := (h.below hb (Nat.le_refl _)).mono hb.size

theorem below_drewN' {B : Nat} {a w : World} (h : Below B a w) (n : Nat) : Below B a (w.drewN n) := ⟨h.os, h.tape, h.output, h.size, h.block⟩
/-- Two steps, the second one above all that was there. -/
theorem Below.then_ {a b c : World} {B : Nat} (h : Below B a b) (k : Below b.heap.size b c) (hB : B ≤ b.heap.size) : Below B a c := h.trans (k.mono hB)
/-- All that was in a cell is there yet. -/
theorem kept_of {W w' : World} (h : Below W.heap.size W w') : ∀ p v, W.cell? p = some v → w'.cell? p = some v := fun p v hv => by
  refine (h.cell (p := p) ?_).trans hv
  unfold World.cell? at hv
  rcases Nat.lt_or_ge p.block W.heap.size with hlt | hge
  · exact hlt
  · rw [Array.getElem?_eq_none hge] at hv; cases hv
theorem box4 {w w1 : World} {c0 c1 c2 c3 : Value} {T : TypeId} (hb : Below (w.alloc (.cells #[c0, c1, c2, c3] T)).heap.size (w.alloc (.cells #[c0, c1, c2, c3] T)) w1) :
    w1.cell? ⟨w.heap.size, 0, none⟩ = some c0 ∧ w1.cell? ⟨w.heap.size, 1, none⟩ = some c1 ∧ w1.cell? ⟨w.heap.size, 2, none⟩ = some c2 ∧ w1.cell? ⟨w.heap.size, 3, none⟩ = some c3 ∧ Below w.heap.size w w1 ∧ w.heap.size < w1.heap.size := by
  have hk := kept_of hb
  exact ⟨hk _ _ (by simp), hk _ _ (by simp), hk _ _ (by simp), hk _ _ (by simp), ((Below.refl _ w).alloc (Nat.le_refl _) _).trans (hb.mono (by simp)), by have := hb.size; simp at this; omega⟩
theorem box3 {w w1 : World} {c0 c1 c2 : Value} {T : TypeId} (hb : Below (w.alloc (.cells #[c0, c1, c2] T)).heap.size (w.alloc (.cells #[c0, c1, c2] T)) w1) :
    w1.cell? ⟨w.heap.size, 0, none⟩ = some c0 ∧ w1.cell? ⟨w.heap.size, 1, none⟩ = some c1 ∧ w1.cell? ⟨w.heap.size, 2, none⟩ = some c2 ∧ Below w.heap.size w w1 ∧ w.heap.size < w1.heap.size := by
  have hk := kept_of hb
  exact ⟨hk _ _ (by simp), hk _ _ (by simp), hk _ _ (by simp), ((Below.refl _ w).alloc (Nat.le_refl _) _).trans (hb.mono (by simp)), by have := hb.size; simp at this; omega⟩
theorem ret_i64 {a b : Int} (h : a = b) : Ending.returned (.int .i64 a) = .returned (.int .i64 b) := by rw [h]
theorem ret_bool {a b : Bool} (h : a = b) : Ending.returned (.bool a) = .returned (.bool b) := by rw [h]
theorem ret3 {R : Int × Int × Int} {a b c : Int} (h : R = (a, b, c)) : Ending.returned (.tuple #[.int .i64 a, .int .i64 b, .int .i64 c]) = .returned (.tuple #[.int .i64 R.1, .int .i64 R.2.1, .int .i64 R.2.2]) := by subst h; rfl
theorem ret_str {a b : ByteArray} (h : a = b) : Ending.returned (.string a) = .returned (.string b) := by rw [h]
end Go.Proofs.YthihpggjglghoaaGreatDoor
