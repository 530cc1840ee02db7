/- Layer mould, a part: words for memory. No statement is proved here. -/
import Derived.WalkKit
import Derived.Deep.Draws
import Derived.Lib.Hide
import Derived.Test.YtljbjcnfkbmjkaaGa
import Derived.Test.YtljbjcnfkbmjkaaProg
import Derived.Deep.AppendLies
import Derived.OwnWalk
import Derived.Deep.DeepCutAuto
import Derived.WalkSpells
import Derived.WalkLawsBesides
import Derived.Outline
import Derived.Deep.RegionHeld3
import Derived.Deep.QuietTactic
import Derived.BigQuiet
import Derived.Shelf.Abstract
import Derived.Deep.RegionWith
import Derived.RegionDies
import Derived.Deep.RegionLaw
namespace Go.Proofs.Ytljbjcnfkbmjkaa
open Go.RowKit

/-- Block g is just these cells, none of them frozen. -/
def Blk (w : World) (g : Nat) (T : TypeId) (cs : Array Value) : Prop := w.heap[g]? = some (.cells cs T (0, 0))
section
variable {w w' : World} {g : Nat} {T : TypeId} {cs : Array Value}
theorem Blk.lt (h : Blk w g T cs) : g < w.heap.size := by
  rcases Nat.lt_or_ge g w.heap.size with hlt | hge
  · exact hlt
  · unfold Blk at h; rw [Array.getElem?_eq_none hge] at h; cases h
theorem Blk.new (w : World) (T : TypeId) (cs : Array Value) : Blk (w.alloc (.cells cs T)) w.heap.size T cs := heap_alloc_new w _
theorem Blk.new1 (w : World) (T : TypeId) (cs : Array Value) (o : Obj) : Blk ((w.alloc o).alloc (.cells cs T)) (w.heap.size + 1) T cs := by simpa using Blk.new (w.alloc o) T cs
theorem Blk.new2 (w : World) (T : TypeId) (cs : Array Value) (o o' : Obj) : Blk (((w.alloc o).alloc o').alloc (.cells cs T)) (w.heap.size + 1 + 1) T cs := by simpa using Blk.new ((w.alloc o).alloc o') T cs
theorem Blk.new3 (w : World) (T : TypeId) (cs : Array Value) (o o' o'' : Obj) : Blk ((((w.alloc o).alloc o').alloc o'').alloc (.cells cs T)) (w.heap.size + 3) T cs := by simpa using Blk.new (((w.alloc o).alloc o').alloc o'') T cs
theorem Blk.new4 (w : World) (T : TypeId) (cs : Array Value) (o o' o'' o3 : Obj) : Blk (((((w.alloc o).alloc o').alloc o'').alloc o3).alloc (.cells cs T)) (w.heap.size + 4) T cs := by simpa using Blk.new ((((w.alloc o).alloc o').alloc o'').alloc o3) T cs
theorem Blk.drew (h : Blk w g T cs) : Blk w.drew g T cs := h
theorem Blk.alloc (h : Blk w g T cs) (o : Obj) : Blk (w.alloc o) g T cs := (Below.heap_alloc w o g h.lt).trans h
theorem Blk.on (h : Blk w g T cs) (hb : Below w.heap.size w w') : Blk w' g T cs := (hb.block g h.lt).trans h
theorem Blk.below {B : Nat} (h : Blk w g T cs) (hb : Below B w w') (hB : g < B) : Blk w' g T cs := (hb.block g hB).trans h
theorem Blk.cell (h : Blk w g T cs) (i : Nat) : w.cell? ⟨g, i, none⟩ = cs[i]? := cell_of_row w g i cs T (0, 0) h
theorem Blk.frozen (h : Blk w g T cs) (i : Nat) : w.frozen? ⟨g, i, none⟩ = false := by
  unfold Blk at h
  simp [World.frozen?, h]
theorem Blk.far (h : Blk w g T cs) {p : Addr} (hp : g ≠ p.block) (u : Value) : Blk (w.setCell p u) g T cs := (Below.heap_setCell w p u g hp).trans h
theorem Blk.set_ (h : Blk w g T cs) (i : Nat) (u : Value) : Blk (w.setCell ⟨g, i, none⟩ u) g T (cs.setIfInBounds i u) := by
  unfold Blk at h ⊢
  simp [World.setCell, Array.getElem?_modify, h]
theorem Blk.one {a : Value} (h : Blk w g T #[a]) : w.cell? ⟨g, 0, none⟩ = some a ∧ w.frozen? ⟨g, 0, none⟩ = false ∧ g < w.heap.size := ⟨h.cell 0, h.frozen 0, h.lt⟩
theorem Blk.two {a b : Value} (h : Blk w g T #[a, b]) : w.cell? ⟨g, 0, none⟩ = some a ∧ w.cell? ⟨g, 1, none⟩ = some b ∧ w.frozen? ⟨g, 0, none⟩ = false ∧ w.frozen? ⟨g, 1, none⟩ = false ∧ g < w.heap.size :=
  ⟨h.cell 0, h.cell 1, h.frozen 0, h.frozen 1, h.lt⟩
theorem Blk.three {a b c : Value} (h : Blk w g T #[a, b, c]) : w.cell? ⟨g, 0, none⟩ = some a ∧ w.cell? ⟨g, 1, none⟩ = some b ∧ w.cell? ⟨g, 2, none⟩ = some c ∧ w.frozen? ⟨g, 0, none⟩ = false ∧ w.frozen? ⟨g, 1, none⟩ = false ∧ w.frozen? ⟨g, 2, none⟩ = false ∧ g < w.heap.size :=
  ⟨h.cell 0, h.cell 1, h.cell 2, h.frozen 0, h.frozen 1, h.frozen 2, h.lt⟩
theorem Blk.four {a b c d : Value} (h : Blk w g T #[a, b, c, d]) : w.cell? ⟨g, 0, none⟩ = some a ∧ w.cell? ⟨g, 1, none⟩ = some b ∧ w.cell? ⟨g, 2, none⟩ = some c ∧ w.cell? ⟨g, 3, none⟩ = some d ∧ w.frozen? ⟨g, 0, none⟩ = false ∧ w.frozen? ⟨g, 1, none⟩ = false ∧ w.frozen? ⟨g, 2, none⟩ = false ∧ w.frozen? ⟨g, 3, none⟩ = false ∧ g < w.heap.size :=
  ⟨h.cell 0, h.cell 1, h.cell 2, h.cell 3, h.frozen 0, h.frozen 1, h.frozen 2, h.frozen 3, h.lt⟩
theorem Blk.set2 {a b : Value} (h : Blk w g T #[a, b]) (u v : Value) : Blk ((w.setCell ⟨g, 0, none⟩ u).setCell ⟨g, 1, none⟩ v) g T #[u, v] := by
  have := (h.set_ 0 u).set_ 1 v
  simpa using this
end
end Go.Proofs.Ytljbjcnfkbmjkaa

namespace Go.Proofs.Ytljbjcnfkbmjkaa
open Go.RowKit

/-- A property of a table. -/
structure Pr where
  nm : ByteArray
  er : Int
/-- A kind of a table; where its ranges lie. -/
structure Kd where
  nm : ByteArray
  ad : Option Addr
  cp : Nat
  rs : List (Int × Int)
/-- A table. -/
structure Tab where
  ps : List Pr
  ks : List Kd
  pu : Int

def encI (x : Int) (_ : Nat) : Value := .int .i64 x
def encB (x : ByteArray) (_ : Nat) : Value := .string x
def encS (x : Int × Int) (j : Nat) : Value := if j = 0 then .int .i64 x.1 else .int .i64 x.2
def encP (x : Pr) (j : Nat) : Value := if j = 0 then .string x.nm else .int .i64 x.er
def encK (x : Kd) (j : Nat) : Value := if j = 0 then .string x.nm else .slice x.ad x.rs.length x.cp

/-- The cells at A on are those of the elements of l, in blocks below B. -/
def RowAt {α : Type} (sz : Nat) (enc : α → Nat → Value) (w : World) (B : Nat) (A : Option Addr) (l : List α) : Prop :=
  0 < l.length → ∃ b o, A = some ⟨b, o, none⟩ ∧ b < B ∧ ∀ i x, l[i]? = some x → ∀ j, j < sz → w.cell? ⟨b, o + i * sz + j, none⟩ = some (enc x j)

section
variable {α : Type} {sz B B' : Nat} {enc : α → Nat → Value} {w w' : World} {A : Option Addr} {l : List α}
theorem RowAt.nil : RowAt sz enc w B A ([] : List α) := fun h => absurd h (by simp)
theorem RowAt.keep (h : RowAt sz enc w B A l) (hk : ∀ p : Addr, p.block < B → w'.cell? p = w.cell? p) : RowAt sz enc w' B A l := fun hl => by
  obtain ⟨b, o, e, hb, hc⟩ := h hl
  exact ⟨b, o, e, hb, fun i x hx j hj => (hk _ hb).trans (hc i x hx j hj)⟩
theorem RowAt.mono (h : RowAt sz enc w B A l) (hB : B ≤ B') : RowAt sz enc w B' A l := fun hl => by
  obtain ⟨b, o, e, hb, hc⟩ := h hl
  exact ⟨b, o, e, by omega, hc⟩
theorem RowAt.below (h : RowAt sz enc w B A l) (hb : Below B' w w') (hB : B ≤ B') : RowAt sz enc w' B A l := h.keep fun _ hp => hb.cell (by omega)
theorem RowAt.take (h : RowAt sz enc w B A l) (n : Nat) : RowAt sz enc w B A (l.take n) := fun hl => by
  obtain ⟨b, o, e, hb, hc⟩ := h (by rw [List.length_take] at hl; omega)
  refine ⟨b, o, e, hb, fun i x hx j hj => hc i x ?_ j hj⟩
  by_cases hi : i < n
  · rwa [List.getElem?_take_of_lt hi] at hx
  · rw [List.getElem?_eq_none (by rw [List.length_take]; omega)] at hx; cases hx
theorem RowAt.two (h : RowAt 2 enc w B A l) {i : Nat} {x : α} (hi : l[i]? = some x) :
    ∃ b o, A = some ⟨b, o, none⟩ ∧ b < B ∧ w.cell? ⟨b, o + i * 2, none⟩ = some (enc x 0) ∧ w.cell? ⟨b, o + i * 2 + 1, none⟩ = some (enc x 1) := by
  obtain ⟨b, o, e, hb, hc⟩ := h (by have := (List.getElem?_eq_some_iff.1 hi).1; omega)
  exact ⟨b, o, e, hb, hc i x hi 0 (by omega), hc i x hi 1 (by omega)⟩
theorem RowAt.one (h : RowAt 1 enc w B A l) {i : Nat} {x : α} (hi : l[i]? = some x) :
    ∃ b o, A = some ⟨b, o, none⟩ ∧ b < B ∧ w.cell? ⟨b, o + i, none⟩ = some (enc x 0) := by
  obtain ⟨b, o, e, hb, hc⟩ := h (by have := (List.getElem?_eq_some_iff.1 hi).1; omega)
  have := hc i x hi 0 (by omega)
  rw [Nat.mul_one, Nat.add_zero] at this
  exact ⟨b, o, e, hb, this⟩
end
abbrev IntsAt := RowAt 1 encI
abbrev StrsAt := RowAt 1 encB
abbrev SpansAt := RowAt 2 encS
abbrev PropsAt := RowAt 2 encP
def KindsAt (w : World) (B : Nat) (A : Option Addr) (l : List Kd) : Prop := RowAt 2 encK w B A l ∧ ∀ k ∈ l, SpansAt w B k.ad k.rs ∧ k.rs.length ≤ 9223372036854775807

theorem ints_at {w : World} {B : Nat} {A : Option Addr} {l : List Int} (h : IntsAt w B A l) {i : Nat} {x : Int} (hi : l[i]? = some x) :
    ∃ b o, A = some ⟨b, o, none⟩ ∧ b < B ∧ w.cell? ⟨b, o + i, none⟩ = some (.int .i64 x) := h.one hi
theorem strs_at {w : World} {B : Nat} {A : Option Addr} {l : List ByteArray} (h : StrsAt w B A l) {i : Nat} {x : ByteArray} (hi : l[i]? = some x) :
    ∃ b o, A = some ⟨b, o, none⟩ ∧ b < B ∧ w.cell? ⟨b, o + i, none⟩ = some (.string x) := h.one hi
theorem spans_at {w : World} {B : Nat} {A : Option Addr} {l : List (Int × Int)} (h : SpansAt w B A l) {i : Nat} {x : Int × Int} (hi : l[i]? = some x) :
    ∃ b o, A = some ⟨b, o, none⟩ ∧ b < B ∧ w.cell? ⟨b, o + i * 2, none⟩ = some (.int .i64 x.1) ∧ w.cell? ⟨b, o + i * 2 + 1, none⟩ = some (.int .i64 x.2) := h.two hi
theorem props_at {w : World} {B : Nat} {A : Option Addr} {l : List Pr} (h : PropsAt w B A l) {i : Nat} {x : Pr} (hi : l[i]? = some x) :
    ∃ b o, A = some ⟨b, o, none⟩ ∧ b < B ∧ w.cell? ⟨b, o + i * 2, none⟩ = some (.string x.nm) ∧ w.cell? ⟨b, o + i * 2 + 1, none⟩ = some (.int .i64 x.er) := h.two hi
theorem kinds_at {w : World} {B : Nat} {A : Option Addr} {l : List Kd} (h : KindsAt w B A l) {i : Nat} {x : Kd} (hi : l[i]? = some x) :
    ∃ b o, A = some ⟨b, o, none⟩ ∧ b < B ∧ w.cell? ⟨b, o + i * 2, none⟩ = some (.string x.nm) ∧ w.cell? ⟨b, o + i * 2 + 1, none⟩ = some (.slice x.ad x.rs.length x.cp) ∧ SpansAt w B x.ad x.rs ∧ x.rs.length ≤ 9223372036854775807 := by
  obtain ⟨b, o, e, hb, h1, h2⟩ := h.1.two hi
  exact ⟨b, o, e, hb, h1, h2, h.2 x (List.mem_of_getElem? hi)⟩
theorem KindsAt.below {w w' : World} {B B' : Nat} {A : Option Addr} {l : List Kd} (h : KindsAt w B A l) (hb : Below B' w w') (hB : B ≤ B') : KindsAt w' B A l :=
  ⟨RowAt.below h.1 hb hB, fun k hk => ⟨RowAt.below (h.2 k hk).1 hb hB, (h.2 k hk).2⟩⟩
theorem KindsAt.mono {w : World} {B B' : Nat} {A : Option Addr} {l : List Kd} (h : KindsAt w B A l) (hB : B ≤ B') : KindsAt w B' A l :=
  ⟨RowAt.mono h.1 hB, fun k hk => ⟨RowAt.mono (h.2 k hk).1 hB, (h.2 k hk).2⟩⟩
theorem KindsAt.take {w : World} {B : Nat} {A : Option Addr} {l : List Kd} (h : KindsAt w B A l) (n : Nat) : KindsAt w B A (l.take n) :=
  ⟨RowAt.take h.1 n, fun k hk => h.2 k (List.mem_of_mem_take hk)⟩

/-- A table in memory. -/
structure TabAt (w : World) (B : Nat) (pa ka : Option Addr) (t : Tab) : Prop where
  ps : PropsAt w B pa t.ps
  ks : KindsAt w B ka t.ks
  lp : t.ps.length ≤ 9223372036854775807
  lk : t.ks.length ≤ 9223372036854775807
theorem TabAt.below {w w' : World} {B B' : Nat} {pa ka : Option Addr} {t : Tab} (h : TabAt w B pa ka t) (hb : Below B' w w') (hB : B ≤ B') : TabAt w' B pa ka t := ⟨RowAt.below h.ps hb hB, h.ks.below hb hB, h.lp, h.lk⟩
theorem TabAt.mono {w : World} {B B' : Nat} {pa ka : Option Addr} {t : Tab} (h : TabAt w B pa ka t) (hB : B ≤ B') : TabAt w B' pa ka t := ⟨RowAt.mono h.ps hB, h.ks.mono hB, h.lp, h.lk⟩
/-- .. and behind a call. -/
theorem TabAt.on {w w' : World} {pa ka : Option Addr} {t : Tab} (h : TabAt w w.heap.size pa ka t) (hb : Below w.heap.size w w') : TabAt w' w'.heap.size pa ka t := (h.below hb (Nat.le_refl _)).mono hb.size

theorem below_drewN' {B : Nat} {a w : World} (h : Below B a w) (n : Nat) : Below B a (w.drewN n) := ⟨h.os, h.tape, h.output, h.size, h.block⟩
/-- Two steps, the second one above all that was there. -/
theorem Below.then_ {a b c : World} {B : Nat} (h : Below B a b) (k : Below b.heap.size b c) (hB : B ≤ b.heap.size) : Below B a c := h.trans (k.mono hB)
/-- All that was in a cell is there yet. -/
theorem kept_of {W w' : World} (h : Below W.heap.size W w') : ∀ p v, W.cell? p = some v → w'.cell? p = some v := fun p v hv => by
  refine (h.cell (p := p) ?_).trans hv
  unfold World.cell? at hv
  rcases Nat.lt_or_ge p.block W.heap.size with hlt | hge
  · exact hlt
  · rw [Array.getElem?_eq_none hge] at hv; cases hv
theorem box4 {w w1 : World} {c0 c1 c2 c3 : Value} {T : TypeId} (hb : Below (w.alloc (.cells #[c0, c1, c2, c3] T)).heap.size (w.alloc (.cells #[c0, c1, c2, c3] T)) w1) :
    w1.cell? ⟨w.heap.size, 0, none⟩ = some c0 ∧ w1.cell? ⟨w.heap.size, 1, none⟩ = some c1 ∧ w1.cell? ⟨w.heap.size, 2, none⟩ = some c2 ∧ w1.cell? ⟨w.heap.size, 3, none⟩ = some c3 ∧ Below w.heap.size w w1 ∧ w.heap.size < w1.heap.size := by
  have hk := kept_of hb
  exact ⟨hk _ _ (by simp), hk _ _ (by simp), hk _ _ (by simp), hk _ _ (by simp), ((Below.refl _ w).alloc (Nat.le_refl _) _).trans (hb.mono (by simp)), by have := hb.size; simp at this; omega⟩
theorem box3 {w w1 : World} {c0 c1 c2 : Value} {T : TypeId} (hb : Below (w.alloc (.cells #[c0, c1, c2] T)).heap.size (w.alloc (.cells #[c0, c1, c2] T)) w1) :
    w1.cell? ⟨w.heap.size, 0, none⟩ = some c0 ∧ w1.cell? ⟨w.heap.size, 1, none⟩ = some c1 ∧ w1.cell? ⟨w.heap.size, 2, none⟩ = some c2 ∧ Below w.heap.size w w1 ∧ w.heap.size < w1.heap.size := by
  have hk := kept_of hb
  exact ⟨hk _ _ (by simp), hk _ _ (by simp), hk _ _ (by simp), ((Below.refl _ w).alloc (Nat.le_refl _) _).trans (hb.mono (by simp)), by have := hb.size; simp at this; omega⟩
theorem ret_i64 {a b : Int} (h : a = b) : Ending.returned (.int .i64 a) = .returned (.int .i64 b) := by rw [h]
theorem ret_bool {a b : Bool} (h : a = b) : Ending.returned (.bool a) = .returned (.bool b) := by rw [h]
theorem ret3 {R : Int × Int × Int} {a b c : Int} (h : R = (a, b, c)) : Ending.returned (.tuple #[.int .i64 a, .int .i64 b, .int .i64 c]) = .returned (.tuple #[.int .i64 R.1, .int .i64 R.2.1, .int .i64 R.2.2]) := by subst h; rfl
theorem ret_str {a b : ByteArray} (h : a = b) : Ending.returned (.string a) = .returned (.string b) := by rw [h]
end Go.Proofs.Ytljbjcnfkbmjkaa

namespace Go.Proofs.Ytljbjcnfkbmjkaa
open Go.RowKit Go.Shelf

theorem infoInt : (Try.prog.info? 3).map (fun i => (i.zero, i.size, i.bytes)) = some (some (.int .i64 0), 1, 8) := by kernel_rfl
theorem infoSp : (Try.prog.info? 23).map (fun i => (i.zero, i.size, i.bytes)) = some (some (.agg #[.int .i64 0, .int .i64 0]), 2, 16) := by kernel_rfl
/-- A slice of ints that comes in. -/
structure IntsIn (w : World) (ra : Option Addr) (l : List Int) : Prop where
  at_ : IntsAt w w.heap.size ra l
  len : l.length ≤ 9223372036854775807
theorem IntsIn.on {w w' : World} {ra : Option Addr} {l : List Int} (h : IntsIn w ra l) (hb : Below w.heap.size w w') : IntsIn w' ra l := ⟨(RowAt.below h.at_ hb (Nat.le_refl _)).mono hb.size, h.len⟩
structure SpansIn (w : World) (ra : Option Addr) (l : List (Int × Int)) : Prop where
  at_ : SpansAt w w.heap.size ra l
  len : l.length ≤ 9223372036854775807
theorem SpansIn.on {w w' : World} {ra : Option Addr} {l : List (Int × Int)} (h : SpansIn w ra l) (hb : Below w.heap.size w w') : SpansIn w' ra l := ⟨(RowAt.below h.at_ hb (Nat.le_refl _)).mono hb.size, h.len⟩
/-- Slices that a call made. -/
def IntsOut (B : Nat) (w' : World) (v : Value) (l : List Int) : Prop := w'.ownsRow B 3 1 v l.length (l.map (Value.int .i64))
def spanCells (l : List (Int × Int)) : List Value := l.flatMap fun p => [.int .i64 p.1, .int .i64 p.2]
def SpansOut (B : Nat) (w' : World) (v : Value) (l : List (Int × Int)) : Prop := w'.ownsRow B 23 2 v l.length (spanCells l)
theorem own_below {base : Nat} {e : TypeId} {size n : Nat} {v : Value} {xs : List Value} {w w' : World} (h : w.ownsRow base e size v n xs) (hb : Below w.heap.size w w') : w'.ownsRow base e size v n xs := by
  refine ⟨h.1, ?_⟩
  rcases h.2 with h2 | ⟨g, cap, cur, hv, hg, hh, r⟩
  · exact .inl h2
  · refine .inr ⟨g, cap, cur, hv, hg, (hb.block g ?_).trans hh, r⟩
    rcases Nat.lt_or_ge g w.heap.size with hlt | hge
    · exact hlt
    · rw [Array.getElem?_eq_none hge] at hh; cases hh
theorem own_base {B B' : Nat} {e : TypeId} {size n : Nat} {v : Value} {xs : List Value} {w : World} (h : w.ownsRow B e size v n xs) (hB : B' ≤ B) : w.ownsRow B' e size v n xs := by
  refine ⟨h.1, ?_⟩
  rcases h.2 with h2 | ⟨g, cap, cur, hv, hg, r⟩
  · exact .inl h2
  · exact .inr ⟨g, cap, cur, hv, by omega, r⟩
theorem own_slice {B n : Nat} {e : TypeId} {sz : Nat} {w : World} {v : Value} {xs : List Value} (h : w.ownsRow B e sz v n xs) : ∃ A c, v = .slice A n c := by
  rcases h.2 with ⟨hv, h0⟩ | ⟨g, cap, cur, hv, _⟩
  · exact ⟨_, _, by rw [hv, h0]⟩
  · exact ⟨_, _, hv⟩
theorem own_rowAt {α : Type} {e : TypeId} {sz B n c : Nat} {enc : α → Nat → Value} {w : World} {A : Option Addr} {l : List α} {xs : List Value} (h : w.ownsRow B e sz (.slice A n c) l.length xs)
    (hx : ∀ i x, l[i]? = some x → ∀ j, j < sz → xs[i * sz + j]? = some (enc x j)) : n = l.length ∧ RowAt sz enc w w.heap.size A l ∧ l.length ≤ c ∧ l.length ≤ maxLen := by
  rcases h.2 with ⟨hv, h0⟩ | ⟨g, cap, cur, hv, hg, hh, hle, hcap, hsz, hxs⟩
  · cases hv
    exact ⟨h0.symm, fun hl => by omega, by omega, by omega⟩
  · cases hv
    have hlt : g < w.heap.size := by
      rcases Nat.lt_or_ge g w.heap.size with h' | h'
      · exact h'
      · rw [Array.getElem?_eq_none h'] at hh; cases hh
    refine ⟨rfl, fun hl => ⟨g, 0, rfl, hlt, fun i x hi j hj => ?_⟩, hle, by omega⟩
    have h1 := hx i x hi j hj
    rw [← hxs, List.getElem?_take] at h1
    split at h1
    · rw [Array.getElem?_toList] at h1
      simp [World.cell?, hh, h1]
    · cases h1
theorem flat_two {α : Type} (f g : α → Value) : ∀ (l : List α) (i : Nat) (x : α), l[i]? = some x → (l.flatMap fun x => [f x, g x])[i * 2]? = some (f x) ∧ (l.flatMap fun x => [f x, g x])[i * 2 + 1]? = some (g x)
  | [], i, x, h => by simp at h
  | y :: l, 0, x, h => by simp at h; subst h; simp
  | y :: l, i + 1, x, h => by
    have := flat_two f g l i x (by simpa using h)
    simp only [List.flatMap_cons, List.cons_append, List.nil_append]
    rw [show (i + 1) * 2 = i * 2 + 1 + 1 by omega, show i * 2 + 1 + 1 + 1 = (i * 2 + 1) + 1 + 1 by omega]
    simpa using this
theorem pair_cells {α : Type} {enc : α → Nat → Value} {l : List α} {f g : α → Value} (h0 : ∀ x, enc x 0 = f x) (h1 : ∀ x, enc x 1 = g x) : ∀ i x, l[i]? = some x → ∀ j, j < 2 → (l.flatMap fun x => [f x, g x])[i * 2 + j]? = some (enc x j) := by
  intro i x hi j hj
  obtain ⟨a, b⟩ := flat_two f g l i x hi
  match j, hj with
  | 0, _ => rw [h0]; exact a
  | 1, _ => rw [h1]; exact b
theorem SpansOut.reads {B n c : Nat} {w : World} {A : Option Addr} {l : List (Int × Int)} (h : SpansOut B w (.slice A n c) l) : n = l.length ∧ SpansAt w w.heap.size A l ∧ l.length ≤ c ∧ l.length ≤ maxLen :=
  own_rowAt (enc := encS) h (pair_cells (fun _ => rfl) (fun _ => rfl))
theorem IntsOut.reads {B n c : Nat} {w : World} {A : Option Addr} {l : List Int} (h : IntsOut B w (.slice A n c) l) : n = l.length ∧ IntsAt w w.heap.size A l ∧ l.length ≤ c ∧ l.length ≤ maxLen :=
  own_rowAt (enc := encI) h (fun i x hi j hj => by
    obtain rfl : j = 0 := by omega
    rw [Nat.mul_one, Nat.add_zero, List.getElem?_map, hi]; rfl)
/-- A list that a call made, as one that comes in. -/
theorem IntsOut.in_ {B : Nat} {w : World} {v : Value} {l : List Int} (h : IntsOut B w v l) : ∃ A c, v = .slice A l.length c ∧ IntsIn w A l := by
  obtain ⟨A, c, rfl⟩ := own_slice h
  obtain ⟨_, h2, h3, h4⟩ := h.reads
  exact ⟨A, c, rfl, h2, by unfold maxLen at h4; omega⟩
theorem SpansOut.in_ {B : Nat} {w : World} {v : Value} {l : List (Int × Int)} (h : SpansOut B w v l) : ∃ A c, v = .slice A l.length c ∧ SpansIn w A l := by
  obtain ⟨A, c, rfl⟩ := own_slice h
  obtain ⟨_, h2, h3, h4⟩ := h.reads
  exact ⟨A, c, rfl, h2, by unfold maxLen at h4; omega⟩
theorem IntsOut.nil (B : Nat) (w : World) : IntsOut B w (.slice none 0 0) [] := World.ownsRow_nil _ _ _ _
theorem SpansOut.nil (B : Nat) (w : World) : SpansOut B w (.slice none 0 0) [] := World.ownsRow_nil _ _ _ _
theorem IntsIn.nil (w : World) (A : Option Addr) : IntsIn w A [] := ⟨RowAt.nil, by simp⟩
theorem new_two (w : World) (u v : Value) (T : TypeId) (g : Nat) (hg : g = w.heap.size) : (w.alloc (.cells #[u, v] T)).heap[g]? = some (.cells #[u, v] T (0, 0)) := by subst hg; exact heap_alloc_new w _
theorem meas_one {n k : Nat} (h : k < n) : n - (intOf (Value.int .i64 ((k : Int) + 1))).toNat < n - (intOf (Value.int .i64 (k : Int))).toNat := by
  have h4 : ((k : Int) + 1).toNat = k + 1 := by omega
  simp only [intOf, h4, Int.toNat_natCast]
  omega
/-- These cells hold these values. -/
structure Held (cs : List (Nat × Nat × Value)) (W : World) : Prop where
  at_ : ∀ c ∈ cs, c.1 < W.heap.size ∧ W.cell? ⟨c.1, c.2.1, none⟩ = some c.2.2
theorem Held.on {cs : List (Nat × Nat × Value)} {W W' : World} (h : Held cs W) (hb : Below W.heap.size W W') : Held cs W' :=
  ⟨fun c hc => ⟨Nat.lt_of_lt_of_le (h.at_ c hc).1 hb.size, (hb.cell (p := ⟨c.1, c.2.1, none⟩) (h.at_ c hc).1).trans (h.at_ c hc).2⟩⟩
theorem Held.nil (W : World) : Held [] W := ⟨fun _ h => by cases h⟩
theorem Held.cons {cs : List (Nat × Nat × Value)} {W : World} {b o : Nat} {v : Value} (hb : b < W.heap.size) (hc : W.cell? ⟨b, o, none⟩ = some v) (h : Held cs W) : Held ((b, o, v) :: cs) W :=
  ⟨fun c hm => by
    rcases List.mem_cons.1 hm with rfl | hm
    · exact ⟨hb, hc⟩
    · exact h.at_ c hm⟩
/-- The cells, one by one, and all of them again. -/
def heldP (W : World) (P : Prop) : List (Nat × Nat × Value) → Prop
  | [] => P
  | c :: cs => W.cell? ⟨c.1, c.2.1, none⟩ = some c.2.2 ∧ heldP W P cs
theorem heldP_of {W : World} {P : Prop} (hP : P) : ∀ (cs : List (Nat × Nat × Value)), (∀ c ∈ cs, W.cell? ⟨c.1, c.2.1, none⟩ = some c.2.2) → heldP W P cs
  | [], _ => hP
  | c :: cs, h => ⟨h c (by simp), heldP_of hP cs fun d hd => h d (by simp [hd])⟩
/-- .. behind what was there at the start. -/
structure HeldB (w : World) (cs : List (Nat × Nat × Value)) (W : World) : Prop where
  held : Held cs W
  b : Below w.heap.size w W
theorem HeldB.on {w W W' : World} {cs : List (Nat × Nat × Value)} (h : HeldB w cs W) (hb : Below W.heap.size W W') : HeldB w cs W' := ⟨h.held.on hb, h.b.trans (hb.mono h.b.size)⟩
theorem HeldB.alloc {w W : World} {cs : List (Nat × Nat × Value)} (h : HeldB w cs W) (o : Obj) : HeldB w cs (W.alloc o) := h.on ((Below.refl _ W).alloc (Nat.le_refl _) _)
theorem HeldB.drew {w W : World} {cs : List (Nat × Nat × Value)} (h : HeldB w cs W) : HeldB w cs W.drew := h.on (Below.refl _ W).drew
theorem HeldB.all {w W : World} {cs : List (Nat × Nat × Value)} (h : HeldB w cs W) : heldP W (HeldB w cs W) cs := heldP_of h cs fun c hc => (h.held.at_ c hc).2
end Go.Proofs.Ytljbjcnfkbmjkaa

namespace Go.Proofs.Ytljbjcnfkbmjkaa
open Go.RowKit Go.Shelf

theorem und_ints : Try.prog.underlying 26 = some (.slice 3) := by kernel_rfl
theorem und_spans : Try.prog.underlying 34 = some (.slice 23) := by kernel_rfl
theorem news_int {w : World} {g0 : Nat} {z : Int} (hc : Blk w g0 3 #[.int .i64 z]) : ∀ j u, ([Value.int .i64 z] : List Value)[j]? = some u → w.cell? ((⟨g0, 0, none⟩ : Addr).add j) = some u := by
  intro j u hj
  match j, hj with
  | 0, hj => simp at hj; subst hj; have h := hc.cell 0; simpa [Addr.add] using h
theorem news_span {w : World} {g0 : Nat} {T : TypeId} {a b : Int} (hc : Blk w g0 T #[.int .i64 a, .int .i64 b]) : ∀ j u, ([Value.int .i64 a, .int .i64 b] : List Value)[j]? = some u → w.cell? ((⟨g0, 0, none⟩ : Addr).add j) = some u := by
  intro j u hj
  match j, hj with
  | 0, hj => simp at hj; subst hj; have h := hc.cell 0; simpa [Addr.add] using h
  | 1, hj => simp at hj; subst hj; have h := hc.cell 1; simpa [Addr.add] using h
theorem spanCells_snoc (l : List (Int × Int)) (a b : Int) : spanCells (l ++ [(a, b)]) = spanCells l ++ [.int .i64 a, .int .i64 b] := by simp [spanCells]
theorem own_low {B : Nat} {e : TypeId} {sz n : Nat} {w w' : World} {v : Value} {xs : List Value} (h : w.ownsRow B e sz v n xs) (hg : w.grownBy w' v.ownBlock) (hB : B ≤ w.heap.size) : Below B w w' :=
  (Below.refl B w).grown hg hB (fun r e => (World.ownsRow.lt h r e).1)
section
variable {ops : Array Oper} {rest : List Oper} {o : Oper} {a : Act} {w : World} {Q : Exit → Act → World → Prop} {K : Act → World → Prop} {E : Prop} {B g0 : Nat} {v : Value}
theorem app_list (hgd : o.guard = none) (s x : Operand) (ho : o.op = .call { callee := .builtin .append, args := #[s, x], argTypes := #[26, 26] })
    {l : List Int} (hs : a.eval s = v) (hown : IntsOut B w v l) (z : Int) (hx : a.eval x = .slice (some ⟨g0, 0, none⟩) 1 1) (hc : Blk w g0 3 #[.int .i64 z]) (hl : l.length < 1000000) (hB : B ≤ w.heap.size)
    (h : ∀ g cap w', IntsOut B w' (.slice (some ⟨g, 0, none⟩) (l.length + 1) cap) (l ++ [z]) → Below B w w' → w.grownBy w' v.ownBlock → (v.ownBlock = some g ∨ g = w.heap.size) → wpList Try.prog ops Q rest (a.put o.dst (.slice (some ⟨g, 0, none⟩) (l.length + 1) cap)) w') : wpList Try.prog ops Q (o :: rest) a w := by
  obtain ⟨i0, hi0, hz0, hz1, hz2⟩ := info_parts infoInt
  refine wpList_append_lies w hgd s x 26 ho B 3 i0 (.int .i64 0) 1 8 und_ints hi0 hz0 hz1 hz2 rfl (by decide) v l.length (l.map (Value.int .i64)) hs hown ⟨g0, 0, none⟩ 1 1 [.int .i64 z] hx rfl (news_int hc) (by simp [Value.oneCell']) (by decide) (by unfold maxLen; omega) (by omega) hB _ rfl ?_
  intro g cap w' h1 h2 h3 _
  exact h g cap w' (by unfold IntsOut; simpa using h1) (own_low hown h2 hB) h2 h3
theorem app_step (hgd : o.guard = none) (s x : Operand) (ho : o.op = .call { callee := .builtin .append, args := #[s, x], argTypes := #[26, 26] })
    {l : List Int} (hs : a.eval s = v) (hown : IntsOut B w v l) (z : Int) (hx : a.eval x = .slice (some ⟨g0, 0, none⟩) 1 1) (hc : Blk w g0 3 #[.int .i64 z]) (hl : l.length < 1000000) (hB : B ≤ w.heap.size)
    (h : ∀ g cap w', IntsOut B w' (.slice (some ⟨g, 0, none⟩) (l.length + 1) cap) (l ++ [z]) → Below B w w' → w.grownBy w' v.ownBlock → (v.ownBlock = some g ∨ g = w.heap.size) → K (a.put o.dst (.slice (some ⟨g, 0, none⟩) (l.length + 1) cap)) w') : if Region.wanted o (yielded ops a.tmps) = true then Oper.wp Try.prog o a w K Q else E := by
  obtain ⟨i0, hi0, hz0, hz1, hz2⟩ := info_parts infoInt
  refine step_append_lies w hgd s x 26 ho B 3 i0 (.int .i64 0) 1 8 und_ints hi0 hz0 hz1 hz2 rfl (by decide) v l.length (l.map (Value.int .i64)) hs hown ⟨g0, 0, none⟩ 1 1 [.int .i64 z] hx rfl (news_int hc) (by simp [Value.oneCell']) (by decide) (by unfold maxLen; omega) (by omega) hB _ rfl ?_
  intro g cap w' h1 h2 h3 _
  exact h g cap w' (by unfold IntsOut; simpa using h1) (own_low hown h2 hB) h2 h3
theorem apps_list (hgd : o.guard = none) (s x : Operand) (ho : o.op = .call { callee := .builtin .append, args := #[s, x], argTypes := #[34, 34] })
    {l : List (Int × Int)} (hs : a.eval s = v) (hown : SpansOut B w v l) (z1 z2 : Int) (hx : a.eval x = .slice (some ⟨g0, 0, none⟩) 1 1) (hc : Blk w g0 23 #[.int .i64 z1, .int .i64 z2]) (hl : l.length < 1000000) (hB : B ≤ w.heap.size)
    (h : ∀ g cap w', SpansOut B w' (.slice (some ⟨g, 0, none⟩) (l.length + 1) cap) (l ++ [(z1, z2)]) → Below B w w' → w.grownBy w' v.ownBlock → (v.ownBlock = some g ∨ g = w.heap.size) → wpList Try.prog ops Q rest (a.put o.dst (.slice (some ⟨g, 0, none⟩) (l.length + 1) cap)) w') : wpList Try.prog ops Q (o :: rest) a w := by
  obtain ⟨i0, hi0, hz0, hz1, hz2⟩ := info_parts infoSp
  refine wpList_append_lies w hgd s x 34 ho B 23 i0 (.agg #[.int .i64 0, .int .i64 0]) 2 16 und_spans hi0 hz0 hz1 hz2 rfl (by decide) v l.length (spanCells l) hs hown ⟨g0, 0, none⟩ 1 1 [.int .i64 z1, .int .i64 z2] hx rfl (news_span hc) (by simp [Value.oneCell']) (by decide) (by unfold maxLen; omega) (by omega) hB _ rfl ?_
  intro g cap w' h1 h2 h3 _
  exact h g cap w' (by unfold SpansOut; rw [spanCells_snoc, List.length_append]; exact h1) (own_low hown h2 hB) h2 h3
theorem apps_step (hgd : o.guard = none) (s x : Operand) (ho : o.op = .call { callee := .builtin .append, args := #[s, x], argTypes := #[34, 34] })
    {l : List (Int × Int)} (hs : a.eval s = v) (hown : SpansOut B w v l) (z1 z2 : Int) (hx : a.eval x = .slice (some ⟨g0, 0, none⟩) 1 1) (hc : Blk w g0 23 #[.int .i64 z1, .int .i64 z2]) (hl : l.length < 1000000) (hB : B ≤ w.heap.size)
    (h : ∀ g cap w', SpansOut B w' (.slice (some ⟨g, 0, none⟩) (l.length + 1) cap) (l ++ [(z1, z2)]) → Below B w w' → w.grownBy w' v.ownBlock → (v.ownBlock = some g ∨ g = w.heap.size) → K (a.put o.dst (.slice (some ⟨g, 0, none⟩) (l.length + 1) cap)) w') : if Region.wanted o (yielded ops a.tmps) = true then Oper.wp Try.prog o a w K Q else E := by
  obtain ⟨i0, hi0, hz0, hz1, hz2⟩ := info_parts infoSp
  refine step_append_lies w hgd s x 34 ho B 23 i0 (.agg #[.int .i64 0, .int .i64 0]) 2 16 und_spans hi0 hz0 hz1 hz2 rfl (by decide) v l.length (spanCells l) hs hown ⟨g0, 0, none⟩ 1 1 [.int .i64 z1, .int .i64 z2] hx rfl (news_span hc) (by simp [Value.oneCell']) (by decide) (by unfold maxLen; omega) (by omega) hB _ rfl ?_
  intro g cap w' h1 h2 h3 _
  exact h g cap w' (by unfold SpansOut; rw [spanCells_snoc, List.length_append]; exact h1) (own_low hown h2 hB) h2 h3
end
/-- Appends to a slice that grew stand behind what was there. -/
theorem Blk.grownOut {B g : Nat} {T : TypeId} {cs : Array Value} {e : TypeId} {sz n : Nat} {w w' : World} {v : Value} {xs : List Value} (h : Blk w g T cs) (hown : w.ownsRow B e sz v n xs) (hg : w.grownBy w' v.ownBlock) (hlt : g < B) : Blk w' g T cs :=
  (hg.block g h.lt (fun e => by have := (World.ownsRow.lt hown _ e.symm).1; omega)).trans h
end Go.Proofs.Ytljbjcnfkbmjkaa
