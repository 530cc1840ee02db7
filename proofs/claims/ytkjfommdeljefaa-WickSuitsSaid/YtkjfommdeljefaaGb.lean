/- Layer wick, a part: words for memory, regions. No statement is proved here. -/
import Derived.WalkKit
import Derived.Deep.Draws
import Derived.Lib.Hide
import Derived.Test.YtkjfommdeljefaaQa
import Derived.Test.YtkjfommdeljefaaProg
import Derived.Deep.AppendLies
import Derived.OwnWalk
import Derived.Deep.DeepCutAuto
import Derived.WalkSpells
import Derived.WalkLawsBesides
import Derived.Outline
import Derived.Deep.RegionHeld3
import Derived.Deep.QuietTactic
import Derived.BigQuiet
import Derived.Shelf.Abstract
import Derived.Deep.RegionWith
import Derived.RegionDies
import Derived.Deep.RegionLaw
namespace Go.Proofs.Ytkjfommdeljefaa
open Go.RowKit

/-- Block g is just these cells, none of them frozen. -/
def Blk (w : World) (g : Nat) (T : TypeId) (cs : Array Value) : Prop := w.heap[g]? = some (.cells cs T (0, 0))
section
variable {w w' : World} {g : Nat} {T : TypeId} {cs : Array Value}
theorem Blk.lt (h : Blk w g T cs) : g < w.heap.size := by
  rcases Nat.lt_or_ge g w.heap.size with hlt | hge
  · exact hlt
  · unfold Blk at h; rw [Array.getElem?_eq_none hge] at h; cases h
theorem Blk.new (w : World) (T : TypeId) (cs : Array Value) : Blk (w.alloc (.cells cs T)) w.heap.size T cs := heap_alloc_new w _
theorem Blk.new1 (w : World) (T : TypeId) (cs : Array Value) (o : Obj) : Blk ((w.alloc o).alloc (.cells cs T)) (w.heap.size + 1) T cs := by simpa using Blk.new (w.alloc o) T cs
theorem Blk.new2 (w : World) (T : TypeId) (cs : Array Value) (o o' : Obj) : Blk (((w.alloc o).alloc o').alloc (.cells cs T)) (w.heap.size + 1 + 1) T cs := by simpa using Blk.new ((w.alloc o).alloc o') T cs
theorem Blk.new3 (w : World) (T : TypeId) (cs : Array Value) (o o' o'' : Obj) : Blk ((((w.alloc o).alloc o').alloc o'').alloc (.cells cs T)) (w.heap.size + 3) T cs := by simpa using Blk.new (((w.alloc o).alloc o').alloc o'') T cs
theorem Blk.new4 (w : World) (T : TypeId) (cs : Array Value) (o o' o'' o3 : Obj) : Blk (((((w.alloc o).alloc o').alloc o'').alloc o3).alloc (.cells cs T)) (w.heap.size + 4) T cs := by simpa using Blk.new ((((w.alloc o).alloc o').alloc o'').alloc o3) T cs
theorem Blk.drew (h : Blk w g T cs) : Blk w.drew g T cs := h
theorem Blk.alloc (h : Blk w g T cs) (o : Obj) : Blk (w.alloc o) g T cs := (Below.heap_alloc w o g h.lt).trans h
theorem Blk.on (h : Blk w g T cs) (hb : Below w.heap.size w w') : Blk w' g T cs := (hb.block g h.lt).trans h
theorem Blk.below {B : Nat} (h : Blk w g T cs) (hb : Below B w w') (hB : g < B) : Blk w' g T cs := (hb.block g hB).trans h
theorem Blk.cell (h : Blk w g T cs) (i : Nat) : w.cell? ⟨g, i, none⟩ = cs[i]? := cell_of_row w g i cs T (0, 0) h
theorem Blk.frozen (h : Blk w g T cs) (i : Nat) : w.frozen? ⟨g, i, none⟩ = false := by
  unfold Blk at h
  simp [World.frozen?, h]
theorem Blk.far (h : Blk w g T cs) {p : Addr} (hp : g ≠ p.block) (u : Value) : Blk (w.setCell p u) g T cs := (Below.heap_setCell w p u g hp).trans h
theorem Blk.set_ (h : Blk w g T cs) (i : Nat) (u : Value) : Blk (w.setCell ⟨g, i, none⟩ u) g T (cs.setIfInBounds i u) := by
  unfold Blk at h ⊢
  simp [World.setCell, Array.getElem?_modify, h]
theorem Blk.one {a : Value} (h : Blk w g T #[a]) : w.cell? ⟨g, 0, none⟩ = some a ∧ w.frozen? ⟨g, 0, none⟩ = false ∧ g < w.heap.size := ⟨h.cell 0, h.frozen 0, h.lt⟩
theorem Blk.two {a b : Value} (h : Blk w g T #[a, b]) : w.cell? ⟨g, 0, none⟩ = some a ∧ w.cell? ⟨g, 1, none⟩ = some b ∧ w.frozen? ⟨g, 0, none⟩ = false ∧ w.frozen? ⟨g, 1, none⟩ = false ∧ g < w.heap.size :=
  ⟨h.cell 0, h.cell 1, h.frozen 0, h.frozen 1, h.lt⟩
theorem Blk.three {a b c : Value} (h : Blk w g T #[a, b, c]) : w.cell? ⟨g, 0, none⟩ = some a ∧ w.cell? ⟨g, 1, none⟩ = some b ∧ w.cell? ⟨g, 2, none⟩ = some c ∧ w.frozen? ⟨g, 0, none⟩ = false ∧ w.frozen? ⟨g, 1, none⟩ = false ∧ w.frozen? ⟨g, 2, none⟩ = false ∧ g < w.heap.size :=
  ⟨h.cell 0, h.cell 1, h.cell 2, h.frozen 0, h.frozen 1, h.frozen 2, h.lt⟩
theorem Blk.four {a b c d : Value} (h : Blk w g T #[a, b, c, d]) : w.cell? ⟨g, 0, none⟩ = some a ∧ w.cell? ⟨g, 1, none⟩ = some b ∧ w.cell? ⟨g, 2, none⟩ = some c ∧ w.cell? ⟨g, 3, none⟩ = some d ∧ w.frozen? ⟨g, 0, none⟩ = false ∧ w.frozen? ⟨g, 1, none⟩ = false ∧ w.frozen? ⟨g, 2, none⟩ = false ∧ w.frozen? ⟨g, 3, none⟩ = false ∧ g < w.heap.size :=
  ⟨h.cell 0, h.cell 1, h.cell 2, h.cell 3, h.frozen 0, h.frozen 1, h.frozen 2, h.frozen 3, h.lt⟩
theorem Blk.set2 {a b : Value} (h : Blk w g T #[a, b]) (u v : Value) : Blk ((w.setCell ⟨g, 0, none⟩ u).setCell ⟨g, 1, none⟩ v) g T #[u, v] := by
  have := (h.set_ 0 u).set_ 1 v
  simpa using this
end
end Go.Proofs.Ytkjfommdeljefaa

namespace Go.Proofs.Ytkjfommdeljefaa
open Go.RowKit

/-- A property of a table. -/
structure Pr where
  nm : ByteArray
  er : Int
/-- A kind of a table; where its ranges lie. -/
structure Kd where
  nm : ByteArray
  ad : Option Addr
  cp : Nat
  rs : List (Int × Int)
/-- A table. -/
structure Tab where
  ps : List Pr
  ks : List Kd
  pu : Int

def encI (x : Int) (_ : Nat) : Value := .int .i64 x
def encB (x : ByteArray) (_ : Nat) : Value := .string x
def encS (x : Int × Int) (j : Nat) : Value := if j = 0 then .int .i64 x.1 else .int .i64 x.2
def encP (x : Pr) (j : Nat) : Value := if j = 0 then .string x.nm else .int .i64 x.er
def encK (x : Kd) (j : Nat) : Value := if j = 0 then .string x.nm else .slice x.ad x.rs.length x.cp

/-- The cells at A on are those of the elements of l, in blocks below B. -/
def RowAt {α : Type} (sz : Nat) (enc : α → Nat → Value) (w : World) (B : Nat) (A : Option Addr) (l : List α) : Prop :=
  0 < l.length → ∃ b o, A = some ⟨b, o, none⟩ ∧ b < B ∧ ∀ i x, l[i]? = some x → ∀ j, j < sz → w.cell? ⟨b, o + i * sz + j, none⟩ = some (enc x j)

section
variable {α : Type} {sz B B' : Nat} {enc : α → Nat → Value} {w w' : World} {A : Option Addr} {l : List α}
theorem RowAt.nil : RowAt sz enc w B A ([] : List α) := fun h => absurd h (by simp)
theorem RowAt.keep (h : RowAt sz enc w B A l) (hk : ∀ p : Addr, p.block < B → w'.cell? p = w.cell? p) : RowAt sz enc w' B A l := fun hl => by
  obtain ⟨b, o, e, hb, hc⟩ := h hl
  exact ⟨b, o, e, hb, fun i x hx j hj => (hk _ hb).trans (hc i x hx j hj)⟩
theorem RowAt.mono (h : RowAt sz enc w B A l) (hB : B ≤ B') : RowAt sz enc w B' A l := fun hl => by
  obtain ⟨b, o, e, hb, hc⟩ := h hl
  exact ⟨b, o, e, by omega, hc⟩
theorem RowAt.below (h : RowAt sz enc w B A l) (hb : Below B' w w') (hB : B ≤ B') : RowAt sz enc w' B A l := h.keep fun _ hp => hb.cell (by omega)
theorem RowAt.take (h : RowAt sz enc w B A l) (n : Nat) : RowAt sz enc w B A (l.take n) := fun hl => by
  obtain ⟨b, o, e, hb, hc⟩ := h (by rw [List.length_take] at hl; omega)
  refine ⟨b, o, e, hb, fun i x hx j hj => hc i x ?_ j hj⟩
  by_cases hi : i < n
  · rwa [List.getElem?_take_of_lt hi] at hx
  · rw [List.getElem?_eq_none (by rw [List.length_take]; omega)] at hx; cases hx
theorem RowAt.two (h : RowAt 2 enc w B A l) {i : Nat} {x : α} (hi : l[i]? = some x) :
    ∃ b o, A = some ⟨b, o, none⟩ ∧ b < B ∧ w.cell? ⟨b, o + i * 2, none⟩ = some (enc x 0) ∧ w.cell? ⟨b, o + i * 2 + 1, none⟩ = some (enc x 1) := by
  obtain ⟨b, o, e, hb, hc⟩ := h (by have := (List.getElem?_eq_some_iff.1 hi).1; omega)
  exact ⟨b, o, e, hb, hc i x hi 0 (by omega), hc i x hi 1 (by omega)⟩
theorem RowAt.one (h : RowAt 1 enc w B A l) {i : Nat} {x : α} (hi : l[i]? = some x) :
    ∃ b o, A = some ⟨b, o, none⟩ ∧ b < B ∧ w.cell? ⟨b, o + i, none⟩ = some (enc x 0) := by
  obtain ⟨b, o, e, hb, hc⟩ := h (by have := (List.getElem?_eq_some_iff.1 hi).1; omega)
  have := hc i x hi 0 (by omega)
  rw [Nat.mul_one, Nat.add_zero] at this
  exact ⟨b, o, e, hb, this⟩
end
abbrev IntsAt := RowAt 1 encI
abbrev StrsAt := RowAt 1 encB
abbrev SpansAt := RowAt 2 encS
abbrev PropsAt := RowAt 2 encP
def KindsAt (w : World) (B : Nat) (A : Option Addr) (l : List Kd) : Prop := RowAt 2 encK w B A l ∧ ∀ k ∈ l, SpansAt w B k.ad k.rs ∧ k.rs.length ≤ 9223372036854775807

theorem ints_at {w : World} {B : Nat} {A : Option Addr} {l : List Int} (h : IntsAt w B A l) {i : Nat} {x : Int} (hi : l[i]? = some x) :
    ∃ b o, A = some ⟨b, o, none⟩ ∧ b < B ∧ w.cell? ⟨b, o + i, none⟩ = some (.int .i64 x) := h.one hi
theorem strs_at {w : World} {B : Nat} {A : Option Addr} {l : List ByteArray} (h : StrsAt w B A l) {i : Nat} {x : ByteArray} (hi : l[i]? = some x) :
    ∃ b o, A = some ⟨b, o, none⟩ ∧ b < B ∧ w.cell? ⟨b, o + i, none⟩ = some (.string x) := h.one hi
theorem spans_at {w : World} {B : Nat} {A : Option Addr} {l : List (Int × Int)} (h : SpansAt w B A l) {i : Nat} {x : Int × Int} (hi : l[i]? = some x) :
    ∃ b o, A = some ⟨b, o, none⟩ ∧ b < B ∧ w.cell? ⟨b, o + i * 2, none⟩ = some (.int .i64 x.1) ∧ w.cell? ⟨b, o + i * 2 + 1, none⟩ = some (.int .i64 x.2) := h.two hi
theorem props_at {w : World} {B : Nat} {A : Option Addr} {l : List Pr} (h : PropsAt w B A l) {i : Nat} {x : Pr} (hi : l[i]? = some x) :
    ∃ b o, A = some ⟨b, o, none⟩ ∧ b < B ∧ w.cell? ⟨b, o + i * 2, none⟩ = some (.string x.nm) ∧ w.cell? ⟨b, o + i * 2 + 1, none⟩ = some (.int .i64 x.er) := h.two hi
theorem kinds_at {w : World} {B : Nat} {A : Option Addr} {l : List Kd} (h : KindsAt w B A l) {i : Nat} {x : Kd} (hi : l[i]? = some x) :
    ∃ b o, A = some ⟨b, o, none⟩ ∧ b < B ∧ w.cell? ⟨b, o + i * 2, none⟩ = some (.string x.nm) ∧ w.cell? ⟨b, o + i * 2 + 1, none⟩ = some (.slice x.ad x.rs.length x.cp) ∧ SpansAt w B x.ad x.rs ∧ x.rs.length ≤ 9223372036854775807 := by
  obtain ⟨b, o, e, hb, h1, h2⟩ := h.1.two hi
  exact ⟨b, o, e, hb, h1, h2, h.2 x (List.mem_of_getElem? hi)⟩
theorem KindsAt.below {w w' : World} {B B' : Nat} {A : Option Addr} {l : List Kd} (h : KindsAt w B A l) (hb : Below B' w w') (hB : B ≤ B') : KindsAt w' B A l :=
  ⟨RowAt.below h.1 hb hB, fun k hk => ⟨RowAt.below (h.2 k hk).1 hb hB, (h.2 k hk).2⟩⟩
theorem KindsAt.mono {w : World} {B B' : Nat} {A : Option Addr} {l : List Kd} (h : KindsAt w B A l) (hB : B ≤ B') : KindsAt w B' A l :=
  ⟨RowAt.mono h.1 hB, fun k hk => ⟨RowAt.mono (h.2 k hk).1 hB, (h.2 k hk).2⟩⟩
theorem KindsAt.take {w : World} {B : Nat} {A : Option Addr} {l : List Kd} (h : KindsAt w B A l) (n : Nat) : KindsAt w B A (l.take n) :=
  ⟨RowAt.take h.1 n, fun k hk => h.2 k (List.mem_of_mem_take hk)⟩

/-- A table in memory. -/
structure TabAt (w : World) (B : Nat) (pa ka : Option Addr) (t : Tab) : Prop where
  ps : PropsAt w B pa t.ps
  ks : KindsAt w B ka t.ks
  lp : t.ps.length ≤ 9223372036854775807
  lk : t.ks.length ≤ 9223372036854775807
theorem TabAt.below {w w' : World} {B B' : Nat} {pa ka : Option Addr} {t : Tab} (h : TabAt w B pa ka t) (hb : Below B' w w') (hB : B ≤ B') : TabAt w' B pa ka t := ⟨RowAt.below h.ps hb hB, h.ks.below hb hB, h.lp, h.lk⟩
theorem TabAt.mono {w : World} {B B' : Nat} {pa ka : Option Addr} {t : Tab} (h : TabAt w B pa ka t) (hB : B ≤ B') : TabAt w B' pa ka t := ⟨RowAt.mono h.ps hB, h.ks.mono hB, h.lp, h.lk⟩
/-- .. and behind a call. -/
theorem TabAt.on {w w' : World} {pa ka : Option Addr} {t : Tab} (h : TabAt w w.heap.size pa ka t) (hb : Below w.heap.size w w') : TabAt w' w'.heap.size pa ka t := (h.below hb (Nat.le_refl _)).mono hb.size

theorem below_drewN' {B : Nat} {a w : World} (h : Below B a w) (n : Nat) : Below B a (w.drewN n) := ⟨h.os, h.tape, h.output, h.size, h.block⟩
/-- Two steps, the second one above all that was there. -/
theorem Below.then_ {a b c : World} {B : Nat} (h : Below B a b) (k : Below b.heap.size b c) (hB : B ≤ b.heap.size) : Below B a c := h.trans (k.mono hB)
/-- All that was in a cell is there yet. -/
theorem kept_of {W w' : World} (h : Below W.heap.size W w') : ∀ p v, W.cell? p = some v → w'.cell? p = some v := fun p v hv => by
  refine (h.cell (p := p) ?_).trans hv
  unfold World.cell? at hv
  rcases Nat.lt_or_ge p.block W.heap.size with hlt | hge
  · exact hlt
  · rw [Array.getElem?_eq_none hge] at hv; cases hv
theorem box4 {w w1 : World} {c0 c1 c2 c3 : Value} {T : TypeId} (hb : Below (w.alloc (.cells #[c0, c1, c2, c3] T)).heap.size (w.alloc (.cells #[c0, c1, c2, c3] T)) w1) :
    w1.cell? ⟨w.heap.size, 0, none⟩ = some c0 ∧ w1.cell? ⟨w.heap.size, 1, none⟩ = some c1 ∧ w1.cell? ⟨w.heap.size, 2, none⟩ = some c2 ∧ w1.cell? ⟨w.heap.size, 3, none⟩ = some c3 ∧ Below w.heap.size w w1 ∧ w.heap.size < w1.heap.size := by
  have hk := kept_of hb
  exact ⟨hk _ _ (by simp), hk _ _ (by simp), hk _ _ (by simp), hk _ _ (by simp), ((Below.refl _ w).alloc (Nat.le_refl _) _).trans (hb.mono (by simp)), by have := hb.size; simp at this; omega⟩
theorem box3 {w w1 : World} {c0 c1 c2 : Value} {T : TypeId} (hb : Below (w.alloc (.cells #[c0, c1, c2] T)).heap.size (w.alloc (.cells #[c0, c1, c2] T)) w1) :
    w1.cell? ⟨w.heap.size, 0, none⟩ = some c0 ∧ w1.cell? ⟨w.heap.size, 1, none⟩ = some c1 ∧ w1.cell? ⟨w.heap.size, 2, none⟩ = some c2 ∧ Below w.heap.size w w1 ∧ w.heap.size < w1.heap.size := by
  have hk := kept_of hb
  exact ⟨hk _ _ (by simp), hk _ _ (by simp), hk _ _ (by simp), ((Below.refl _ w).alloc (Nat.le_refl _) _).trans (hb.mono (by simp)), by have := hb.size; simp at this; omega⟩
theorem ret_i64 {a b : Int} (h : a = b) : Ending.returned (.int .i64 a) = .returned (.int .i64 b) := by rw [h]
theorem ret_bool {a b : Bool} (h : a = b) : Ending.returned (.bool a) = .returned (.bool b) := by rw [h]
theorem ret3 {R : Int × Int × Int} {a b c : Int} (h : R = (a, b, c)) : Ending.returned (.tuple #[.int .i64 a, .int .i64 b, .int .i64 c]) = .returned (.tuple #[.int .i64 R.1, .int .i64 R.2.1, .int .i64 R.2.2]) := by subst h; rfl
theorem ret_str {a b : ByteArray} (h : a = b) : Ending.returned (.string a) = .returned (.string b) := by rw [h]
end Go.Proofs.Ytkjfommdeljefaa

namespace Go.Proofs.Ytkjfommdeljefaa
open Go.RowKit Go.Shelf

theorem infoInt : (Try.prog.info? 3).map (fun i => (i.zero, i.size, i.bytes)) = some (some (.int .i64 0), 1, 8) := by kernel_rfl
theorem infoSp : (Try.prog.info? 25).map (fun i => (i.zero, i.size, i.bytes)) = some (some (.agg #[.int .i64 0, .int .i64 0]), 2, 16) := by kernel_rfl
/-- A slice of ints that comes in. -/
structure IntsIn (w : World) (ra : Option Addr) (l : List Int) : Prop where
  at_ : IntsAt w w.heap.size ra l
  len : l.length ≤ 9223372036854775807
theorem IntsIn.on {w w' : World} {ra : Option Addr} {l : List Int} (h : IntsIn w ra l) (hb : Below w.heap.size w w') : IntsIn w' ra l := ⟨(RowAt.below h.at_ hb (Nat.le_refl _)).mono hb.size, h.len⟩
structure SpansIn (w : World) (ra : Option Addr) (l : List (Int × Int)) : Prop where
  at_ : SpansAt w w.heap.size ra l
  len : l.length ≤ 9223372036854775807
theorem SpansIn.on {w w' : World} {ra : Option Addr} {l : List (Int × Int)} (h : SpansIn w ra l) (hb : Below w.heap.size w w') : SpansIn w' ra l := ⟨(RowAt.below h.at_ hb (Nat.le_refl _)).mono hb.size, h.len⟩
/-- Slices that a call made. -/
def IntsOut (B : Nat) (w' : World) (v : Value) (l : List Int) : Prop := w'.ownsRow B 3 1 v l.length (l.map (Value.int .i64))
def spanCells (l : List (Int × Int)) : List Value := l.flatMap fun p => [.int .i64 p.1, .int .i64 p.2]
def SpansOut (B : Nat) (w' : World) (v : Value) (l : List (Int × Int)) : Prop := w'.ownsRow B 25 2 v l.length (spanCells l)
theorem own_below {base : Nat} {e : TypeId} {size n : Nat} {v : Value} {xs : List Value} {w w' : World} (h : w.ownsRow base e size v n xs) (hb : Below w.heap.size w w') : w'.ownsRow base e size v n xs := by
  refine ⟨h.1, ?_⟩
  rcases h.2 with h2 | ⟨g, cap, cur, hv, hg, hh, r⟩
  · exact .inl h2
  · refine .inr ⟨g, cap, cur, hv, hg, (hb.block g ?_).trans hh, r⟩
    rcases Nat.lt_or_ge g w.heap.size with hlt | hge
    · exact hlt
    · rw [Array.getElem?_eq_none hge] at hh; cases hh
theorem own_base {B B' : Nat} {e : TypeId} {size n : Nat} {v : Value} {xs : List Value} {w : World} (h : w.ownsRow B e size v n xs) (hB : B' ≤ B) : w.ownsRow B' e size v n xs := by
  refine ⟨h.1, ?_⟩
  rcases h.2 with h2 | ⟨g, cap, cur, hv, hg, r⟩
  · exact .inl h2
  · exact .inr ⟨g, cap, cur, hv, by omega, r⟩
theorem own_slice {B n : Nat} {e : TypeId} {sz : Nat} {w : World} {v : Value} {xs : List Value} (h : w.ownsRow B e sz v n xs) : ∃ A c, v = .slice A n c := by
  rcases h.2 with ⟨hv, h0⟩ | ⟨g, cap, cur, hv, _⟩
  · exact ⟨_, _, by rw [hv, h0]⟩
  · exact ⟨_, _, hv⟩
theorem own_rowAt {α : Type} {e : TypeId} {sz B n c : Nat} {enc : α → Nat → Value} {w : World} {A : Option Addr} {l : List α} {xs : List Value} (h : w.ownsRow B e sz (.slice A n c) l.length xs)
    (hx : ∀ i x, l[i]? = some x → ∀ j, j < sz → xs[i * sz + j]? = some (enc x j)) : n = l.length ∧ RowAt sz enc w w.heap.size A l ∧ l.length ≤ c ∧ l.length ≤ maxLen := by
  rcases h.2 with ⟨hv, h0⟩ | ⟨g, cap, cur, hv, hg, hh, hle, hcap, hsz, hxs⟩
  · cases hv
    exact ⟨h0.symm, fun hl => by omega, by omega, by omega⟩
  · cases hv
    have hlt : g < w.heap.size := by
      rcases Nat.lt_or_ge g w.heap.size with h' | h'
      · exact h'
      · rw [Array.getElem?_eq_none h'] at hh; cases hh
    refine ⟨rfl, fun hl => ⟨g, 0, rfl, hlt, fun i x hi j hj => ?_⟩, hle, by omega⟩
    have h1 := hx i x hi j hj
    rw [← hxs, List.getElem?_take] at h1
    split at h1
    · rw [Array.getElem?_toList] at h1
      simp [World.cell?, hh, h1]
    · cases h1
theorem flat_two {α : Type} (f g : α → Value) : ∀ (l : List α) (i : Nat) (x : α), l[i]? = some x → (l.flatMap fun x => [f x, g x])[i * 2]? = some (f x) ∧ (l.flatMap fun x => [f x, g x])[i * 2 + 1]? = some (g x)
  | [], i, x, h => by simp at h
  | y :: l, 0, x, h => by simp at h; subst h; simp
  | y :: l, i + 1, x, h => by
    have := flat_two f g l i x (by simpa using h)
    simp only [List.flatMap_cons, List.cons_append, List.nil_append]
    rw [show (i + 1) * 2 = i * 2 + 1 + 1 by omega, show i * 2 + 1 + 1 + 1 = (i * 2 + 1) + 1 + 1 by omega]
    simpa using this
theorem pair_cells {α : Type} {enc : α → Nat → Value} {l : List α} {f g : α → Value} (h0 : ∀ x, enc x 0 = f x) (h1 : ∀ x, enc x 1 = g x) : ∀ i x, l[i]? = some x → ∀ j, j < 2 → (l.flatMap fun x => [f x, g x])[i * 2 + j]? = some (enc x j) := by
  intro i x hi j hj
  obtain ⟨a, b⟩ := flat_two f g l i x hi
  match j, hj with
  | 0, _ => rw [h0]; exact a
  | 1, _ => rw [h1]; exact b
theorem SpansOut.reads {B n c : Nat} {w : World} {A : Option Addr} {l : List (Int × Int)} (h : SpansOut B w (.slice A n c) l) : n = l.length ∧ SpansAt w w.heap.size A l ∧ l.length ≤ c ∧ l.length ≤ maxLen :=
  own_rowAt (enc := encS) h (pair_cells (fun _ => rfl) (fun _ => rfl))
theorem IntsOut.reads {B n c : Nat} {w : World} {A : Option Addr} {l : List Int} (h : IntsOut B w (.slice A n c) l) : n = l.length ∧ IntsAt w w.heap.size A l ∧ l.length ≤ c ∧ l.length ≤ maxLen :=
  own_rowAt (enc := encI) h (fun i x hi j hj => by
    obtain rfl : j = 0 := by omega
    rw [Nat.mul_one, Nat.add_zero, List.getElem?_map, hi]; rfl)
/-- A list that a call made, as one that comes in. -/
theorem IntsOut.in_ {B : Nat} {w : World} {v : Value} {l : List Int} (h : IntsOut B w v l) : ∃ A c, v = .slice A l.length c ∧ IntsIn w A l := by
  obtain ⟨A, c, rfl⟩ := own_slice h
  obtain ⟨_, h2, h3, h4⟩ := h.reads
  exact ⟨A, c, rfl, h2, by unfold maxLen at h4; omega⟩
theorem SpansOut.in_ {B : Nat} {w : World} {v : Value} {l : List (Int × Int)} (h : SpansOut B w v l) : ∃ A c, v = .slice A l.length c ∧ SpansIn w A l := by
  obtain ⟨A, c, rfl⟩ := own_slice h
  obtain ⟨_, h2, h3, h4⟩ := h.reads
  exact ⟨A, c, rfl, h2, by unfold maxLen at h4; omega⟩
theorem IntsOut.nil (B : Nat) (w : World) : IntsOut B w (.slice none 0 0) [] := World.ownsRow_nil _ _ _ _
theorem SpansOut.nil (B : Nat) (w : World) : SpansOut B w (.slice none 0 0) [] := World.ownsRow_nil _ _ _ _
theorem IntsIn.nil (w : World) (A : Option Addr) : IntsIn w A [] := ⟨RowAt.nil, by simp⟩
theorem new_two (w : World) (u v : Value) (T : TypeId) (g : Nat) (hg : g = w.heap.size) : (w.alloc (.cells #[u, v] T)).heap[g]? = some (.cells #[u, v] T (0, 0)) := by subst hg; exact heap_alloc_new w _
theorem meas_one {n k : Nat} (h : k < n) : n - (intOf (Value.int .i64 ((k : Int) + 1))).toNat < n - (intOf (Value.int .i64 (k : Int))).toNat := by
  have h4 : ((k : Int) + 1).toNat = k + 1 := by omega
  simp only [intOf, h4, Int.toNat_natCast]
  omega
/-- These cells hold these values. -/
structure Held (cs : List (Nat × Nat × Value)) (W : World) : Prop where
  at_ : ∀ c ∈ cs, c.1 < W.heap.size ∧ W.cell? ⟨c.1, c.2.1, none⟩ = some c.2.2
theorem Held.on {cs : List (Nat × Nat × Value)} {W W' : World} (h : Held cs W) (hb : Below W.heap.size W W') : Held cs W' :=
  ⟨fun c hc => ⟨Nat.lt_of_lt_of_le (h.at_ c hc).1 hb.size, (hb.cell (p := ⟨c.1, c.2.1, none⟩) (h.at_ c hc).1).trans (h.at_ c hc).2⟩⟩
theorem Held.nil (W : World) : Held [] W := ⟨fun _ h => by cases h⟩
theorem Held.cons {cs : List (Nat × Nat × Value)} {W : World} {b o : Nat} {v : Value} (hb : b < W.heap.size) (hc : W.cell? ⟨b, o, none⟩ = some v) (h : Held cs W) : Held ((b, o, v) :: cs) W :=
  ⟨fun c hm => by
    rcases List.mem_cons.1 hm with rfl | hm
    · exact ⟨hb, hc⟩
    · exact h.at_ c hm⟩
/-- The cells, one by one, and all of them again. -/
def heldP (W : World) (P : Prop) : List (Nat × Nat × Value) → Prop
  | [] => P
  | c :: cs => W.cell? ⟨c.1, c.2.1, none⟩ = some c.2.2 ∧ heldP W P cs
theorem heldP_of {W : World} {P : Prop} (hP : P) : ∀ (cs : List (Nat × Nat × Value)), (∀ c ∈ cs, W.cell? ⟨c.1, c.2.1, none⟩ = some c.2.2) → heldP W P cs
  | [], _ => hP
  | c :: cs, h => ⟨h c (by simp), heldP_of hP cs fun d hd => h d (by simp [hd])⟩
/-- .. behind what was there at the start. -/
structure HeldB (w : World) (cs : List (Nat × Nat × Value)) (W : World) : Prop where
  held : Held cs W
  b : Below w.heap.size w W
theorem HeldB.on {w W W' : World} {cs : List (Nat × Nat × Value)} (h : HeldB w cs W) (hb : Below W.heap.size W W') : HeldB w cs W' := ⟨h.held.on hb, h.b.trans (hb.mono h.b.size)⟩
theorem HeldB.alloc {w W : World} {cs : List (Nat × Nat × Value)} (h : HeldB w cs W) (o : Obj) : HeldB w cs (W.alloc o) := h.on ((Below.refl _ W).alloc (Nat.le_refl _) _)
theorem HeldB.drew {w W : World} {cs : List (Nat × Nat × Value)} (h : HeldB w cs W) : HeldB w cs W.drew := h.on (Below.refl _ W).drew
theorem HeldB.all {w W : World} {cs : List (Nat × Nat × Value)} (h : HeldB w cs W) : heldP W (HeldB w cs W) cs := heldP_of h cs fun c hc => (h.held.at_ c hc).2
/-- A block of ints, of ranges, as a slice. -/
theorem ints_blk {W : World} {g : Nat} {T : TypeId} {cs : Array Value} {l : List Int} (h : Blk W g T cs) (hc : cs = (l.map (Value.int .i64)).toArray) (hl : l.length ≤ 9223372036854775807) : IntsIn W (some ⟨g, 0, none⟩) l :=
  ⟨fun _ => ⟨g, 0, rfl, h.lt, fun i x hi j hj => by
    obtain rfl : j = 0 := by omega
    rw [Nat.mul_one, Nat.zero_add, Nat.add_zero, h.cell, hc]
    simp [hi, encI]⟩, hl⟩
theorem spans_blk {W : World} {g : Nat} {T : TypeId} {cs : Array Value} {l : List (Int × Int)} (h : Blk W g T cs) (hc : cs = (spanCells l).toArray) (hl : l.length ≤ 9223372036854775807) : SpansIn W (some ⟨g, 0, none⟩) l :=
  ⟨fun _ => ⟨g, 0, rfl, h.lt, fun i x hi j hj => by
    rw [h.cell, Nat.zero_add, hc]
    have := pair_cells (enc := encS) (f := fun p : Int × Int => .int .i64 p.1) (g := fun p => .int .i64 p.2) (fun _ => rfl) (fun _ => rfl) i x hi j hj
    simpa [spanCells] using this⟩, hl⟩
def encWk (x : Wk) (j : Nat) : Value := if j = 0 then .string x.nm else if j = 1 then .int .i64 x.th else if j = 2 then .int .i64 x.plo else .int .i64 x.phi
def encWx (x : Wx) (j : Nat) : Value := if j = 0 then .string x.nm else if j = 1 then .int .i64 x.flo else if j = 2 then .int .i64 x.fhi else if j = 3 then .int .i64 x.rlo else if j = 4 then .int .i64 x.rhi else if j = 5 then .int .i64 x.slo else if j = 6 then .int .i64 x.shi else .int .i64 x.ch
abbrev WksAt := RowAt 4 encWk
abbrev WxsAt := RowAt 8 encWx
theorem wks_at {w : World} {B : Nat} {A : Option Addr} {l : List Wk} (h : WksAt w B A l) {i : Nat} {x : Wk} (hi : l[i]? = some x) :
    ∃ b o, A = some ⟨b, o, none⟩ ∧ b < B ∧ w.cell? ⟨b, o + i * 4, none⟩ = some (.string x.nm) ∧ w.cell? ⟨b, o + i * 4 + 1, none⟩ = some (.int .i64 x.th) ∧ w.cell? ⟨b, o + i * 4 + 2, none⟩ = some (.int .i64 x.plo) ∧ w.cell? ⟨b, o + i * 4 + 3, none⟩ = some (.int .i64 x.phi) := by
  obtain ⟨b, o, e, hb, hc⟩ := h (by have := (List.getElem?_eq_some_iff.1 hi).1; omega)
  exact ⟨b, o, e, hb, hc i x hi 0 (by omega), hc i x hi 1 (by omega), hc i x hi 2 (by omega), hc i x hi 3 (by omega)⟩
theorem wxs_at {w : World} {B : Nat} {A : Option Addr} {l : List Wx} (h : WxsAt w B A l) {i : Nat} {x : Wx} (hi : l[i]? = some x) :
    ∃ b o, A = some ⟨b, o, none⟩ ∧ b < B ∧ w.cell? ⟨b, o + i * 8, none⟩ = some (.string x.nm) ∧ w.cell? ⟨b, o + i * 8 + 1, none⟩ = some (.int .i64 x.flo) ∧ w.cell? ⟨b, o + i * 8 + 2, none⟩ = some (.int .i64 x.fhi) ∧ w.cell? ⟨b, o + i * 8 + 3, none⟩ = some (.int .i64 x.rlo) ∧ w.cell? ⟨b, o + i * 8 + 4, none⟩ = some (.int .i64 x.rhi) ∧ w.cell? ⟨b, o + i * 8 + 5, none⟩ = some (.int .i64 x.slo) ∧ w.cell? ⟨b, o + i * 8 + 6, none⟩ = some (.int .i64 x.shi) ∧ w.cell? ⟨b, o + i * 8 + 7, none⟩ = some (.int .i64 x.ch) := by
  obtain ⟨b, o, e, hb, hc⟩ := h (by have := (List.getElem?_eq_some_iff.1 hi).1; omega)
  exact ⟨b, o, e, hb, hc i x hi 0 (by omega), hc i x hi 1 (by omega), hc i x hi 2 (by omega), hc i x hi 3 (by omega), hc i x hi 4 (by omega), hc i x hi 5 (by omega), hc i x hi 6 (by omega), hc i x hi 7 (by omega)⟩
/-- A shop, and where its lists lie. -/
structure Sp where
  s : Sh
  ka : Option Addr
  kc : Nat
  xa : Option Addr
  xc : Nat
/-- A list of wicks, of waxes that comes in. -/
structure WksIn (w : World) (A : Option Addr) (c : Nat) (l : List Wk) : Prop where
  at_ : WksAt w w.heap.size A l
  len : l.length ≤ 9223372036854775807
  cap : l.length ≤ c
  nm : ∀ x ∈ l, x.nm.size ≤ 9223372036854775807
structure WxsIn (w : World) (A : Option Addr) (c : Nat) (l : List Wx) : Prop where
  at_ : WxsAt w w.heap.size A l
  len : l.length ≤ 9223372036854775807
  cap : l.length ≤ c
  nm : ∀ x ∈ l, x.nm.size ≤ 9223372036854775807
theorem WksIn.on {w w' : World} {A : Option Addr} {c : Nat} {l : List Wk} (h : WksIn w A c l) (hb : Below w.heap.size w w') : WksIn w' A c l := ⟨(RowAt.below h.at_ hb (Nat.le_refl _)).mono hb.size, h.len, h.cap, h.nm⟩
theorem WxsIn.on {w w' : World} {A : Option Addr} {c : Nat} {l : List Wx} (h : WxsIn w A c l) (hb : Below w.heap.size w w') : WxsIn w' A c l := ⟨(RowAt.below h.at_ hb (Nat.le_refl _)).mono hb.size, h.len, h.cap, h.nm⟩
structure ShIn (w : World) (p : Sp) : Prop where
  ks : WksIn w p.ka p.kc p.s.ks
  xs : WxsIn w p.xa p.xc p.s.xs
theorem ShIn.on {w w' : World} {p : Sp} (h : ShIn w p) (hb : Below w.heap.size w w') : ShIn w' p := ⟨h.ks.on hb, h.xs.on hb⟩
end Go.Proofs.Ytkjfommdeljefaa

namespace Go.Proofs.Ytkjfommdeljefaa
open Go.RowKit Go.Shelf

theorem und_ints : Try.prog.underlying 48 = some (.slice 3) := by kernel_rfl
theorem und_spans : Try.prog.underlying 87 = some (.slice 25) := by kernel_rfl
theorem news_int {w : World} {g0 : Nat} {z : Int} (hc : Blk w g0 3 #[.int .i64 z]) : ∀ j u, ([Value.int .i64 z] : List Value)[j]? = some u → w.cell? ((⟨g0, 0, none⟩ : Addr).add j) = some u := by
  intro j u hj
  match j, hj with
  | 0, hj => simp at hj; subst hj; have h := hc.cell 0; simpa [Addr.add] using h
theorem news_span {w : World} {g0 : Nat} {T : TypeId} {a b : Int} (hc : Blk w g0 T #[.int .i64 a, .int .i64 b]) : ∀ j u, ([Value.int .i64 a, .int .i64 b] : List Value)[j]? = some u → w.cell? ((⟨g0, 0, none⟩ : Addr).add j) = some u := by
  intro j u hj
  match j, hj with
  | 0, hj => simp at hj; subst hj; have h := hc.cell 0; simpa [Addr.add] using h
  | 1, hj => simp at hj; subst hj; have h := hc.cell 1; simpa [Addr.add] using h
theorem spanCells_snoc (l : List (Int × Int)) (a b : Int) : spanCells (l ++ [(a, b)]) = spanCells l ++ [.int .i64 a, .int .i64 b] := by simp [spanCells]
theorem own_low {B : Nat} {e : TypeId} {sz n : Nat} {w w' : World} {v : Value} {xs : List Value} (h : w.ownsRow B e sz v n xs) (hg : w.grownBy w' v.ownBlock) (hB : B ≤ w.heap.size) : Below B w w' :=
  (Below.refl B w).grown hg hB (fun r e => (World.ownsRow.lt h r e).1)
section
variable {ops : Array Oper} {rest : List Oper} {o : Oper} {a : Act} {w : World} {Q : Exit → Act → World → Prop} {K : Act → World → Prop} {E : Prop} {B g0 : Nat} {v : Value}
theorem app_list (hgd : o.guard = none) (s x : Operand) (ho : o.op = .call { callee := .builtin .append, args := #[s, x], argTypes := #[48, 48] })
    {l : List Int} (hs : a.eval s = v) (hown : IntsOut B w v l) (z : Int) (hx : a.eval x = .slice (some ⟨g0, 0, none⟩) 1 1) (hc : Blk w g0 3 #[.int .i64 z]) (hl : l.length < 1000000) (hB : B ≤ w.heap.size)
    (h : ∀ g cap w', IntsOut B w' (.slice (some ⟨g, 0, none⟩) (l.length + 1) cap) (l ++ [z]) → Below B w w' → w.grownBy w' v.ownBlock → (v.ownBlock = some g ∨ g = w.heap.size) → wpList Try.prog ops Q rest (a.put o.dst (.slice (some ⟨g, 0, none⟩) (l.length + 1) cap)) w') : wpList Try.prog ops Q (o :: rest) a w := by
  obtain ⟨i0, hi0, hz0, hz1, hz2⟩ := info_parts infoInt
  refine wpList_append_lies w hgd s x 48 ho B 3 i0 (.int .i64 0) 1 8 und_ints hi0 hz0 hz1 hz2 rfl (by decide) v l.length (l.map (Value.int .i64)) hs hown ⟨g0, 0, none⟩ 1 1 [.int .i64 z] hx rfl (news_int hc) (by simp [Value.oneCell']) (by decide) (by unfold maxLen; omega) (by omega) hB _ rfl ?_
  intro g cap w' h1 h2 h3 _
  exact h g cap w' (by unfold IntsOut; simpa using h1) (own_low hown h2 hB) h2 h3
theorem app_step (hgd : o.guard = none) (s x : Operand) (ho : o.op = .call { callee := .builtin .append, args := #[s, x], argTypes := #[48, 48] })
    {l : List Int} (hs : a.eval s = v) (hown : IntsOut B w v l) (z : Int) (hx : a.eval x = .slice (some ⟨g0, 0, none⟩) 1 1) (hc : Blk w g0 3 #[.int .i64 z]) (hl : l.length < 1000000) (hB : B ≤ w.heap.size)
    (h : ∀ g cap w', IntsOut B w' (.slice (some ⟨g, 0, none⟩) (l.length + 1) cap) (l ++ [z]) → Below B w w' → w.grownBy w' v.ownBlock → (v.ownBlock = some g ∨ g = w.heap.size) → K (a.put o.dst (.slice (some ⟨g, 0, none⟩) (l.length + 1) cap)) w') : if Region.wanted o (yielded ops a.tmps) = true then Oper.wp Try.prog o a w K Q else E := by
  obtain ⟨i0, hi0, hz0, hz1, hz2⟩ := info_parts infoInt
  refine step_append_lies w hgd s x 48 ho B 3 i0 (.int .i64 0) 1 8 und_ints hi0 hz0 hz1 hz2 rfl (by decide) v l.length (l.map (Value.int .i64)) hs hown ⟨g0, 0, none⟩ 1 1 [.int .i64 z] hx rfl (news_int hc) (by simp [Value.oneCell']) (by decide) (by unfold maxLen; omega) (by omega) hB _ rfl ?_
  intro g cap w' h1 h2 h3 _
  exact h g cap w' (by unfold IntsOut; simpa using h1) (own_low hown h2 hB) h2 h3
theorem apps_list (hgd : o.guard = none) (s x : Operand) (ho : o.op = .call { callee := .builtin .append, args := #[s, x], argTypes := #[87, 87] })
    {l : List (Int × Int)} (hs : a.eval s = v) (hown : SpansOut B w v l) (z1 z2 : Int) (hx : a.eval x = .slice (some ⟨g0, 0, none⟩) 1 1) (hc : Blk w g0 25 #[.int .i64 z1, .int .i64 z2]) (hl : l.length < 1000000) (hB : B ≤ w.heap.size)
    (h : ∀ g cap w', SpansOut B w' (.slice (some ⟨g, 0, none⟩) (l.length + 1) cap) (l ++ [(z1, z2)]) → Below B w w' → w.grownBy w' v.ownBlock → (v.ownBlock = some g ∨ g = w.heap.size) → wpList Try.prog ops Q rest (a.put o.dst (.slice (some ⟨g, 0, none⟩) (l.length + 1) cap)) w') : wpList Try.prog ops Q (o :: rest) a w := by
  obtain ⟨i0, hi0, hz0, hz1, hz2⟩ := info_parts infoSp
  refine wpList_append_lies w hgd s x 87 ho B 25 i0 (.agg #[.int .i64 0, .int .i64 0]) 2 16 und_spans hi0 hz0 hz1 hz2 rfl (by decide) v l.length (spanCells l) hs hown ⟨g0, 0, none⟩ 1 1 [.int .i64 z1, .int .i64 z2] hx rfl (news_span hc) (by simp [Value.oneCell']) (by decide) (by unfold maxLen; omega) (by omega) hB _ rfl ?_
  intro g cap w' h1 h2 h3 _
  exact h g cap w' (by unfold SpansOut; rw [spanCells_snoc, List.length_append]; exact h1) (own_low hown h2 hB) h2 h3
theorem apps_step (hgd : o.guard = none) (s x : Operand) (ho : o.op = .call { callee := .builtin .append, args := #[s, x], argTypes := #[87, 87] })
    {l : List (Int × Int)} (hs : a.eval s = v) (hown : SpansOut B w v l) (z1 z2 : Int) (hx : a.eval x = .slice (some ⟨g0, 0, none⟩) 1 1) (hc : Blk w g0 25 #[.int .i64 z1, .int .i64 z2]) (hl : l.length < 1000000) (hB : B ≤ w.heap.size)
    (h : ∀ g cap w', SpansOut B w' (.slice (some ⟨g, 0, none⟩) (l.length + 1) cap) (l ++ [(z1, z2)]) → Below B w w' → w.grownBy w' v.ownBlock → (v.ownBlock = some g ∨ g = w.heap.size) → K (a.put o.dst (.slice (some ⟨g, 0, none⟩) (l.length + 1) cap)) w') : if Region.wanted o (yielded ops a.tmps) = true then Oper.wp Try.prog o a w K Q else E := by
  obtain ⟨i0, hi0, hz0, hz1, hz2⟩ := info_parts infoSp
  refine step_append_lies w hgd s x 87 ho B 25 i0 (.agg #[.int .i64 0, .int .i64 0]) 2 16 und_spans hi0 hz0 hz1 hz2 rfl (by decide) v l.length (spanCells l) hs hown ⟨g0, 0, none⟩ 1 1 [.int .i64 z1, .int .i64 z2] hx rfl (news_span hc) (by simp [Value.oneCell']) (by decide) (by unfold maxLen; omega) (by omega) hB _ rfl ?_
  intro g cap w' h1 h2 h3 _
  exact h g cap w' (by unfold SpansOut; rw [spanCells_snoc, List.length_append]; exact h1) (own_low hown h2 hB) h2 h3
end
/-- Appends to a slice that grew stand behind what was there. -/
theorem Blk.grownOut {B g : Nat} {T : TypeId} {cs : Array Value} {e : TypeId} {sz n : Nat} {w w' : World} {v : Value} {xs : List Value} (h : Blk w g T cs) (hown : w.ownsRow B e sz v n xs) (hg : w.grownBy w' v.ownBlock) (hlt : g < B) : Blk w' g T cs :=
  (hg.block g h.lt (fun e => by have := (World.ownsRow.lt hown _ e.symm).1; omega)).trans h
end Go.Proofs.Ytkjfommdeljefaa

namespace Go.Proofs.Ytkjfommdeljefaa
open Go.RowKit Go.Shelf

/-- The operations that an operation waits for. -/
def waits (md : Region.Mode) (ops : Array Oper) (i : Nat) : List Nat := match ops[i]? with
  | some o => (o.after.toList.filter (Region.binds md)).map (·.on)
  | none => []
def u1 (u : Nat → Value) (i : Nat) (v : Value) : Nat → Value := fun j => if j = i then v else u j
theorem u1_same (u : Nat → Value) (i : Nat) (v : Value) : u1 u i v i = v := by simp [u1]
theorem u1_other (u : Nat → Value) {i j : Nat} (v : Value) (h : j ≠ i) : u1 u i v j = u j := by simp [u1, h]

section
variable {P : Program} {ops : Array Oper} {Q : Exit → Act → World → Prop} {md : Region.Mode} {n : Nat}
theorem ready_iff (listed : Array Bool) (_hl : listed.size = ops.size) (i : Nat) :
    i ∈ Region.ready md ops listed ↔ (i < ops.size ∧ listed.getD i true = false ∧ ∀ j ∈ waits md ops i, listed.getD j false = true) := by
  unfold Region.ready
  rw [List.mem_filter, List.mem_range]
  by_cases hi : i < ops.size
  · have ho : ops[i]? = some ops[i] := Array.getElem?_eq_getElem hi
    simp only [hi, true_and, ho, Option.map_some, Option.getD_some, Bool.and_eq_true, Bool.not_eq_true', waits, List.mem_map, List.mem_filter, Array.all_eq_true]
    refine and_congr_right fun _ => ?_
    constructor
    · rintro h j ⟨e, ⟨he, hb⟩, rfl⟩
      obtain ⟨k, hk, rfl⟩ := List.mem_iff_getElem.1 he
      have := h k (by simpa using hk)
      simp only [Bool.or_eq_true, Bool.not_eq_true'] at this
      rcases this with h2 | h2
      · rw [show (ops[i].after.toList[k]) = ops[i].after[k]'(by simpa using hk) by simp, h2] at hb; cases hb
      · simpa using h2
    · intro h k hk
      simp only [Bool.or_eq_true, Bool.not_eq_true']
      cases hb : Region.binds md ops[i].after[k] with
      | false => exact .inl rfl
      | true => exact .inr (h _ ⟨ops[i].after[k], ⟨by simp, hb⟩, rfl⟩)
  · simp [hi]
/-- How many have not come up. -/
def unl (listed : Array Bool) : Nat := listed.toList.countP (fun b => !b)
theorem unl_set {listed : Array Bool} {i : Nat} (hi : i < listed.size) (h : listed.getD i true = false) : unl (listed.setIfInBounds i true) + 1 = unl listed := by
  have h2 : listed[i] = false := by
    rw [Array.getD_eq_getD_getElem?, Array.getElem?_eq_getElem hi] at h; simpa using h
  unfold unl
  rw [Array.toList_setIfInBounds, List.countP_set (by simpa using hi)]
  have h3 : 0 < listed.toList.countP (fun b => !b) := List.countP_pos_iff.2 ⟨listed[i], by simp, by simp [h2]⟩
  simp only [Array.getElem_toList, h2, Bool.not_false, if_true, Bool.not_true, Bool.false_eq_true, if_false]
  omega
theorem unl_zero {listed : Array Bool} (h : unl listed = 0) {i : Nat} (hi : i < listed.size) : listed.getD i true = true := by
  unfold unl at h
  rw [List.countP_eq_zero] at h
  have := h listed[i] (by simp)
  rw [Array.getD_eq_getD_getElem?, Array.getElem?_eq_getElem hi]
  simpa using this
theorem getD_set {listed : Array Bool} {i j : Nat} (d : Bool) : (listed.setIfInBounds i true).getD j d = if j = i ∧ i < listed.size then true else listed.getD j d := by
  rw [Array.getD_eq_getD_getElem?, Array.getD_eq_getD_getElem?, Array.getElem?_setIfInBounds]
  by_cases h : i = j
  · subst h
    by_cases h2 : i < listed.size
    · simp [h2]
    · simp [h2]
  · rw [if_neg h, if_neg (by rintro ⟨h2, -⟩; exact h h2.symm)]

theorem wpAny_spec (hn : ops.size = n) (fr : (Nat → Value) → Act) (u0 : Nat → Value) (B : World → Prop) (R : Nat → Value → World → Prop)
    (hR : ∀ i v w w', i < n → R i v w → Below w.heap.size w w' → R i v w')
    (hd : ∀ i, i < n → ∀ j ∈ waits md ops i, j < i)
    (step : ∀ i, i < n → ∀ u w, B w → u i = u0 i → (∀ j ∈ waits md ops i, R j (u j) w) → (∀ j, j < n → i ∈ waits md ops j → u j = u0 j) →
      wpOp P ops Q i (fun a' w' => ∃ v, a' = fr (u1 u i v) ∧ R i v w' ∧ B w' ∧ Below w.heap.size w w') (fr u) w)
    (done : ∀ u w, B w → (∀ j, j < n → R j (u j) w) → Q .normal (fr u) w) :
    ∀ (fuel : Nat) (listed : Array Bool) (u : Nat → Value) (w : World), listed.size = n → unl listed ≤ fuel → B w → (∀ j, j < n → listed.getD j false = true → R j (u j) w) → (∀ j, j < n → listed.getD j false = false → u j = u0 j) → (∀ j, j < n → listed.getD j false = true → ∀ k ∈ waits md ops j, listed.getD k false = true) →
      wpAny P md ops Q fuel listed (fr u) w := by
  have hsame : ∀ (listed : Array Bool), listed.size = n → ∀ j, j < n → listed.getD j true = listed.getD j false := by
    intro listed hl j hj
    rw [Array.getD_eq_getD_getElem?, Array.getD_eq_getD_getElem?, Array.getElem?_eq_getElem (by omega)]; rfl
  have hnil : ∀ (listed : Array Bool), listed.size = n → Region.ready md ops listed = [] → ∀ j, j < n → listed.getD j false = true := by
    intro listed hl hr j
    induction j using Nat.strongRecOn with
    | _ j ih =>
      intro hj
      cases hb : listed.getD j false with
      | true => rfl
      | false =>
        have hmem : j ∈ Region.ready md ops listed := (ready_iff listed (by omega) j).2 ⟨by omega, by rw [hsame listed hl j hj, hb], fun k hk => ih k (hd j hj k hk) (by have := hd j hj k hk; omega)⟩
        rw [hr] at hmem; cases hmem
  intro fuel
  induction fuel with
  | zero =>
    intro listed u w hl hf hB hRl hU hC
    have hall : ∀ j, j < n → listed.getD j false = true := fun j hj => by rw [← hsame listed hl j hj]; exact unl_zero (by omega) (by omega)
    refine ⟨?_, done u w hB fun j hj => hRl j hj (hall j hj)⟩
    cases hr : Region.ready md ops listed with
    | nil => rfl
    | cons i rs =>
      have hmem : i ∈ Region.ready md ops listed := by rw [hr]; simp
      obtain ⟨h1, h2, -⟩ := (ready_iff listed (by omega) i).1 hmem
      rw [hsame listed hl i (by omega), hall i (by omega)] at h2; cases h2
  | succ fuel ih =>
    intro listed u w hl hf hB hRl hU hC
    refine ⟨fun hr => done u w hB fun j hj => hRl j hj (hnil listed hl hr j hj), fun i hi => ?_⟩
    obtain ⟨h1, h2, h3⟩ := (ready_iff listed (by omega) i).1 hi
    have hin : i < n := by omega
    have h4 : listed.getD i false = false := by rw [← hsame listed hl i hin]; exact h2
    refine wpOp_mono ?_ (step i hin u w hB (hU i hin h4) (fun j hj => hRl j (by have := hd i hin j hj; omega) (h3 j hj)) ?_)
    · rintro a' w' ⟨v, rfl, hv, hB', hb⟩
      refine ih _ _ _ (by simpa using hl) (by have := unl_set (by omega) h2; omega) hB' ?_ ?_ ?_
      · intro j hj hlj
        by_cases hji : j = i
        · subst hji; rw [u1_same]; exact hv
        · rw [u1_other _ _ hji]
          rw [getD_set, if_neg (by rintro ⟨h, -⟩; exact hji h)] at hlj
          exact hR j _ _ _ hj (hRl j hj hlj) hb
      · intro j hj hlj
        have hji : j ≠ i := by
          rintro rfl
          rw [getD_set, if_pos ⟨rfl, by omega⟩] at hlj; cases hlj
        rw [u1_other _ _ hji]
        rw [getD_set, if_neg (by rintro ⟨h, -⟩; exact hji h)] at hlj
        exact hU j hj hlj
      · intro j hj hlj k hk
        have hk2 : listed.getD k false = true := by
          by_cases hji : j = i
          · subst hji; exact h3 k hk
          · rw [getD_set, if_neg (by rintro ⟨h, -⟩; exact hji h)] at hlj
            exact hC j hj hlj k hk
        rw [getD_set]
        split
        · rfl
        · exact hk2
    · intro j hj hw
      refine hU j hj ?_
      cases hb : listed.getD j false with
      | false => rfl
      | true =>
        have := hC j hj hb i hw
        rw [h4] at this; cases this
theorem wp_region_spec {id : Nat} {a : Act} {w : World} (hm : P.follows .mixedOrders = true) (n : Nat) (hn : ops.size = n) (fr : (Nat → Value) → Act) (u0 : Nat → Value) (B : World → Prop) (R : Nat → Value → World → Prop)
    (ha : a = fr u0) (hB : B w.drew)
    (hR : ∀ i v w w', i < n → R i v w → Below w.heap.size w w' → R i v w')
    (hd : ∀ i, i < n → ∀ j ∈ waits .any ops i, j < i)
    (step : ∀ i, i < n → ∀ u w, B w → u i = u0 i → (∀ j ∈ waits .any ops i, R j (u j) w) → (∀ j, j < n → i ∈ waits .any ops j → u j = u0 j) →
      ∀ K : Act → World → Prop, (∀ v w', R i v w' → B w' → Below w.heap.size w w' → K (fr (u1 u i v)) w') → wpOp P ops Q i K (fr u) w)
    (done : ∀ u w, B w → (∀ j, j < n → R j (u j) w) → Q .normal (fr u) w) : (Code.region id ops true).wp P Q a w := by
  subst ha
  refine wp_region_any hm ?_
  refine wpAny_spec hn fr u0 B R hR hd (fun i hi u w h1 h2 h3 h4 => step i hi u w h1 h2 h3 h4 _ (fun v w' h5 h6 h7 => ⟨v, rfl, h5, h6, h7⟩)) done _ _ _ _ (by simpa using hn) ?_ hB ?_ ?_ ?_
  · unfold unl
    exact Nat.le_trans List.countP_le_length (by simp)
  · intro j hj h
    rw [Array.getD_eq_getD_getElem?, Array.getElem?_replicate] at h
    split at h <;> simp at h
  · intro j _ _; rfl
  · intro j hj h
    rw [Array.getD_eq_getD_getElem?, Array.getElem?_replicate] at h
    split at h <;> simp at h
theorem u1_eq {u : Nat → Value} {i : Nat} {v : Value} (h : u i = v) : u1 u i v = u := by
  funext j
  unfold u1
  split
  · rename_i hj; rw [hj, h]
  · rfl
theorem all_zero {S : Nat → Prop} : ∀ i, i < 0 → S i := fun _ h => absurd h (by omega)
theorem all_succ {S : Nat → Prop} {n : Nat} (h : ∀ i, i < n → S i) (hn : S n) : ∀ i, i < n + 1 → S i := fun i hi => by
  by_cases h1 : i = n
  · subst h1; exact hn
  · exact h i (by omega)
theorem k_of {K : Act → World → Prop} {a a' : Act} {w : World} (h : K a w) (e : a = a') : K a' w := e ▸ h
theorem wpOp_of {i : Nat} {o : Oper} {K : Act → World → Prop} {a : Act} {w : World} (ho : ops[i]? = some o) (hg : Region.wanted o (yielded ops a.tmps) = true) (h : o.wp P a w K Q) : wpOp P ops Q i K a w := by
  unfold wpOp
  rw [ho]
  simp only [hg, if_true]
  exact .inl h
end
def regionAt (n : Nat) : Code → Option Code
  | .region i ops b => if i = n then some (.region i ops b) else none
  | .seq a b => match regionAt n a with
    | some c => some c
    | none => regionAt n b
  | .loop c => regionAt n c
  | .block _ c => regionAt n c
  | .scope c => regionAt n c
  | .cond _ a b => match regionAt n a with
    | some c => some c
    | none => regionAt n b
  | _ => none
theorem wp_of_eq {P : Program} {C C' : Code} {Q : Exit → Act → World → Prop} {a : Act} {w : World} (h : Code.wp P C Q a w) (e : C = C') : Code.wp P C' Q a w := e ▸ h
theorem wpOp_skip {P : Program} {ops : Array Oper} {Q : Exit → Act → World → Prop} {i : Nat} {o : Oper} {K : Act → World → Prop} {a : Act} {w : World} (ho : ops[i]? = some o) (hg : Region.wanted o (yielded ops a.tmps) = false) (h : K (a.put o.dst undef) w) : wpOp P ops Q i K a w := by
  unfold wpOp
  rw [ho]
  simp only [hg]
  exact h
end Go.Proofs.Ytkjfommdeljefaa
