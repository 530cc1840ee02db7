/- A row of kinds that a call made; a kind more. -/
import Derived.Test.YthihpggjglghoaaGreatDoorKv
namespace Go.Proofs.YthihpggjglghoaaGreatDoor
open Go.RowKit Go.Shelf

def kdCells (l : List Kd) : List Value := l.flatMap fun k => [.string k.nm, .slice k.ad k.rs.length k.cp]
/-- A slice of kinds that a call made; their ranges lie in other rows of its own. -/
structure KindsOut (B : Nat) (w : World) (v : Value) (ks : List Kd) : Prop where
  row : w.ownsRow B 51 2 v ks.length (kdCells ks)
  inn : ∀ k ∈ ks, SpansOut B w (.slice k.ad k.rs.length k.cp) k.rs ∧ (∀ g, Value.ownBlock (.slice k.ad k.rs.length k.cp) = some g → v.ownBlock ≠ some g)
theorem infoKd : (Tryz.prog.info? 51).map (fun i => (i.zero, i.size, i.bytes)) = some (some (.agg #[.string ⟨#[]⟩, .slice none 0 0]), 2, 40) := by kernel_rfl
theorem KindsOut.nil (B : Nat) (w : World) : KindsOut B w (.slice none 0 0) [] := ⟨World.ownsRow_nil _ _ _ _, fun k hk => by simp at hk⟩
theorem KindsOut.far {B : Nat} {w w' : World} {v : Value} {ks : List Kd} {row : Option Nat} (h : KindsOut B w v ks) (hg : w.grownBy w' row) (hr : ∀ j, row = some j → j < B) : KindsOut B w' v ks :=
  ⟨World.ownsRow.kept h.row hg (by
    cases hv : v.ownBlock with
    | none => exact .inl rfl
    | some g => right; intro e; have := (World.ownsRow.lt h.row g hv).1; have := hr g e.symm; omega), fun k hk => ⟨(h.inn k hk).1.far hg hr, (h.inn k hk).2⟩⟩
theorem KindsOut.more {B : Nat} {w w4 w7 : World} {v : Value} {ks : List Kd} {nm : ByteArray} {ad : Option Addr} {cp : Nat} {rs : List (Int × Int)} {RB gg cap : Nat}
    (h : KindsOut B w v ks) (hg : w.grownBy w4 (some RB)) (hRB : RB < B) (hB : B ≤ w.heap.size) (hs : SpansOut w.heap.size w4 (.slice ad rs.length cp) rs)
    (hown : w7.ownsRow B 51 2 (.slice (some ⟨gg, 0, none⟩) (ks.length + 1) cap) (ks.length + 1) (kdCells ks ++ [.string nm, .slice ad rs.length cp]))
    (hgrow : (w4.alloc (.cells #[.string nm, .slice ad rs.length cp] 51)).grownBy w7 v.ownBlock) (hat : v.ownBlock = some gg ∨ gg = w4.heap.size + 1) :
    KindsOut B w7 (.slice (some ⟨gg, 0, none⟩) (ks.length + 1) cap) (ks ++ [⟨nm, ad, cp, rs⟩]) := by
  have h4 := h.far hg (fun j e => by cases e; exact hRB)
  have hgg : Value.ownBlock (.slice (some ⟨gg, 0, none⟩) (ks.length + 1) cap) = some gg := rfl
  have hold : ∀ g, v.ownBlock = some g → B ≤ g ∧ g < w.heap.size := World.ownsRow.lt h.row
  refine ⟨by simpa [kdCells] using hown, fun k hk => ?_⟩
  rw [hgg]
  rcases List.mem_append.1 hk with hk | hk
  · have hi := h4.inn k hk
    have hlt := World.ownsRow.lt hi.1
    refine ⟨World.ownsRow.kept (World.ownsRow.alloc hi.1 _) hgrow ?_, fun g hgk e => ?_⟩
    · cases hv : Value.ownBlock (.slice k.ad k.rs.length k.cp) with
      | none => exact .inl rfl
      | some g => exact .inr (fun e => hi.2 g hv e.symm)
    · have e2 : gg = g := by simpa using e
      subst e2
      rcases hat with h1 | h1
      · exact hi.2 gg hgk h1
      · have := (hlt gg hgk).2; omega
  · rw [List.mem_singleton] at hk
    subst hk
    have hlt := World.ownsRow.lt hs
    refine ⟨SpansOut.base (B := w.heap.size) (World.ownsRow.kept (World.ownsRow.alloc hs _) hgrow ?_) hB, fun g hgk e => ?_⟩
    · cases hv : Value.ownBlock (.slice ad rs.length cp) with
      | none => exact .inl rfl
      | some g => exact .inr (fun e => by have h1 := (hlt g hv).1; have h2 := (hold g e.symm).2; omega)
    · have e2 : gg = g := by simpa using e
      subst e2
      rcases hat with h1 | h1
      · have h3 := (hlt gg hgk).1; have h2 := (hold gg h1).2; omega
      · have := (hlt gg hgk).2; omega
end Go.Proofs.YthihpggjglghoaaGreatDoor
