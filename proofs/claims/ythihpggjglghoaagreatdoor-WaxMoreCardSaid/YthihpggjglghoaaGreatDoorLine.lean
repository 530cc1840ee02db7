/- wax.line: contract; what the walks of texts need of the program's variables. -/
import Derived.Test.YthihpggjglghoaaGreatDoorSetsT
import Derived.Test.YthihpggjglghoaaGreatDoorShelf
import Derived.Lib.ItoaLen
import Derived.Lib.AppendIntMem
namespace Go.Proofs.YthihpggjglghoaaGreatDoor
open Go.RowKit Go.Shelf

def itoaB (n : Int) : ByteArray := ⟨(Lib.itoa n).toArray⟩
def joinB (l : List ByteArray) : ByteArray := ⟨(Lib.join (l.map (·.data.toList)) [32]).toArray⟩
/-- A line of words. -/
def lineB (l : List ByteArray) : ByteArray := joinB l ++ ⟨#[10]⟩

theorem inter_len (K : Nat) : ∀ l : List (List UInt8), (∀ s ∈ l, s.length ≤ K) → (Lib.join l [32]).length ≤ l.length * (K + 1)
  | [], _ => by simp [Lib.join_nil]
  | [x], h => by
    rw [Lib.join_one]
    have := h x (by simp)
    simp; omega
  | x :: y :: r, h => by
    have ih := inter_len K (y :: r) (fun s hs => h s (by simp at hs ⊢; exact .inr hs))
    have hx := h x (by simp)
    have : Lib.join (x :: y :: r) [32] = x ++ [32] ++ Lib.join (y :: r) [32] := by
      simp [Lib.join, List.intercalate]
    rw [this, List.length_append, List.length_append, List.length_singleton, List.length_cons, Nat.succ_mul]
    omega
theorem joinB_len {K : Nat} {l : List ByteArray} (h : ∀ s ∈ l, s.size ≤ K) : (Lib.join (l.map (·.data.toList)) [32]).length ≤ l.length * (K + 1) := by
  have := inter_len K (l.map (·.data.toList)) (fun s hs => by obtain ⟨x, hx, rfl⟩ := List.mem_map.1 hs; rw [Array.length_toList]; exact h x hx)
  rw [List.length_map] at this
  exact this

set_option maxRecDepth 100000 in
set_option maxHeartbeats 1000000 in
theorem line_any (b o c : Nat) (l : List ByteArray) (w : World) (hcells : ∀ (j : Nat) x, l[j]? = some x → w.cell? ⟨b, o + j, none⟩ = some (.string x)) (hb : b < w.heap.size) (hc : l.length ≤ c) (hn : l.length ≤ 1000) (hs : ∀ s ∈ l, s.size ≤ 1000) :
    Calls Tryz.prog 19 #[.slice (some ⟨b, o, none⟩) l.length c] w fun e w' => e = .returned (.string (lineB l)) ∧ Below w.heap.size w w' := by
  have hlen := joinB_len hs
  have hl2 : l.length * (1000 + 1) ≤ 1001000 := by omega
  have HJ := Lib.hid (Tryz.strings_Join b o c l ⟨#[32]⟩ w hcells hb (by omega) hc (by show (Lib.join _ [32]).length ≤ _; omega))
  have hsz : (joinB l).size ≤ 1001000 := by
    show (Lib.join (l.map (·.data.toList)) [32]).toArray.size ≤ _
    rw [List.size_toArray]
    omega
  have HJ2 := Lib.hid (show Calls Tryz.prog 44 #[.slice (some ⟨b, o, none⟩) l.length c, .string ⟨#[32]⟩] w fun e w' => e = .returned (.string (joinB l)) ∧ Below w.heap.size w w' from HJ.out)
  clear hcells hlen hl2 hs HJ
  unfold lineB
  generalize joinB l = j at *
  have hsz2 : ¬ 9223372036854775807 < j.size + 1 := by omega
  go_enter Tryz.func19, Tryz.ntmps19
  go_wp2_with fail
  refine HJ2.out.mono ?_
  rintro e w1 ⟨rfl, hb1⟩
  go_wp2_with fail
  go_ret
  exact ⟨rfl, hb1⟩

/-- What the walks of texts need of the program's variables: it stays so. -/
structure Base (w : World) : Prop where
  tab : Lib.TabIs Tryz.prog w "internal/strconv.uint64pow10" .u64 Lib.pow10Tab
  cut : ∃ m : Int, w.cell? ⟨1, 0, none⟩ = some (.int .i64 m)
  esy : ∃ te pe, w.cell? ⟨4, 0, none⟩ = some (.iface te pe)
  era : ∃ te pe, w.cell? ⟨5, 0, none⟩ = some (.iface te pe)
theorem tab_on {n : String} {g : Nat} {k : IntKind} {zs : List Int} {w w' : World} (hg : Tryz.prog.globalNamed n = some g) (h : Lib.TabIs Tryz.prog w n k zs) (hb : Below w.heap.size w w') : Lib.TabIs Tryz.prog w' n k zs := by
  unfold Lib.TabIs World.var? at h ⊢
  rw [hg] at h ⊢
  simp only [Option.bind_some] at h ⊢
  rw [hb.block g]
  · exact h
  · rcases Nat.lt_or_ge g w.heap.size with hlt | hge
    · exact hlt
    · rw [Array.getElem?_eq_none hge] at h; cases h
theorem Base.on {w w' : World} (h : Base w) (hb : Below w.heap.size w w') : Base w' := by
  obtain ⟨m, h1⟩ := h.cut
  obtain ⟨t4, p4, h4⟩ := h.esy
  obtain ⟨t5, p5, h5⟩ := h.era
  have hk := kept_of hb
  exact ⟨tab_on (g := (Tryz.prog.globalNamed "internal/strconv.uint64pow10").get (by kernel_rfl)) (by kernel_rfl) h.tab hb, ⟨m, hk _ _ h1⟩, ⟨t4, p4, hk _ _ h4⟩, ⟨t5, p5, hk _ _ h5⟩⟩
theorem itoa_any {w : World} (h : Base w) (n : Int) (h0 : -9223372036854775808 ≤ n) (h1 : n ≤ 9223372036854775807) :
    Calls Tryz.prog 18 #[.int .i64 n] w fun e w' => e = .returned (.string (itoaB n)) ∧ Below w.heap.size w w' := by
  refine (Tryz.strconv_Itoa n h0 h1 w h.tab).mono ?_
  rintro e w' ⟨rfl, k, os, rfl⟩
  exact ⟨rfl, Lib.below_grow _ _ (Nat.le_refl _) k os⟩
theorem itoaB_size (n : Int) (h0 : -9223372036854775808 ≤ n) (h1 : n ≤ 9223372036854775807) : (itoaB n).size ≤ 21 := by
  show (Lib.itoa n).toArray.size ≤ 21
  rw [List.size_toArray]
  exact Lib.itoa_length_le n h0 h1
end Go.Proofs.YthihpggjglghoaaGreatDoor
