/- law's Table: contract. -/
import Derived.Test.YthihpggjglghoaaGreatDoorRd
namespace Go.Proofs.YthihpggjglghoaaGreatDoor
open Go.RowKit Go.Shelf

theorem lspan_any (a b : Int) (w : World) :
    Calls Tryz.prog 31 #[.int .i64 a, .int .i64 b] w fun e w' => e = .returned (.agg #[.int .i64 a, .int .i64 b]) ∧ w' = w.alloc (.cells #[.int .i64 a, .int .i64 b] 43) := by
  go_enter Tryz.func31, Tryz.ntmps31
  go_wp2
  refine bodyPost_ret (v := .agg #[.int .i64 a, .int .i64 b]) (by simp [results, Tryz.results31, go_sem]) rfl ⟨rfl, ?_⟩
  simp

def nmMelt : ByteArray := ⟨#[109, 101, 108, 116]⟩
def nmAcid : ByteArray := ⟨#[97, 99, 105, 100]⟩
def nmBees : ByteArray := ⟨#[98, 101, 101, 115]⟩
def nmPara : ByteArray := ⟨#[112, 97, 114, 97, 102, 102, 105, 110]⟩
def nmTall : ByteArray := ⟨#[116, 97, 108, 108, 111, 119]⟩
/-- The table of the examples. -/
def TT (a0 a1 a2 : Option Addr) : Tab := ⟨[⟨nmMelt, 5⟩, ⟨nmAcid, 2⟩], [⟨nmBees, a0, 2, [(620, 640), (17, 22)]⟩, ⟨nmPara, a1, 2, [(540, 580), (0, 0)]⟩, ⟨nmTall, a2, 2, [(420, 460), (2, 10)]⟩], 950⟩
/-- A block that holds two cells an element. -/
theorem rowAt_blk {α : Type} {w : World} {g : Nat} {T : TypeId} {cs : Array Value} {enc : α → Nat → Value} {l : List α} {f f' : α → Value} (h : Blk w g T cs) (h0 : ∀ x, enc x 0 = f x) (h1 : ∀ x, enc x 1 = f' x) (hc : cs.toList = l.flatMap fun x => [f x, f' x]) : RowAt 2 enc w w.heap.size (some ⟨g, 0, none⟩) l := by
  intro _
  refine ⟨g, 0, rfl, h.lt, fun i x hi j hj => ?_⟩
  have h2 := pair_cells h0 h1 i x hi j hj
  rw [← hc, Array.getElem?_toList] at h2
  rw [h.cell]
  simpa using h2
theorem Blk.newAt (w : World) (T : TypeId) (cs : Array Value) (n : Nat) (hn : n = w.heap.size) : Blk (w.alloc (.cells cs T)) n T cs := by subst hn; exact Blk.new w T cs
def TabOut (w : World) (e : Ending) (w' : World) : Prop := ∃ pa ka a0 a1 a2, e = .returned (.agg #[.slice pa 2 2, .slice ka 3 3, .int .i64 950]) ∧ TabIn w' pa ka 2 3 (TT a0 a1 a2) ∧ Below w.heap.size w w'
theorem TT_fit (a0 a1 a2 : Option Addr) : NamesFit (TT a0 a1 a2) := by
  constructor
  · intro p hp
    simp only [TT, List.mem_cons, List.not_mem_nil, or_false] at hp
    rcases hp with rfl | rfl <;> decide
  · intro k hk
    simp only [TT, List.mem_cons, List.not_mem_nil, or_false] at hk
    rcases hk with rfl | rfl | rfl
    · exact (by decide : nmBees.size ≤ 9223372036854775807)
    · exact (by decide : nmPara.size ≤ 9223372036854775807)
    · exact (by decide : nmTall.size ≤ 9223372036854775807)
theorem tt_in {W : World} {g h g0 g1 g2 : Nat} (hp : Blk W g 47 #[.string nmMelt, .int .i64 5, .string nmAcid, .int .i64 2])
    (hk : Blk W h 51 #[.string nmBees, .slice (some ⟨g0, 0, none⟩) 2 2, .string nmPara, .slice (some ⟨g1, 0, none⟩) 2 2, .string nmTall, .slice (some ⟨g2, 0, none⟩) 2 2])
    (b0 : Blk W g0 43 #[.int .i64 620, .int .i64 640, .int .i64 17, .int .i64 22]) (b1 : Blk W g1 43 #[.int .i64 540, .int .i64 580, .int .i64 0, .int .i64 0]) (b2 : Blk W g2 43 #[.int .i64 420, .int .i64 460, .int .i64 2, .int .i64 10]) :
    TabIn W (some ⟨g, 0, none⟩) (some ⟨h, 0, none⟩) 2 3 (TT (some ⟨g0, 0, none⟩) (some ⟨g1, 0, none⟩) (some ⟨g2, 0, none⟩)) := by
  refine ⟨⟨rowAt_blk (enc := encP) hp (fun _ => rfl) (fun _ => rfl) rfl, ⟨rowAt_blk (enc := encK) hk (fun _ => rfl) (fun _ => rfl) rfl, ?_⟩, by simp [TT], by simp [TT]⟩, by simp [TT], by simp [TT], TT_fit _ _ _⟩
  intro k hk
  simp only [TT, List.mem_cons, List.not_mem_nil, or_false] at hk
  rcases hk with rfl | rfl | rfl
  · exact ⟨rowAt_blk (enc := encS) b0 (fun _ => rfl) (fun _ => rfl) rfl, by simp⟩
  · exact ⟨rowAt_blk (enc := encS) b1 (fun _ => rfl) (fun _ => rfl) rfl, by simp⟩
  · exact ⟨rowAt_blk (enc := encS) b2 (fun _ => rfl) (fun _ => rfl) rfl, by simp⟩

set_option maxRecDepth 100000 in
set_option maxHeartbeats 4000000 in
theorem table_any (w : World) : Calls Tryz.prog 27 #[] w (TabOut w) := by
  go_enter Tryz.func27, Tryz.ntmps27
  go_wp2_with (go_at_call 31; refine (lspan_any _ _ _).mono ?_; rintro e w' ⟨rfl, rfl⟩)
  refine bodyPost_ret (v := .agg #[.slice (some ⟨w.heap.size + 1, 0, none⟩) 2 2, .slice (some ⟨w.heap.size + 1 + 1 + 1 + 1 + 1 + 1 + 1 + 1 + 1 + 1 + 1, 0, none⟩) 3 3, .int .i64 950]) (by simp [results, Tryz.results27, go_sem]) rfl ⟨_, _, some ⟨w.heap.size + 1 + 1 + 1 + 1, 0, none⟩, some ⟨w.heap.size + 1 + 1 + 1 + 1 + 1 + 1 + 1, 0, none⟩, some ⟨w.heap.size + 1 + 1 + 1 + 1 + 1 + 1 + 1 + 1 + 1 + 1, 0, none⟩, rfl, tt_in ?_ ?_ ?_ ?_ ?_, ?_⟩
  iterate 5 (· repeat (first | exact Blk.newAt _ _ _ _ (by simp) | refine Blk.alloc ?_ _))
  · repeat (first | exact Below.refl _ _ | refine Below.alloc ?_ (by simp; try omega) _)
end Go.Proofs.YthihpggjglghoaaGreatDoor
