/- The calls of the examples, as they are made. -/
import Derived.Test.YthihpggjglghoaaGreatDoorVal
namespace Go.Proofs.YthihpggjglghoaaGreatDoor
open Go.RowKit Go.Shelf

theorem ints_blk {w : World} {g : Nat} {T : TypeId} {cs : Array Value} {l : List Int} (h : Blk w g T cs) (hc : cs.toList = l.map (Value.int .i64)) (hl : l.length ≤ 9223372036854775807) : IntsIn w (some ⟨g, 0, none⟩) l := by
  refine ⟨fun _ => ⟨g, 0, rfl, h.lt, fun i x hi j hj => ?_⟩, hl⟩
  obtain rfl : j = 0 := by omega
  have h2 : cs.toList[i]? = some (.int .i64 x) := by rw [hc, List.getElem?_map, hi]; rfl
  rw [Array.getElem?_toList] at h2
  rw [h.cell]
  simpa [encI] using h2
/-- Readings that were laid just now. -/
theorem rd_new {W : World} {pa ka : Option Addr} {t : Tab} {pc kc : Nat} (h : TabIn W pa ka pc kc t) (a b : Int) : RdIn (W.alloc (.cells #[.int .i64 a, .int .i64 b] 3)) pa ka (some ⟨W.heap.size, 0, none⟩) pc kc t [a, b] :=
  ⟨h.on ((Below.refl _ W).alloc (Nat.le_refl _) _), ints_blk (Blk.new W _ _) rfl (by simp)⟩
theorem below_new {W w' : World} {o : Obj} (hb : Below (W.alloc o).heap.size (W.alloc o) w') : Below W.heap.size W w' := ((Below.refl _ W).alloc (Nat.le_refl _) _).trans (hb.mono (by simp))

section
variable {W : World} {pa ka a0 a1 a2 : Option Addr}
theorem aw_mixed1 (h : TabIn W pa ka 2 3 (TT a0 a1 a2)) : Calls Tryz.prog 26 #[.agg #[.slice pa 2 2, .slice ka 3 3, .int .i64 950], .slice (some ⟨W.heap.size, 0, none⟩) 2 2, .int .i64 0, .int .i64 1] (W.alloc (.cells #[.int .i64 615, .int .i64 16] 3)) fun e w' => e = .returned (.tuple #[.agg #[.int .i64 637, .int .i64 1000], .int .i64 0]) ∧ Below W.heap.size W w' := by
  refine (mixed_any (rc := 2) (rd_new h 615 16) 0 1).mono ?_
  rintro e w' ⟨rfl, hb⟩
  rw [v_mixed1]
  exact ⟨rfl, below_new hb⟩
theorem aw_mixed2 (h : TabIn W pa ka 2 3 (TT a0 a1 a2)) : Calls Tryz.prog 26 #[.agg #[.slice pa 2 2, .slice ka 3 3, .int .i64 950], .slice (some ⟨W.heap.size, 0, none⟩) 2 2, .int .i64 1, .int .i64 2] (W.alloc (.cells #[.int .i64 615, .int .i64 16] 3)) fun e w' => e = .returned (.tuple #[.agg #[.int .i64 0, .int .i64 0], .int .i64 9]) ∧ Below W.heap.size W w' := by
  refine (mixed_any (rc := 2) (rd_new h 615 16) 1 2).mono ?_
  rintro e w' ⟨rfl, hb⟩
  rw [v_mixed2]
  exact ⟨rfl, below_new hb⟩
theorem aw_mixed3 (h : TabIn W pa ka 2 3 (TT a0 a1 a2)) : Calls Tryz.prog 26 #[.agg #[.slice pa 2 2, .slice ka 3 3, .int .i64 950], .slice (some ⟨W.heap.size, 0, none⟩) 2 2, .int .i64 0, .int .i64 2] (W.alloc (.cells #[.int .i64 615, .int .i64 16] 3)) fun e w' => e = .returned (.tuple #[.agg #[.int .i64 834, .int .i64 1000], .int .i64 0]) ∧ Below W.heap.size W w' := by
  refine (mixed_any (rc := 2) (rd_new h 615 16) 0 2).mono ?_
  rintro e w' ⟨rfl, hb⟩
  rw [v_mixed3]
  exact ⟨rfl, below_new hb⟩
theorem aw_sold1 (h : TabIn W pa ka 2 3 (TT a0 a1 a2)) : Calls Tryz.prog 13 #[.agg #[.slice pa 2 2, .slice ka 3 3, .int .i64 950], .slice (some ⟨W.heap.size, 0, none⟩) 2 2, .int .i64 0] (W.alloc (.cells #[.int .i64 643, .int .i64 16] 3)) fun e w' => e = .returned (.tuple #[.agg #[.int .i64 967, .int .i64 1000], .int .i64 1, .int .i64 0]) ∧ Below W.heap.size W w' := by
  refine (sold_any (rc := 2) (rd_new h 643 16) 0).mono ?_
  rintro e w' ⟨rfl, hb⟩
  rw [v_sold1]
  exact ⟨rfl, below_new hb⟩
theorem aw_sold2 (h : TabIn W pa ka 2 3 (TT a0 a1 a2)) : Calls Tryz.prog 13 #[.agg #[.slice pa 2 2, .slice ka 3 3, .int .i64 950], .slice (some ⟨W.heap.size, 0, none⟩) 2 2, .int .i64 0] (W.alloc (.cells #[.int .i64 615, .int .i64 16] 3)) fun e w' => e = .returned (.tuple #[.agg #[.int .i64 637, .int .i64 1000], .int .i64 2, .int .i64 0]) ∧ Below W.heap.size W w' := by
  refine (sold_any (rc := 2) (rd_new h 615 16) 0).mono ?_
  rintro e w' ⟨rfl, hb⟩
  rw [v_sold2]
  exact ⟨rfl, below_new hb⟩
theorem aw_sold3 (h : TabIn W pa ka 2 3 (TT a0 a1 a2)) : Calls Tryz.prog 13 #[.agg #[.slice pa 2 2, .slice ka 3 3, .int .i64 950], .slice (some ⟨W.heap.size, 0, none⟩) 2 2, .int .i64 0] (W.alloc (.cells #[.int .i64 600, .int .i64 9] 3)) fun e w' => e = .returned (.tuple #[.agg #[.int .i64 319, .int .i64 647], .int .i64 0, .int .i64 0]) ∧ Below W.heap.size W w' := by
  refine (sold_any (rc := 2) (rd_new h 600 9) 0).mono ?_
  rintro e w' ⟨rfl, hb⟩
  rw [v_sold3]
  exact ⟨rfl, below_new hb⟩
/-- A list that a call made. -/
def Lst (w : World) (v : Value) (l : List Int) : Prop := ∃ A c, v = .slice A l.length c ∧ IntsIn w A l
theorem lst_of {B : Nat} {w : World} {v : Value} {l : List Int} (h : IntsOut B w v l) : Lst w v l := by
  obtain ⟨A, c, rfl⟩ := own_slice h
  obtain ⟨_, h2, h3, h4⟩ := h.reads
  exact ⟨A, c, rfl, h2, by unfold maxLen at h4; omega⟩
theorem aw_sets (h : TabIn W pa ka 2 3 (TT a0 a1 a2)) : Calls Tryz.prog 12 #[.agg #[.slice pa 2 2, .slice ka 3 3, .int .i64 950], .slice (some ⟨W.heap.size, 0, none⟩) 2 2] (W.alloc (.cells #[.int .i64 615, .int .i64 16] 3)) fun e w' => ∃ A c, e = .returned (.tuple #[.slice A 3 c, .int .i64 0]) ∧ IntsIn w' A [1, 3, 5] ∧ Below W.heap.size W w' := by
  refine (setsT_any (rc := 2) (rd_new h 615 16)).mono ?_
  rw [v_sets]
  rintro e w' ⟨v, rfl, hi, hb⟩
  obtain ⟨A, c, rfl, hi2⟩ := lst_of hi
  exact ⟨A, c, rfl, hi2, below_new hb⟩
theorem aw_within1 (h : TabIn W pa ka 2 3 (TT a0 a1 a2)) : Calls Tryz.prog 28 #[.agg #[.slice pa 2 2, .slice ka 3 3, .int .i64 950], .slice (some ⟨W.heap.size, 0, none⟩) 2 2] (W.alloc (.cells #[.int .i64 600, .int .i64 9] 3)) fun e w' => ∃ A c B d, e = .returned (.tuple #[.slice A 2 c, .slice B 2 d, .int .i64 0]) ∧ IntsIn w' A [0, 1] ∧ IntsIn w' B [0, 1] ∧ Below W.heap.size W w' := by
  refine (within2_any (rc := 2) (rd_new h 600 9)).mono ?_
  rw [v_within1]
  rintro e w' ⟨v, u, rfl, hi, hj, hb⟩
  obtain ⟨A, c, rfl, hi2⟩ := lst_of hi
  obtain ⟨B, d, rfl, hj2⟩ := lst_of hj
  exact ⟨A, c, B, d, rfl, hi2, hj2, below_new hb⟩
theorem aw_within2 (h : TabIn W pa ka 2 3 (TT a0 a1 a2)) : Calls Tryz.prog 28 #[.agg #[.slice pa 2 2, .slice ka 3 3, .int .i64 950], .slice (some ⟨W.heap.size, 0, none⟩) 2 2] (W.alloc (.cells #[.int .i64 615, .int .i64 16] 3)) fun e w' => ∃ A c B d, e = .returned (.tuple #[.slice A 1 c, .slice B 3 d, .int .i64 0]) ∧ IntsIn w' A [0] ∧ IntsIn w' B [0, 1, 2] ∧ Below W.heap.size W w' := by
  refine (within2_any (rc := 2) (rd_new h 615 16)).mono ?_
  rw [v_within2]
  rintro e w' ⟨v, u, rfl, hi, hj, hb⟩
  obtain ⟨A, c, rfl, hi2⟩ := lst_of hi
  obtain ⟨B, d, rfl, hj2⟩ := lst_of hj
  exact ⟨A, c, B, d, rfl, hi2, hj2, below_new hb⟩
theorem aw_detect1 (h : TabIn W pa ka 2 3 (TT a0 a1 a2)) : Calls Tryz.prog 29 #[.agg #[.slice pa 2 2, .slice ka 3 3, .int .i64 950], .int .i64 0, .int .i64 1] W fun e w' => e = .returned (.tuple #[.int .i64 410, .int .i64 0]) ∧ Below W.heap.size W w' := by
  refine (detect_any h 0 1).mono ?_
  rintro e w' ⟨rfl, hb⟩
  rw [v_detect1]
  exact ⟨rfl, hb⟩
theorem aw_detect2 (h : TabIn W pa ka 2 3 (TT a0 a1 a2)) : Calls Tryz.prog 29 #[.agg #[.slice pa 2 2, .slice ka 3 3, .int .i64 950], .int .i64 1, .int .i64 0] W fun e w' => e = .returned (.tuple #[.int .i64 236, .int .i64 0]) ∧ Below W.heap.size W w' := by
  refine (detect_any h 1 0).mono ?_
  rintro e w' ⟨rfl, hb⟩
  rw [v_detect2]
  exact ⟨rfl, hb⟩
theorem aw_write (h : TabIn W pa ka 2 3 (TT a0 a1 a2)) (hB : Base W) : Calls Tryz.prog 5 #[.agg #[.slice pa 2 2, .slice ka 3 3, .int .i64 950]] W fun e w' => e = .returned (.tuple #[.string textB, .int .i64 0]) ∧ Below W.heap.size W w' := by
  refine (write_any h hB).mono ?_
  rintro e w' ⟨rfl, hb⟩
  rw [v_write]
  exact ⟨rfl, hb⟩
theorem aw_read (hB : Base W) : Calls Tryz.prog 7 #[.string textB] W fun e w' => ∃ pa pc ka kc ks, e = .returned (.tuple #[.agg #[.slice pa 2 pc, .slice ka 3 kc, .int .i64 950], .int .i64 0]) ∧ TabIn w' pa ka pc kc ⟨[⟨nmMelt, 5⟩, ⟨nmAcid, 2⟩], ks, 950⟩ ∧ ks.map (fun k => (k.nm, k.rs)) = [(nmBees, [(620, 640), (17, 22)]), (nmPara, [(540, 580), (0, 0)]), (nmTall, [(420, 460), (2, 10)])] ∧ Below W.heap.size W w' := by
  refine (read_any hB textB (by decide)).mono ?_
  rw [v_read]
  rintro e w' ⟨pa, pc, ka, kc, ks, rfl, h1, h2, h3⟩
  have hl : ks.length = 3 := by
    have := congrArg List.length h2
    simpa using this
  rw [hl]
  exact ⟨pa, pc, ka, kc, ks, rfl, h1, h2, h3⟩
theorem aw_tables {pb kb : Option Addr} {pd kd : Nat} {ks : List Kd} (h : TabIn W pa ka pd kd ⟨[⟨nmMelt, 5⟩, ⟨nmAcid, 2⟩], ks, 950⟩) (hk : ks.map (fun k => (k.nm, k.rs)) = [(nmBees, [(620, 640), (17, 22)]), (nmPara, [(540, 580), (0, 0)]), (nmTall, [(420, 460), (2, 10)])]) (h2 : TabIn W pb kb 2 3 (TT a0 a1 a2)) :
    Calls Tryz.prog 9 #[.agg #[.slice pa 2 pd, .slice ka 3 kd, .int .i64 950], .agg #[.slice pb 2 2, .slice kb 3 3, .int .i64 950]] W fun e w' => e = .returned (.bool true) ∧ Below W.heap.size W w' := by
  have hl : ks.length = 3 := by
    have := congrArg List.length hk
    simpa using this
  have hT := tables_any h h2
  have he : decide (tabEq ⟨[⟨nmMelt, 5⟩, ⟨nmAcid, 2⟩], ks, 950⟩ (TT a0 a1 a2)) = true := by
    rw [decide_eq_true_eq]
    exact ⟨rfl, hk, rfl⟩
  rw [he] at hT
  simp only [hl] at hT
  exact hT
end

/-- What Awake has at its end: two ranges, three lists, and the table that was read. -/
structure AwI (w : World) (b1 b2 b3 : Nat) (sA mA nA pa ka : Option Addr) (pc kc : Nat) (ks : List Kd) (W : World) : Prop where
  B1 : Blk W b1 43 #[.int .i64 637, .int .i64 1000]
  B2 : Blk W b2 43 #[.int .i64 967, .int .i64 1000]
  B3 : Blk W b3 25 #[.slice pa 2 pc, .slice ka 3 kc, .int .i64 950]
  S1 : IntsIn W sA [1, 3, 5]
  S2 : IntsIn W mA [0, 1]
  S3 : IntsIn W nA [0, 1]
  T : TabIn W pa ka pc kc ⟨[⟨nmMelt, 5⟩, ⟨nmAcid, 2⟩], ks, 950⟩
  b : Below w.heap.size w W
section
variable {w W W' : World} {b1 b2 b3 : Nat} {sA mA nA pa ka : Option Addr} {pc kc : Nat} {ks : List Kd}
theorem AwI.on (h : AwI w b1 b2 b3 sA mA nA pa ka pc kc ks W) (hb : Below W.heap.size W W') : AwI w b1 b2 b3 sA mA nA pa ka pc kc ks W' :=
  ⟨h.B1.on hb, h.B2.on hb, h.B3.on hb, h.S1.on hb, h.S2.on hb, h.S3.on hb, h.T.on hb, h.b.trans (hb.mono h.b.size)⟩
theorem AwI.alloc (h : AwI w b1 b2 b3 sA mA nA pa ka pc kc ks W) (o : Obj) : AwI w b1 b2 b3 sA mA nA pa ka pc kc ks (W.alloc o) := h.on ((Below.refl _ W).alloc (Nat.le_refl _) _)
theorem AwI.drew (h : AwI w b1 b2 b3 sA mA nA pa ka pc kc ks W) : AwI w b1 b2 b3 sA mA nA pa ka pc kc ks W.drew := h.on (Below.refl _ W).drew
theorem AwI.held (h : AwI w b1 b2 b3 sA mA nA pa ka pc kc ks W) : W.cell? ⟨b1, 0, none⟩ = some (.int .i64 637) ∧ W.cell? ⟨b1, 1, none⟩ = some (.int .i64 1000) ∧ W.cell? ⟨b2, 0, none⟩ = some (.int .i64 967) ∧ W.cell? ⟨b2, 1, none⟩ = some (.int .i64 1000) ∧
    W.cell? ⟨b3, 0, none⟩ = some (.slice pa 2 pc) ∧ W.cell? ⟨b3, 1, none⟩ = some (.slice ka 3 kc) ∧ W.cell? ⟨b3, 2, none⟩ = some (.int .i64 950) ∧ AwI w b1 b2 b3 sA mA nA pa ka pc kc ks W :=
  ⟨h.B1.cell 0, h.B1.cell 1, h.B2.cell 0, h.B2.cell 1, h.B3.cell 0, h.B3.cell 1, h.B3.cell 2, h⟩
theorem aw_ints {A : Option Addr} {c : Nat} {l : List Int} {X : World} (h : IntsIn (X.alloc (.cells (l.map (Value.int .i64)).toArray 3)) A l) :
    Calls Tryz.prog 32 #[.slice A l.length c, .slice (some ⟨X.heap.size, 0, none⟩) l.length l.length] (X.alloc (.cells (l.map (Value.int .i64)).toArray 3)) fun e w' => e = .returned (.bool true) ∧ Below (X.alloc (.cells (l.map (Value.int .i64)).toArray 3)).heap.size (X.alloc (.cells (l.map (Value.int .i64)).toArray 3)) w' := by
  have hi := ints_any (c := c) (d := l.length) h (ints_blk (Blk.new X 3 (l.map (Value.int .i64)).toArray) (by simp) h.len)
  simpa using hi
theorem aw_intsA {sc g : Nat} {X : World} (hg : g = X.heap.size) (h : AwI w b1 b2 b3 sA mA nA pa ka pc kc ks (X.alloc (.cells #[.int .i64 1, .int .i64 3, .int .i64 5] 3))) :
    Calls Tryz.prog 32 #[.slice sA 3 sc, .slice (some ⟨g, 0, none⟩) 3 3] (X.alloc (.cells #[.int .i64 1, .int .i64 3, .int .i64 5] 3)) fun e w' => e = .returned (.bool true) ∧ Below (X.alloc (.cells #[.int .i64 1, .int .i64 3, .int .i64 5] 3)).heap.size (X.alloc (.cells #[.int .i64 1, .int .i64 3, .int .i64 5] 3)) w' := by
  subst hg
  exact aw_ints (l := [1, 3, 5]) h.S1
theorem aw_intsB {sc g : Nat} {X : World} (hg : g = X.heap.size) (h : AwI w b1 b2 b3 sA mA nA pa ka pc kc ks (X.alloc (.cells #[.int .i64 0, .int .i64 1] 3))) :
    Calls Tryz.prog 32 #[.slice mA 2 sc, .slice (some ⟨g, 0, none⟩) 2 2] (X.alloc (.cells #[.int .i64 0, .int .i64 1] 3)) fun e w' => e = .returned (.bool true) ∧ Below (X.alloc (.cells #[.int .i64 0, .int .i64 1] 3)).heap.size (X.alloc (.cells #[.int .i64 0, .int .i64 1] 3)) w' := by
  subst hg
  exact aw_ints (l := [0, 1]) h.S2
theorem aw_intsC {sc g : Nat} {X : World} (hg : g = X.heap.size) (h : AwI w b1 b2 b3 sA mA nA pa ka pc kc ks (X.alloc (.cells #[.int .i64 0, .int .i64 1] 3))) :
    Calls Tryz.prog 32 #[.slice nA 2 sc, .slice (some ⟨g, 0, none⟩) 2 2] (X.alloc (.cells #[.int .i64 0, .int .i64 1] 3)) fun e w' => e = .returned (.bool true) ∧ Below (X.alloc (.cells #[.int .i64 0, .int .i64 1] 3)).heap.size (X.alloc (.cells #[.int .i64 0, .int .i64 1] 3)) w' := by
  subst hg
  exact aw_ints (l := [0, 1]) h.S3
end
theorem aw_name1 (w : World) : Calls Tryz.prog 30 #[.string ⟨#[98, 101, 101, 115, 45, 119, 97, 120]⟩] w fun e w' => e = .returned (.bool true) ∧ Below w.heap.size w w' := by
  have h := name_any ⟨#[98, 101, 101, 115, 45, 119, 97, 120]⟩ w (by decide)
  rw [v_name1] at h
  exact h
theorem aw_name2 (w : World) : Calls Tryz.prog 30 #[.string ⟨#[98, 101, 101, 115, 45]⟩] w fun e w' => e = .returned (.bool false) ∧ Below w.heap.size w w' := by
  have h := name_any ⟨#[98, 101, 101, 115, 45]⟩ w (by decide)
  rw [v_name2] at h
  exact h
theorem span_same (a b : Int) (w : World) : (binOp .eql 43 (.agg #[.int .i64 a, .int .i64 b]) (.agg #[.int .i64 a, .int .i64 b])).run Tryz.prog w = .ok (.bool true) w := by
  have h := span_eql (a, b) (a, b) w
  simpa using h
end Go.Proofs.YthihpggjglghoaaGreatDoor
