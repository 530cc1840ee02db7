/- The law's Awake: contract. -/
import Derived.Test.YtljbjcnfkbmjkaaMe7
import Derived.Test.YtljbjcnfkbmjkaaMeE
import Derived.Test.YtljbjcnfkbmjkaaMeF
import Derived.Test.YtljbjcnfkbmjkaaMeG
import Derived.Test.YtljbjcnfkbmjkaaMdE
import Derived.Test.YtljbjcnfkbmjkaaMd8
import Derived.Test.YtljbjcnfkbmjkaaGd
namespace Go.Proofs.Ytljbjcnfkbmjkaa
open Go.RowKit Go.Shelf Go.Maps
attribute [local go_sem] Oper.semAt_some

theorem aw_cool {W : World} {A1 A2 : Option Addr} (hp : IntsIn W A1 [800, 800]) (hq : IntsIn W A2 [300, 300, 300, 300, 300]) :
    Calls Try.prog 20 #[.agg #[.int .i64 2, .int .i64 500, .int .i64 800, .int .i64 800, .int .i64 200, .int .i64 300, .int .i64 540, .int .i64 100, .int .i64 1, .int .i64 250, .int .i64 1, .int .i64 150], .agg #[.slice A1 2 2, .slice A2 5 5]] W fun e w' => ∃ A c, e = .returned (.tuple #[.slice A 2 c, .int .i64 0]) ∧ IntsIn w' A [424, 502] ∧ Below W.heap.size W w' := by
  refine (cool_any (c1 := 2) (c2 := 5) (mo 150) hp hq).mono ?_
  rw [ev_cool]
  rintro e w' ⟨v, rfl, hv, hb⟩
  obtain ⟨A, c, rfl, hi⟩ := hv.in_
  exact ⟨A, c, rfl, hi, hb⟩
theorem aw_warm (W : World) :
    Calls Try.prog 23 #[.agg #[.int .i64 2, .int .i64 500, .int .i64 800, .int .i64 800, .int .i64 200, .int .i64 300, .int .i64 540, .int .i64 100, .int .i64 1, .int .i64 250, .int .i64 1, .int .i64 150], .int .i64 3] W fun e w' => ∃ A c, e = .returned (.tuple #[.slice A 2 c, .int .i64 0]) ∧ SpansIn w' A [(425, 487), (575, 612)] ∧ Below W.heap.size W w' := by
  refine (mwarm_any (mo 150) 3 W).mono ?_
  rw [ev_warm]
  rintro e w' ⟨v, rfl, hv, hb⟩
  obtain ⟨A, c, rfl, hi⟩ := SpansOut.in_ hv
  exact ⟨A, c, rfl, hi, hb⟩
theorem aw_sets (W : World) :
    Calls Try.prog 27 #[.agg #[.int .i64 2, .int .i64 500, .int .i64 800, .int .i64 800, .int .i64 200, .int .i64 300, .int .i64 540, .int .i64 100, .int .i64 1, .int .i64 250, .int .i64 1, .int .i64 150]] W fun e w' => ∃ A c, e = .returned (.tuple #[.slice A 2 c, .int .i64 0]) ∧ SpansIn w' A [(1, 3), (4, 5)] ∧ Below W.heap.size W w' := by
  refine (msets_any (mo 150) W).mono ?_
  rw [ev_sets]
  rintro e w' ⟨v, rfl, hv, hb⟩
  obtain ⟨A, c, rfl, hi⟩ := SpansOut.in_ hv
  exact ⟨A, c, rfl, hi, hb⟩
theorem aw_skin (W : World) :
    Calls Try.prog 29 #[.agg #[.int .i64 2, .int .i64 500, .int .i64 800, .int .i64 800, .int .i64 200, .int .i64 300, .int .i64 540, .int .i64 100, .int .i64 1, .int .i64 250, .int .i64 1, .int .i64 150], .int .i64 4] W fun e w' => e = .returned (.tuple #[.agg #[.int .i64 1, .int .i64 2], .int .i64 0]) ∧ Below W.heap.size W w' := by
  refine (mskin_any (mo 150) 4 W).mono ?_
  rw [ev_skin]
  exact fun e w' h => h
theorem aw_holl {W : World} {A : Option Addr} (hp : IntsIn W A [2, 3]) :
    Calls Try.prog 31 #[.agg #[.int .i64 2, .int .i64 500, .int .i64 800, .int .i64 800, .int .i64 200, .int .i64 300, .int .i64 540, .int .i64 100, .int .i64 1, .int .i64 250, .int .i64 1, .int .i64 150], .slice A 2 2] W fun e w' => e = .returned (.tuple #[.agg #[.int .i64 100, .int .i64 150, .int .i64 250, .int .i64 300], .int .i64 0]) ∧ Below W.heap.size W w' := by
  refine (hollow_any (c := 2) (mo 150) hp).mono ?_
  rw [ev_holl]
  exact fun e w' h => h
theorem aw_few (W : World) :
    Calls Try.prog 33 #[.agg #[.int .i64 2, .int .i64 500, .int .i64 800, .int .i64 800, .int .i64 200, .int .i64 300, .int .i64 540, .int .i64 100, .int .i64 1, .int .i64 250, .int .i64 1, .int .i64 150]] W fun e w' => ∃ A c, e = .returned (.tuple #[.slice A 1 c, .int .i64 0]) ∧ IntsIn w' A [3] ∧ Below W.heap.size W w' := by
  refine (fewest_any (mo 150) W).mono ?_
  rw [ev_few]
  rintro e w' ⟨v, rfl, hv, hb⟩
  obtain ⟨A, c, rfl, hi⟩ := hv.in_
  exact ⟨A, c, rfl, hi, hb⟩
theorem aw_down (W : World) :
    Calls Try.prog 33 #[.agg #[.int .i64 2, .int .i64 500, .int .i64 800, .int .i64 800, .int .i64 200, .int .i64 300, .int .i64 540, .int .i64 100, .int .i64 1, .int .i64 250, .int .i64 1, .int .i64 149]] W fun e w' => ∃ v, e = .returned (.tuple #[v, .int .i64 9]) ∧ Below W.heap.size W w' := by
  refine (fewest_any (mo 149) W).mono ?_
  rw [ev_down]
  rintro e w' ⟨v, rfl, hv, hb⟩
  exact ⟨v, rfl, hb⟩
theorem aw_check (W : World) :
    Calls Try.prog 18 #[.agg #[.int .i64 2, .int .i64 500, .int .i64 800, .int .i64 800, .int .i64 200, .int .i64 300, .int .i64 540, .int .i64 100, .int .i64 1, .int .i64 250, .int .i64 1, .int .i64 (-1)]] W fun e w' => e = .returned (.int .i64 7) ∧ Below W.heap.size W w' := by
  refine (check_any (mo (-1)) W).mono ?_
  rw [ev_check]
  exact fun e w' h => h
/-- What stands in memory, whatever calls make behind it. -/
structure Stn (w : World) (P : World → Prop) (W : World) : Prop where
  b : Below w.heap.size w W
  p : P W
  st : ∀ W W', P W → Below W.heap.size W W' → P W'
theorem Stn.on {w W W' : World} {P : World → Prop} (h : Stn w P W) (hb : Below W.heap.size W W') : Stn w P W' := ⟨h.b.trans (hb.mono h.b.size), h.st _ _ h.p hb, h.st⟩
theorem Stn.alloc {w W : World} {P : World → Prop} (h : Stn w P W) (o : Obj) : Stn w P (W.alloc o) := h.on ((Below.refl _ W).alloc (Nat.le_refl _) _)
theorem Stn.add {w W : World} {P Q : World → Prop} (h : Stn w P W) (q : Q W) (hq : ∀ W W', Q W → Below W.heap.size W W' → Q W') : Stn w (fun W => P W ∧ Q W) W := ⟨h.b, ⟨h.p, q⟩, fun W W' h1 h2 => ⟨h.st W W' h1.1 h2, hq W W' h1.2 h2⟩⟩
theorem Stn.new (w : World) : Stn w (fun _ => True) w := ⟨Below.refl _ _, trivial, fun _ _ _ _ => trivial⟩
theorem ints_st (A : Option Addr) (l : List Int) : ∀ W W', IntsIn W A l → Below W.heap.size W W' → IntsIn W' A l := fun _ _ h hb => h.on hb
theorem spans_st (A : Option Addr) (l : List (Int × Int)) : ∀ W W', SpansIn W A l → Below W.heap.size W W' → SpansIn W' A l := fun _ _ h hb => h.on hb
/-- What the giant region of Awake reads. -/
structure AwS (w : World) (A1 A2 A3 A4 : Option Addr) (K X : Nat) (W : World) : Prop where
  b : Below w.heap.size w W
  a1 : IntsIn W A1 [424, 502]
  a2 : SpansIn W A2 [(425, 487), (575, 612)]
  a3 : SpansIn W A3 [(1, 3), (4, 5)]
  a4 : IntsIn W A4 [3]
  k : Blk W K 23 #[.int .i64 1, .int .i64 2]
  x : Blk W X 45 #[.int .i64 100, .int .i64 150, .int .i64 250, .int .i64 300]
theorem AwS.on {w W W' : World} {A1 A2 A3 A4 : Option Addr} {K X : Nat} (h : AwS w A1 A2 A3 A4 K X W) (hb : Below W.heap.size W W') : AwS w A1 A2 A3 A4 K X W' :=
  ⟨h.b.trans (hb.mono h.b.size), h.a1.on hb, h.a2.on hb, h.a3.on hb, h.a4.on hb, h.k.on hb, h.x.on hb⟩
theorem AwS.alloc {w W : World} {A1 A2 A3 A4 : Option Addr} {K X : Nat} (h : AwS w A1 A2 A3 A4 K X W) (o : Obj) : AwS w A1 A2 A3 A4 K X (W.alloc o) := h.on ((Below.refl _ W).alloc (Nat.le_refl _) _)
theorem AwS.drew {w W : World} {A1 A2 A3 A4 : Option Addr} {K X : Nat} (h : AwS w A1 A2 A3 A4 K X W) : AwS w A1 A2 A3 A4 K X W.drew := h.on (Below.refl _ _).drew
theorem AwS.held {w W : World} {A1 A2 A3 A4 : Option Addr} {K X : Nat} (h : AwS w A1 A2 A3 A4 K X W) : W.cell? ⟨K, 0, none⟩ = some (.int .i64 1) ∧ W.cell? ⟨K, 1, none⟩ = some (.int .i64 2) ∧ W.cell? ⟨X, 0, none⟩ = some (.int .i64 100) ∧ W.cell? ⟨X, 1, none⟩ = some (.int .i64 150) ∧ W.cell? ⟨X, 2, none⟩ = some (.int .i64 250) ∧ W.cell? ⟨X, 3, none⟩ = some (.int .i64 300) ∧ AwS w A1 A2 A3 A4 K X W :=
  ⟨h.k.cell 0, h.k.cell 1, h.x.cell 0, h.x.cell 1, h.x.cell 2, h.x.cell 3, h⟩
theorem ints2 {W : World} {g : Nat} {a b : Int} (hl : g < W.heap.size) (h0 : W.cell? ⟨g, 0, none⟩ = some (.int .i64 a)) (h1 : W.cell? ⟨g, 1, none⟩ = some (.int .i64 b)) : IntsIn W (some ⟨g, 0, none⟩) [a, b] :=
  ⟨fun _ => ⟨g, 0, rfl, hl, fun i x hi j hj => by
    obtain rfl : j = 0 := by omega
    match i, hi with
    | 0, hi => simp at hi; subst hi; exact h0
    | 1, hi => simp at hi; subst hi; exact h1⟩, by simp⟩
theorem ints1 {W : World} {g : Nat} {a : Int} (hl : g < W.heap.size) (h0 : W.cell? ⟨g, 0, none⟩ = some (.int .i64 a)) : IntsIn W (some ⟨g, 0, none⟩) [a] :=
  ⟨fun _ => ⟨g, 0, rfl, hl, fun i x hi j hj => by
    obtain rfl : j = 0 := by omega
    match i, hi with
    | 0, hi => simp at hi; subst hi; exact h0⟩, by simp⟩
theorem spans2 {W : World} {g : Nat} {a b c d : Int} (hl : g < W.heap.size) (h0 : W.cell? ⟨g, 0, none⟩ = some (.int .i64 a)) (h1 : W.cell? ⟨g, 1, none⟩ = some (.int .i64 b)) (h2 : W.cell? ⟨g, 2, none⟩ = some (.int .i64 c)) (h3 : W.cell? ⟨g, 3, none⟩ = some (.int .i64 d)) : SpansIn W (some ⟨g, 0, none⟩) [(a, b), (c, d)] :=
  ⟨fun _ => ⟨g, 0, rfl, hl, fun i x hi j hj => by
    match i, hi with
    | 0, hi => simp at hi; subst hi; match j, hj with
      | 0, _ => exact h0
      | 1, _ => exact h1
    | 1, hi => simp at hi; subst hi; match j, hj with
      | 0, _ => exact h2
      | 1, _ => exact h3⟩, by simp⟩
theorem aw_ints {W : World} {A : Option Addr} {n g : Nat} {a b : Int} (hl : g < W.heap.size) (h0 : W.cell? ⟨g, 0, none⟩ = some (.int .i64 a)) (h1 : W.cell? ⟨g, 1, none⟩ = some (.int .i64 b)) (h : IntsIn W A [a, b]) :
    Calls Try.prog 22 #[.slice A 2 n, .slice (some ⟨g, 0, none⟩) 2 2] W fun e w' => e = .returned (.bool true) ∧ Below W.heap.size W w' :=
  (rints_any (c := n) (d := 2) h (ints2 hl h0 h1)).mono fun e w' h => ⟨by rw [h.1, decide_eq_true rfl], h.2⟩
theorem aw_int1 {W : World} {A : Option Addr} {n g : Nat} {a : Int} (hl : g < W.heap.size) (h0 : W.cell? ⟨g, 0, none⟩ = some (.int .i64 a)) (h : IntsIn W A [a]) :
    Calls Try.prog 22 #[.slice A 1 n, .slice (some ⟨g, 0, none⟩) 1 1] W fun e w' => e = .returned (.bool true) ∧ Below W.heap.size W w' :=
  (rints_any (c := n) (d := 1) h (ints1 hl h0)).mono fun e w' h => ⟨by rw [h.1, decide_eq_true rfl], h.2⟩
theorem aw_spans {W : World} {A : Option Addr} {n g : Nat} {a b c d : Int} (hl : g < W.heap.size) (h0 : W.cell? ⟨g, 0, none⟩ = some (.int .i64 a)) (h1 : W.cell? ⟨g, 1, none⟩ = some (.int .i64 b)) (h2 : W.cell? ⟨g, 2, none⟩ = some (.int .i64 c)) (h3 : W.cell? ⟨g, 3, none⟩ = some (.int .i64 d)) (h : SpansIn W A [(a, b), (c, d)]) :
    Calls Try.prog 25 #[.slice A 2 n, .slice (some ⟨g, 0, none⟩) 2 2] W fun e w' => e = .returned (.bool true) ∧ Below W.heap.size W w' :=
  (rspans_any (c := n) (d := 2) h.at_ h.len (spans2 hl h0 h1 h2 h3).at_ (spans2 hl h0 h1 h2 h3).len).mono fun e w' h => ⟨by rw [h.1, decide_eq_true rfl], by obtain ⟨k, rfl⟩ := h.2; exact below_drewN' (Below.refl _ _) _⟩
theorem blk_st (g : Nat) (T : TypeId) (cs : Array Value) : ∀ W W', Blk W g T cs → Below W.heap.size W W' → Blk W' g T cs := fun _ _ h hb => Blk.on h hb

set_option maxRecDepth 100000 in
set_option maxHeartbeats 8000000 in
theorem awake_any (w : World) :
    Calls Try.prog 26 #[] w fun e w' => e = .returned (.bool true) ∧ Below w.heap.size w w' := by
  have LAST := Lib.hid (Stn.new w)
  go_enter Try.func26, Try.ntmps26
  go_wp2_with (first
    | (go_at_call 35; (with_reducible refine (lmould_any 150 _).mono ?_); rintro e wn ⟨rfl, hb⟩; have NEW := Lib.hid (show Stn w _ _ by (first | exact LAST.out.on hb | exact (LAST.out.alloc _).on hb | exact ((LAST.out.alloc _).alloc _).on hb | exact (((LAST.out.alloc _).alloc _).alloc _).on hb)); clear LAST; have LAST := NEW; clear NEW; clear hb)
    | (go_at_call 35; (with_reducible refine (lmould_any 149 _).mono ?_); rintro e wn ⟨rfl, hb⟩; have NEW := Lib.hid (show Stn w _ _ by (first | exact LAST.out.on hb | exact (LAST.out.alloc _).on hb | exact ((LAST.out.alloc _).alloc _).on hb | exact (((LAST.out.alloc _).alloc _).alloc _).on hb)); clear LAST; have LAST := NEW; clear NEW; clear hb)
    | (go_at_call 35; (with_reducible refine (lmould_any (-1) _).mono ?_); rintro e wn ⟨rfl, hb⟩; have NEW := Lib.hid (show Stn w _ _ by (first | exact LAST.out.on hb | exact (LAST.out.alloc _).on hb | exact ((LAST.out.alloc _).alloc _).on hb | exact (((LAST.out.alloc _).alloc _).alloc _).on hb)); clear LAST; have LAST := NEW; clear NEW; clear hb)
    | (go_at_call 20; (refine (aw_cool (ints_blk ((Blk.new _ _ _).alloc _) rfl (by simp)) (ints_blk (Blk.new1 _ _ _ _) rfl (by simp))).mono ?_); rintro e wn ⟨A1, n1, rfl, hi, hb⟩; have NEW := Lib.hid (show Stn w _ _ by (first | exact LAST.out.on hb | exact (LAST.out.alloc _).on hb | exact ((LAST.out.alloc _).alloc _).on hb | exact (((LAST.out.alloc _).alloc _).alloc _).on hb)); clear LAST; have LAST := NEW; clear NEW; have NEW := Lib.hid (LAST.out.add hi (ints_st _ _)); clear LAST; have LAST := NEW; clear NEW; clear hb)
    | (go_at_call 23; (with_reducible refine (aw_warm _).mono ?_); rintro e wn ⟨A2, n2, rfl, hi, hb⟩; have NEW := Lib.hid (show Stn w _ _ by (first | exact LAST.out.on hb | exact (LAST.out.alloc _).on hb | exact ((LAST.out.alloc _).alloc _).on hb | exact (((LAST.out.alloc _).alloc _).alloc _).on hb)); clear LAST; have LAST := NEW; clear NEW; have NEW := Lib.hid (LAST.out.add hi (spans_st _ _)); clear LAST; have LAST := NEW; clear NEW; clear hb)
    | (go_at_call 27; (with_reducible refine (aw_sets _).mono ?_); rintro e wn ⟨A3, n3, rfl, hi, hb⟩; have NEW := Lib.hid (show Stn w _ _ by (first | exact LAST.out.on hb | exact (LAST.out.alloc _).on hb | exact ((LAST.out.alloc _).alloc _).on hb | exact (((LAST.out.alloc _).alloc _).alloc _).on hb)); clear LAST; have LAST := NEW; clear NEW; have NEW := Lib.hid (LAST.out.add hi (spans_st _ _)); clear LAST; have LAST := NEW; clear NEW; clear hb)
    | (go_at_call 29; (with_reducible refine (aw_skin _).mono ?_); rintro e wk ⟨rfl, hb⟩; have NEW := Lib.hid (show Stn w _ _ by (first | exact LAST.out.on hb | exact (LAST.out.alloc _).on hb | exact ((LAST.out.alloc _).alloc _).on hb | exact (((LAST.out.alloc _).alloc _).alloc _).on hb)); clear LAST; have LAST := NEW; clear NEW; have NEW := Lib.hid ((LAST.out.alloc (.cells #[.int .i64 1, .int .i64 2] 23)).add (Blk.new _ _ _) (blk_st _ _ _)); clear LAST; have LAST := NEW; clear NEW; clear hb)
    | (go_at_call 31; (refine (aw_holl (ints_blk (Blk.new _ _ _) rfl (by simp))).mono ?_); rintro e wx ⟨rfl, hb⟩; have NEW := Lib.hid (show Stn w _ _ by (first | exact LAST.out.on hb | exact (LAST.out.alloc _).on hb | exact ((LAST.out.alloc _).alloc _).on hb | exact (((LAST.out.alloc _).alloc _).alloc _).on hb)); clear LAST; have LAST := NEW; clear NEW; have NEW := Lib.hid ((LAST.out.alloc (.cells #[.int .i64 100, .int .i64 150, .int .i64 250, .int .i64 300] 45)).add (Blk.new _ _ _) (blk_st _ _ _)); clear LAST; have LAST := NEW; clear NEW; clear hb)
    | (go_at_call 33; (with_reducible refine (aw_few _).mono ?_); rintro e wn ⟨A4, n4, rfl, hi, hb⟩; have NEW := Lib.hid (show Stn w _ _ by (first | exact LAST.out.on hb | exact (LAST.out.alloc _).on hb | exact ((LAST.out.alloc _).alloc _).on hb | exact (((LAST.out.alloc _).alloc _).alloc _).on hb)); clear LAST; have LAST := NEW; clear NEW; have NEW := Lib.hid (LAST.out.add hi (ints_st _ _)); clear LAST; have LAST := NEW; clear NEW; clear hb)
    | (go_at_call 33; (with_reducible refine (aw_down _).mono ?_); rintro e wn ⟨v5, rfl, hb⟩; have NEW := Lib.hid (show Stn w _ _ by (first | exact LAST.out.on hb | exact (LAST.out.alloc _).on hb | exact ((LAST.out.alloc _).alloc _).on hb | exact (((LAST.out.alloc _).alloc _).alloc _).on hb)); clear LAST; have LAST := NEW; clear NEW; clear hb)
    | (go_at_call 18; (with_reducible refine (aw_check _).mono ?_); rintro e wn ⟨rfl, hb⟩; have NEW := Lib.hid (show Stn w _ _ by (first | exact LAST.out.on hb | exact (LAST.out.alloc _).on hb | exact ((LAST.out.alloc _).alloc _).on hb | exact (((LAST.out.alloc _).alloc _).alloc _).on hb)); clear LAST; have LAST := NEW; clear NEW; clear hb)
    | fail)
  obtain ⟨⟨⟨⟨⟨⟨-, hi1⟩, hi2⟩, hi3⟩, hk⟩, hx⟩, hi4⟩ := LAST.out.p
  have hI : Hid (AwS w _ _ _ _ _ _ _) := AwS.drew ⟨LAST.out.b, hi1, hi2, hi3, hi4, hk, hx⟩
  have e1 : ∀ W, (binOp .eql 23 (.agg #[.int .i64 1, .int .i64 2]) (.agg #[.int .i64 1, .int .i64 2])).run Try.prog W = .ok (.bool true) W := fun _ => by kernel_rfl
  have e2 : ∀ W, (binOp .eql 45 (.agg #[.int .i64 100, .int .i64 150, .int .i64 250, .int .i64 300]) (.agg #[.int .i64 100, .int .i64 150, .int .i64 250, .int .i64 300])).run Try.prog W = .ok (.bool true) W := fun _ => by kernel_rfl
  have hI2 := hI.out
  clear LAST hi1 hi2 hi3 hk hx hi4 hI
  simp only [List.append]
  go_region_held3 (fun w' => w'.cell? ⟨wk.heap.size, 0, none⟩ = some (.int .i64 1) ∧ w'.cell? ⟨wk.heap.size, 1, none⟩ = some (.int .i64 2) ∧ w'.cell? ⟨wx.heap.size, 0, none⟩ = some (.int .i64 100) ∧ w'.cell? ⟨wx.heap.size, 1, none⟩ = some (.int .i64 150) ∧ w'.cell? ⟨wx.heap.size, 2, none⟩ = some (.int .i64 250) ∧ w'.cell? ⟨wx.heap.size, 3, none⟩ = some (.int .i64 300) ∧ AwS w A1 A2 A3 A4 wk.heap.size wx.heap.size w')
    ((refine AwS.held ?_; first | assumption | (go_split_ands; assumption) | (go_split_ands; refine AwS.alloc ?_ _; assumption) | (go_split_ands; refine AwS.on ?_ hbN; assumption)))
    (first
      | (go_at_call 35; (with_reducible refine (lmould_any (-1) _).mono ?_); rintro e w' ⟨rfl, hbN⟩)
      | (go_at_call 18; (with_reducible refine (aw_check _).mono ?_); rintro e w' ⟨rfl, hbN⟩)
      | (go_at_call 36; (with_reducible refine (span_any _ _ _).mono ?_); rintro e w' ⟨rfl, hbN⟩)
      | (go_at_call 37; (with_reducible refine (lend_any _ _ _ _ _).mono ?_); rintro e w' ⟨rfl, hbN⟩)
      | (go_at_call 22; go_split_ands; (with_reducible refine (aw_ints (by simp) (by simp) (by simp) (AwS.a1 (by assumption))).mono ?_); rintro e w' ⟨rfl, hbN⟩)
      | (go_at_call 25; go_split_ands; (with_reducible refine (aw_spans (by simp) (by simp) (by simp) (by simp) (by simp) (AwS.a2 (by assumption))).mono ?_); rintro e w' ⟨rfl, hbN⟩)
      | (go_at_call 25; go_split_ands; (with_reducible refine (aw_spans (by simp) (by simp) (by simp) (by simp) (by simp) (AwS.a3 (by assumption))).mono ?_); rintro e w' ⟨rfl, hbN⟩)
      | (go_at_call 22; go_split_ands; (with_reducible refine (aw_int1 (by simp) (by simp) (AwS.a4 (by assumption))).mono ?_); rintro e w' ⟨rfl, hbN⟩)
      | fail)
  go_wp2_with fail
  go_ret
  first
    | exact ⟨rfl, AwS.b (by assumption)⟩
    | (go_split_ands; exact ⟨rfl, AwS.b (by assumption)⟩)
    | exact ⟨rfl, AwS.b (AwS.on (by assumption) hbN)⟩
    | (go_split_ands; exact ⟨rfl, AwS.b (AwS.on (by assumption) hbN)⟩)
end Go.Proofs.Ytljbjcnfkbmjkaa
