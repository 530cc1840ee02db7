/- Layer blend, a part: waxes and calls of the examples. No statement is proved here. -/
import Derived.Test.YtalghiecjhfflaaGq
import Derived.Test.YtalghiecjhfflaaGp
import Derived.Test.YtalghiecjhfflaaGl
import Derived.Test.YtalghiecjhfflaaGm
import Derived.Test.YtalghiecjhfflaaGj
import Derived.Test.YtalghiecjhfflaaGh
namespace Go.Proofs.Ytalghiecjhfflaa
open Go.RowKit Go.Shelf Go.Maps
attribute [local go_sem] Oper.semAt_some

/-- The waxes and the wish of the examples. -/
def exP : List Pt := [⟨0, 0⟩, ⟨2, 20⟩, ⟨4, 30⟩]
def exL (g : Nat) : List Bw := [⟨⟨#[98, 101, 101, 115]⟩, 1200, 620, 640, 90, 100, none, [], 0⟩, ⟨⟨#[112, 97, 114, 97, 102, 102, 105, 110]⟩, 200, 540, 580, 110, 150, none, [], 0⟩, ⟨⟨#[104, 97, 114, 100]⟩, 400, 690, 700, 60, 70, some ⟨g, 0, none⟩, exP, 3⟩]
def exW : Ws := ⟨[(4, 5), (0, 20), (0, 1)], 560, 620, 0, 140⟩
theorem ev_r3 (g : Nat) : raiseV (exL g) 2 3 = (25, 0) := by kernel_rfl
theorem ev_r1 (g : Nat) : raiseV (exL g) 2 1 = (10, 0) := by kernel_rfl
theorem ev_r2 (g : Nat) : raiseV (exL g) 2 2 = (20, 0) := by kernel_rfl
theorem ev_r5 (g : Nat) : raiseV (exL g) 2 5 = (30, 0) := by kernel_rfl
theorem ev_rn (g : Nat) : raiseV (exL g) 3 0 = (0, 4) := by kernel_rfl
theorem ev_v (g : Nat) : valV (exL g) [4, 15, 1] = ⟨⟨11470, 12160, 2070, 2720, 8200⟩, 0⟩ := by kernel_rfl
theorem ev_m (g : Nat) : madeV (exL g) [4, 15, 1] [(630, 90), (560, 130), (700, 60)] = (11820, 2370, 0) := by kernel_rfl
theorem ev_f16 (g : Nat) : fitsV (exL g) exW [4, 16, 0] = (2, 0) := by kernel_rfl
theorem ev_f15 (g : Nat) : fitsV (exL g) exW [4, 15, 1] = (0, 0) := by kernel_rfl
theorem ev_f14 (g : Nat) : fitsV (exL g) exW [4, 14, 2] = (1, 0) := by kernel_rfl
theorem ev_c (g : Nat) : cheapV (exL g) exW = ([4, 15, 1], 8200, 0) := by kernel_rfl
theorem ev_s0 (g : Nat) : staysV (exL g) exW [4, 15, 1] 0 = (400, 100000, 0) := by kernel_rfl
theorem ev_s1 (g : Nat) : staysV (exL g) exW [4, 15, 1] 1 = (0, 1200, 0) := by kernel_rfl
theorem ev_s2 (g : Nat) : staysV (exL g) exW [4, 15, 1] 2 = (0, 1200, 0) := by kernel_rfl
theorem ev_w1 (g : Nat) : weighV (exL g) [4, 15, 1] 1001 = ([200, 750, 51], 0) := by kernel_rfl
theorem ev_w0 (g : Nat) : weighV (exL g) [4, 15, 1] 1000 = ([200, 750, 50], 0) := by kernel_rfl
theorem ev_z (g : Nat) : orE [bdE (exL g), wishE (exL g).length exW] = 0 := by kernel_rfl
theorem ev_zs (g : Nat) (i : Int) (h : i = 0 ∨ i = 1 ∨ i = 2) : orE [bdE (exL g), wishE (exL g).length exW, recE (exL g).length [4, 15, 1], idxE (exL g).length i] = 0 := by
  rcases h with rfl | rfl | rfl <;> kernel_rfl
end Go.Proofs.Ytalghiecjhfflaa

namespace Go.Proofs.Ytalghiecjhfflaa
open Go.RowKit Go.Shelf Go.Maps
attribute [local go_sem] Oper.semAt_some

structure Stn (w : World) (P : World → Prop) (W : World) : Prop where
  b : Below w.heap.size w W
  p : P W
  st : ∀ W W', P W → Below W.heap.size W W' → P W'
theorem Stn.on {w W W' : World} {P : World → Prop} (h : Stn w P W) (hb : Below W.heap.size W W') : Stn w P W' := ⟨h.b.trans (hb.mono h.b.size), h.st _ _ h.p hb, h.st⟩
theorem Stn.alloc {w W : World} {P : World → Prop} (h : Stn w P W) (o : Obj) : Stn w P (W.alloc o) := h.on ((Below.refl _ W).alloc (Nat.le_refl _) _)
theorem Stn.add {w W : World} {P Q : World → Prop} (h : Stn w P W) (q : Q W) (hq : ∀ W W', Q W → Below W.heap.size W W' → Q W') : Stn w (fun W => P W ∧ Q W) W := ⟨h.b, ⟨h.p, q⟩, fun W W' h1 h2 => ⟨h.st W W' h1.1 h2, hq W W' h1.2 h2⟩⟩
theorem Stn.new (w : World) : Stn w (fun _ => True) w := ⟨Below.refl _ _, trivial, fun _ _ _ _ => trivial⟩
theorem ints_st (A : Option Addr) (l : List Int) : ∀ W W', IntsIn W A l → Below W.heap.size W W' → IntsIn W' A l := fun _ _ h hb => h.on hb
theorem blk_st (g : Nat) (T : TypeId) (cs : Array Value) : ∀ W W', Blk W g T cs → Below W.heap.size W W' → Blk W' g T cs := fun _ _ h hb => Blk.on h hb
theorem bws_st (A : Option Addr) (l : List Bw) : ∀ W W', BwsIn W A l → Below W.heap.size W W' → BwsIn W' A l := fun _ _ h hb => h.on hb
theorem below2 {n : Nat} {W W' W'' : World} (h : Below n W W') (hb : Below W'.heap.size W' W'') (hn : n ≤ W'.heap.size) : Below n W W'' := h.trans (hb.mono hn)
theorem pts3 {W : World} {g : Nat} {T : TypeId} (h : Blk W g T #[.int .i64 0, .int .i64 0, .int .i64 2, .int .i64 20, .int .i64 4, .int .i64 30]) : PtsIn W (some ⟨g, 0, none⟩) exP :=
  ⟨fun _ => ⟨g, 0, rfl, h.lt, fun i x hi j hj => by
    rw [h.cell, Nat.zero_add]
    match i, hi with
    | 0, hi => cases hi; match j, hj with | 0, _ => rfl | 1, _ => rfl
    | 1, hi => cases hi; match j, hj with | 0, _ => rfl | 1, _ => rfl
    | 2, hi => cases hi; match j, hj with | 0, _ => rfl | 1, _ => rfl
    | (n + 3), hi => cases hi⟩, by decide⟩
theorem pts0 (W : World) : PtsIn W none [] := ⟨fun h => absurd h (by decide), by decide⟩
theorem bws3 {W : World} {K g : Nat} {T : TypeId} (hk : PtsIn W (some ⟨K, 0, none⟩) exP) (h : Blk W g T #[.string ⟨#[98, 101, 101, 115]⟩, .int .i64 1200, .int .i64 620, .int .i64 640, .int .i64 90, .int .i64 100, .slice none 0 0, .string ⟨#[112, 97, 114, 97, 102, 102, 105, 110]⟩, .int .i64 200, .int .i64 540, .int .i64 580, .int .i64 110, .int .i64 150, .slice none 0 0, .string ⟨#[104, 97, 114, 100]⟩, .int .i64 400, .int .i64 690, .int .i64 700, .int .i64 60, .int .i64 70, .slice (some ⟨K, 0, none⟩) 3 3]) : BwsIn W (some ⟨g, 0, none⟩) (exL K) :=
  ⟨fun _ => ⟨g, 0, rfl, h.lt, fun i x hi j hj => by
    rw [h.cell, Nat.zero_add]
    match i, hi with
    | 0, hi => cases hi; match j, hj with | 0, _ => rfl | 1, _ => rfl | 2, _ => rfl | 3, _ => rfl | 4, _ => rfl | 5, _ => rfl | 6, _ => rfl
    | 1, hi => cases hi; match j, hj with | 0, _ => rfl | 1, _ => rfl | 2, _ => rfl | 3, _ => rfl | 4, _ => rfl | 5, _ => rfl | 6, _ => rfl
    | 2, hi => cases hi; match j, hj with | 0, _ => rfl | 1, _ => rfl | 2, _ => rfl | 3, _ => rfl | 4, _ => rfl | 5, _ => rfl | 6, _ => rfl
    | (n + 3), hi => cases hi⟩,
   fun x hx => by
    simp only [exL, List.mem_cons, List.not_mem_nil, or_false] at hx
    rcases hx with rfl | rfl | rfl
    · exact pts0 W
    · exact pts0 W
    · exact hk,
   Nat.le_of_ble_eq_true rfl,
   fun x hx => by
    simp only [exL, List.mem_cons, List.not_mem_nil, or_false] at hx
    rcases hx with rfl | rfl | rfl <;> exact Nat.le_of_ble_eq_true rfl⟩
theorem lspan_any (a b : Int) (w : World) :
    Calls Try.prog 35 #[.int .i64 a, .int .i64 b] w fun e w' => e = .returned (.agg #[.int .i64 a, .int .i64 b]) ∧ Below w.heap.size w w' := by
  go_enter Try.func35, Try.ntmps35
  go_wp2
  refine bodyPost_ret (v := .agg #[.int .i64 a, .int .i64 b]) (by simp [results, Try.results35, go_sem]) rfl ⟨rfl, ?_⟩
  simpa using (Below.refl _ w).alloc (Nat.le_refl _) (.cells #[.int .i64 a, .int .i64 b] 36)
set_option maxRecDepth 100000 in
set_option maxHeartbeats 1000000 in
theorem lwaxes_any (w : World) :
    Calls Try.prog 33 #[] w fun e w' => ∃ K X, e = .returned (.slice (some ⟨X, 0, none⟩) 3 3) ∧ BwsIn w' (some ⟨X, 0, none⟩) (exL K) ∧ Below w.heap.size w w' := by
  have LAST := Lib.hid (Stn.new w)
  go_enter Try.func33, Try.ntmps33
  go_wp2_with (first
    | (go_at_call 35; (with_reducible refine (lspan_any _ _ _).mono ?_); rintro e wk ⟨rfl, hb⟩; have NEW := Lib.hid (LAST.out.on hb); clear LAST hb; have LAST := NEW; clear NEW)
    | fail)
  go_ret
  have h1 := LAST.out.b
  refine ⟨_, _, rfl, bws3 (T := 78) ((pts3 (T := 84) (Blk.newat rfl)).on ((Below.refl _ _).alloc (Nat.le_refl _) _)) (Blk.newat (by simp)), ?_⟩
  exact (h1.alloc (by have := h1.size; omega) _).alloc (by have := h1.size; simp; omega) _
set_option maxRecDepth 100000 in
set_option maxHeartbeats 1000000 in
theorem lwish_any (w : World) :
    Calls Try.prog 34 #[] w fun e w' => ∃ P, e = .returned (.agg #[.slice (some ⟨P, 0, none⟩) 3 3, .int .i64 560, .int .i64 620, .int .i64 0, .int .i64 140]) ∧ SpansIn w' (some ⟨P, 0, none⟩) exW.ps ∧ Below w.heap.size w w' := by
  have hb0 := (Bx.nil w).alloc #[.slice none 0 0, .int .i64 0, .int .i64 0, .int .i64 0, .int .i64 0] 46
  have LAST := Lib.hid hb0
  clear hb0
  go_enter Try.func34, Try.ntmps34
  go_wp2_with (first
    | (go_at_call 35; (with_reducible refine (lspan_any 0 1 _).mono ?_); rintro e wk ⟨rfl, hb⟩; have NEW := Lib.hid (LAST.out.on hb); clear LAST hb; have LAST := NEW; clear NEW; have lk := Lib.hid (Blk.lt (show Blk wk w.heap.size 46 #[.slice none 0 0, .int .i64 0, .int .i64 0, .int .i64 0, .int .i64 0] from LAST.out.get (by simp))))
    | (go_at_call 35; (with_reducible refine (lspan_any 560 620 _).mono ?_); rintro e wa ⟨rfl, hb⟩; have NEW := Lib.hid ((LAST.out.alloc #[.int .i64 4, .int .i64 5, .int .i64 0, .int .i64 20, .int .i64 0, .int .i64 1] 36).on hb); clear LAST hb; have LAST := NEW; clear NEW)
    | (go_at_call 35; (with_reducible refine (lspan_any 0 140 _).mono ?_); rintro e wn ⟨rfl, hb⟩; have NEW := Lib.hid (LAST.out.on hb); clear LAST hb; have LAST := NEW; clear NEW; have rb : Blk _ w.heap.size 46 #[.slice none 0 0, .int .i64 0, .int .i64 0, .int .i64 0, .int .i64 0] := LAST.out.get (by simp); have r0 := rb.cell 0; have rf0 := rb.frozen 0; have r1 := rb.cell 1; have rf1 := rb.frozen 1; have r2 := rb.cell 2; have rf2 := rb.frozen 2; have r3 := rb.cell 3; have rf3 := rb.frozen 3; have r4 := rb.cell 4; have rf4 := rb.frozen 4; have rl := rb.lt; clear rb)
    | (go_at_call 35; (with_reducible refine (lspan_any _ _ _).mono ?_); rintro e wj ⟨rfl, hb⟩; have NEW := Lib.hid (LAST.out.on hb); clear LAST hb; have LAST := NEW; clear NEW)
    | fail)
  have hB2 : Bx w [(wk.heap.size, 36, #[.int .i64 4, .int .i64 5, .int .i64 0, .int .i64 20, .int .i64 0, .int .i64 1])] wn := ⟨LAST.out.b, fun q hq => LAST.out.at_ q (by
    rcases List.mem_cons.1 hq with rfl | hq
    · simp
    · cases hq)⟩
  have n1 : wk.heap.size ≠ w.heap.size := by have := lk.out; omega
  have hB3 := hB2.put (grown_more (grown_more (grown_more (grown_more (grown_more (World.grownBy.refl wn (some w.heap.size)) 0 (.slice (some ⟨wk.heap.size, 0, none⟩) 3 3)) 1 (.int .i64 560)) 2 (.int .i64 620)) 3 (.int .i64 0)) 4 (.int .i64 140)) (Nat.le_refl _) (fun q hq => by
    rcases List.mem_cons.1 hq with rfl | hq
    · exact n1
    · cases hq)
  refine bodyPost_ret (v := .agg #[.slice (some ⟨wk.heap.size, 0, none⟩) 3 3, .int .i64 560, .int .i64 620, .int .i64 0, .int .i64 140]) ?_ rfl ⟨_, rfl, spans_blk (T := 36) (cs := #[.int .i64 4, .int .i64 5, .int .i64 0, .int .i64 20, .int .i64 0, .int .i64 1]) (hB3.get (by simp)) rfl (by decide), hB3.b⟩
  simp [results, Try.results34, go_sem, *]
end Go.Proofs.Ytalghiecjhfflaa

namespace Go.Proofs.Ytalghiecjhfflaa
open Go.RowKit Go.Shelf Go.Maps
attribute [local go_sem] Oper.semAt_some

theorem take_eq_len {α : Type} {l m : List α} (hlen : l.length = m.length) (h : l.take l.length = m.take l.length) : l = m := by
  have h2 : m.take l.length = m := by rw [hlen, List.take_length]
  rw [List.take_length, h2] at h
  exact h


set_option maxRecDepth 100000 in
set_option maxHeartbeats 1000000 in
theorem rints_any {w : World} {A B : Option Addr} {c d : Nat} {l m : List Int} (hl : IntsIn w A l) (hm : IntsIn w B m) :
    Calls Try.prog 26 #[.slice A l.length c, .slice B m.length d] w fun e w' => e = .returned (.bool (decide (l = m))) ∧ Below w.heap.size w w' := by
  have hll := hl.len
  by_cases hlen : m.length = l.length
  · rw [hlen]
    have HLEN := Lib.hid hlen
    clear hlen
    go_enter Try.func26, Try.ntmps26
    go_wp2_with fail
    go_loopw [5] (fun i wr => ∃ k : Nat, k ≤ l.length ∧ i = .int .i64 k ∧ Hid (l.take k = m.take k) ∧ Below w.heap.size w wr) (fun i _ => l.length - (intOf i).toNat)
    case atStart => exact ⟨0, by omega, rfl, by show _ = _; simp, Below.refl _ _⟩
    case round =>
      obtain ⟨k, hk, rfl, HT, hb⟩ := hrel
      by_cases hlt : k < l.length
      · obtain ⟨x, hx⟩ : ∃ x, l[k]? = some x := ⟨l[k], List.getElem?_eq_getElem hlt⟩
        obtain ⟨y, hy⟩ : ∃ y, m[k]? = some y := ⟨m[k]'(by rw [HLEN.out]; exact hlt), List.getElem?_eq_getElem _⟩
        obtain ⟨b1, o1, rfl, _, hc1⟩ := ints_at (RowAt.below hl.at_ hb (Nat.le_refl _)) hx
        obtain ⟨b2, o2, rfl, _, hc2⟩ := ints_at (RowAt.below hm.at_ hb (Nat.le_refl _)) hy
        have HX := Lib.hid hx
        have HY := Lib.hid hy
        clear hx hy
        by_cases hxy : x = y
        · subst hxy
          have HT' : Hid (l.take (k + 1) = m.take (k + 1)) := by
            show _ = _
            rw [List.take_add_one, List.take_add_one, HT.out, HX.out, HY.out]
          clear HX HY
          go_wp2_with fail
          go_quiet (fail)
          go_wp2_with fail
          go_roundw
          case rel => exact ⟨k + 1, by omega, by go_num, HT', by repeat (first | exact hb | apply below_drewN')⟩
          case measure => simp [intOf]; omega
        · have hne : (x != y) = true := by simpa using hxy
          have hno : decide (l = m) = false := by
            rw [decide_eq_false_iff_not]
            intro e
            have h1 := HX.out
            rw [e, HY.out] at h1
            exact hxy (by simpa using h1.symm)
          have HNO := Lib.hid hno
          clear hno HX HY hxy
          go_wp2_with fail
          go_quiet (fail)
          go_wp2_with fail
          go_ret
          exact ⟨ret_bool HNO.out.symm, by repeat (first | exact hb | apply below_drewN')⟩
      · have hke : k = l.length := by omega
        have hyes : decide (l = m) = true := by
          rw [decide_eq_true_eq]
          exact take_eq_len HLEN.out.symm (by rw [← hke]; exact HT.out)
        have HYES := Lib.hid hyes
        clear hyes hke
        go_wp2_with fail
        go_ret
        exact ⟨ret_bool HYES.out.symm, hb⟩
  · have hno : decide (l = m) = false := by
      rw [decide_eq_false_iff_not]
      intro e
      exact hlen (by rw [e])
    have HNO := Lib.hid hno
    have hne : (l.length != m.length) = true := by simpa using fun e => hlen e.symm
    have hne2 : ((l.length : Int) != (m.length : Int)) = true := by
      have h : (l.length : Int) ≠ (m.length : Int) := fun e => hlen (by omega)
      simpa using h
    have hml := hm.len
    clear hno hlen
    go_enter Try.func26, Try.ntmps26
    go_wp2_with fail
    go_ret
    exact ⟨ret_bool HNO.out.symm, Below.refl _ _⟩

theorem ints_yes {W : World} {A B : Option Addr} {n c d : Nat} {l : List Int} (hn : l.length = n) (h1 : IntsIn W A l) (h2 : IntsIn W B l) :
    Calls Try.prog 26 #[.slice A n c, .slice B n d] W fun e w' => e = .returned (.bool true) ∧ Below W.heap.size W w' := by
  subst hn
  exact (rints_any (c := c) (d := d) h1 h2).mono fun e w' h => ⟨by rw [h.1, decide_eq_true rfl], h.2⟩

theorem aw_raise {W : World} {K X : Nat} {i n a z : Int} (hv : raiseV (exL K) i n = (a, z)) (h : BwsIn W (some ⟨X, 0, none⟩) (exL K)) :
    Calls Try.prog 17 #[.slice (some ⟨X, 0, none⟩) 3 3, .int .i64 i, .int .i64 n] W fun e w' => e = .returned (.tuple #[.int .i64 a, .int .i64 z]) ∧ Below W.heap.size W w' := by
  have H := praise_any (c := 3) (i := i) (n := n) h (Nat.le_refl 3)
  rw [hv] at H
  exact H

theorem aw_value {W : World} {K X : Nat} {R : Option Addr} {rc : Nat} {r : List Int} {v : Va} (hl : r.length = 3) (hr : IntsIn W R r) (hv : valV (exL K) r = v) (h : BwsIn W (some ⟨X, 0, none⟩) (exL K)) :
    Calls Try.prog 20 #[.slice (some ⟨X, 0, none⟩) 3 3, .slice R 3 rc] W fun e w' => e = .returned (vaR v) ∧ Below W.heap.size W w' := by
  have H := value_any (c := 3) (rc := rc) (r := r) h (Nat.le_refl 3) hr
  rw [hv, hl] at H
  exact H

theorem aw_made {W : World} {K X : Nat} {R T : Option Addr} {rc tc : Nat} {r : List Int} {t : List (Int × Int)} {a b z : Int} (hl : r.length = 3) (hk : t.length = 3) (hr : IntsIn W R r) (ht : SpansIn W T t) (hv : madeV (exL K) r t = (a, b, z)) (h : BwsIn W (some ⟨X, 0, none⟩) (exL K)) :
    Calls Try.prog 22 #[.slice (some ⟨X, 0, none⟩) 3 3, .slice R 3 rc, .slice T 3 tc] W fun e w' => e = .returned (.tuple #[.int .i64 a, .int .i64 b, .int .i64 z]) ∧ Below W.heap.size W w' := by
  have H := made_any (c := 3) (rc := rc) (tc := tc) (r := r) h (Nat.le_refl 3) hr ht
  rw [hv, hl, hk] at H
  exact H

theorem aw_fits {W : World} {K X P : Nat} {R : Option Addr} {rc : Nat} {r : List Int} {a z : Int} (hl : r.length = 3) (hr : IntsIn W R r) (hv : fitsV (exL K) exW r = (a, z)) (hs : SpansIn W (some ⟨P, 0, none⟩) exW.ps) (h : BwsIn W (some ⟨X, 0, none⟩) (exL K)) :
    Calls Try.prog 27 #[.slice (some ⟨X, 0, none⟩) 3 3, .agg #[.slice (some ⟨P, 0, none⟩) 3 3, .int .i64 560, .int .i64 620, .int .i64 0, .int .i64 140], .slice R 3 rc] W fun e w' => e = .returned (.tuple #[.int .i64 a, .int .i64 z]) ∧ Below W.heap.size W w' := by
  have H := fits_any (q := ⟨exW, some ⟨P, 0, none⟩, 3⟩) (c := 3) (rc := rc) (r := r) h (Nat.le_refl 3) hs hr
  rw [hv, hl] at H
  exact H

theorem aw_cheap {W : World} {K X P : Nat} (hs : SpansIn W (some ⟨P, 0, none⟩) exW.ps) (h : BwsIn W (some ⟨X, 0, none⟩) (exL K)) :
    Calls Try.prog 29 #[.slice (some ⟨X, 0, none⟩) 3 3, .agg #[.slice (some ⟨P, 0, none⟩) 3 3, .int .i64 560, .int .i64 620, .int .i64 0, .int .i64 140]] W fun e w' => ∃ A n, e = .returned (.tuple #[.slice A 3 n, .int .i64 8200, .int .i64 0]) ∧ IntsIn w' A [4, 15, 1] ∧ Below W.heap.size W w' := by
  have H := cheap_ok (q := ⟨exW, some ⟨P, 0, none⟩, 3⟩) (c := 3) h (Nat.le_refl 3) hs (ev_z K)
  rw [ev_c] at H
  refine H.mono ?_
  rintro e w' ⟨v, rfl, hv, hb⟩
  obtain ⟨A, n, rfl, hi⟩ := hv.in_
  exact ⟨A, n, rfl, hi, hb⟩

theorem aw_stays {W : World} {K X P : Nat} {R : Option Addr} {rc : Nat} {i a b : Int} (hi : i = 0 ∨ i = 1 ∨ i = 2) (hr : IntsIn W R [4, 15, 1]) (hv : staysV (exL K) exW [4, 15, 1] i = (a, b, 0)) (hs : SpansIn W (some ⟨P, 0, none⟩) exW.ps) (h : BwsIn W (some ⟨X, 0, none⟩) (exL K)) :
    Calls Try.prog 31 #[.slice (some ⟨X, 0, none⟩) 3 3, .agg #[.slice (some ⟨P, 0, none⟩) 3 3, .int .i64 560, .int .i64 620, .int .i64 0, .int .i64 140], .slice R 3 rc, .int .i64 i] W fun e w' => e = .returned (.tuple #[.agg #[.int .i64 a, .int .i64 b], .int .i64 0]) ∧ Below W.heap.size W w' := by
  have H := stays_ok (q := ⟨exW, some ⟨P, 0, none⟩, 3⟩) (c := 3) (rc := rc) (r := [4, 15, 1]) (i := i) h (Nat.le_refl 3) hs hr (ev_zs K i hi)
  rw [hv] at H
  exact H

theorem aw_weigh {W : World} {K X : Nat} {R : Option Addr} {rc : Nat} {g a b d : Int} (hr : IntsIn W R [4, 15, 1]) (hv : weighV (exL K) [4, 15, 1] g = ([a, b, d], 0)) (h : BwsIn W (some ⟨X, 0, none⟩) (exL K)) :
    Calls Try.prog 24 #[.slice (some ⟨X, 0, none⟩) 3 3, .slice R 3 rc, .int .i64 g] W fun e w' => ∃ A n, e = .returned (.tuple #[.slice A 3 n, .int .i64 0]) ∧ IntsIn w' A [a, b, d] ∧ Below W.heap.size W w' := by
  have H := weigh_any (c := 3) (rc := rc) (r := [4, 15, 1]) (n := g) h (Nat.le_refl 3) hr
  rw [hv] at H
  refine H.mono ?_
  rintro e w' ⟨v, rfl, hv, hb⟩
  obtain ⟨A, n, rfl, hi⟩ := hv.in_
  exact ⟨A, n, rfl, hi, hb⟩
end Go.Proofs.Ytalghiecjhfflaa
