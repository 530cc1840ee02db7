/- wick.suiting: its iterator. -/
import Derived.Test.YtkjfommdeljefaaQG
import Derived.RangeFuncNested
import Derived.RangeFuncBound
import Derived.RangeFuncCalls
import Derived.RangeFuncLeaves
import Derived.RangeFuncWrites
import Derived.Shelf.RegionOpen
import Derived.OwnWalkIn
import Derived.TacticsInMore
import Derived.LoopNIn
import Derived.LoopIn
import Derived.Maps.OwnIn
namespace Go.Proofs.Ytkjfommdeljefaa
open Go.RowKit Go.Shelf Go.Maps
attribute [local go_sem] Oper.semAt_some


/-- A valid candle of a valid shop, and its wax. -/
structure AskC (s : Sh) (c : Cd) (x : Wx) : Prop where
  sh : ShOk s
  hx : s.xs[c.wax.toNat]? = some x
  cd : CdOk s c
theorem AskC.ask {s : Sh} {c : Cd} {x : Wx} (h : AskC s c x) {i : Nat} {k : Wk} (hk : s.ks[i]? = some k) : Ask s i c k x := ⟨h.sh, by omega, by simpa using hk, h.hx, h.cd⟩
/-- A wick suits. -/
def okW (s : Sh) (x : Wx) (c : Cd) (i : Nat) : Bool := match s.ks[i]? with
  | some k => (faultsL s k x c).isEmpty
  | none => false
/-- The wicks below n that suit. -/
def suitN (s : Sh) (x : Wx) (c : Cd) : Nat → List Nat
  | 0 => []
  | n + 1 => suitN s x c n ++ (if okW s x c n = true then [n] else [])
theorem suitN_len (s : Sh) (x : Wx) (c : Cd) : ∀ n, (suitN s x c n).length ≤ n
  | 0 => Nat.le_refl _
  | n + 1 => by
    have := suitN_len s x c n
    rw [suitN, List.length_append]
    split <;> simp <;> omega
theorem suitN_yes {s : Sh} {x : Wx} {c : Cd} {n : Nat} (h : okW s x c n = true) : suitN s x c (n + 1) = suitN s x c n ++ [n] := by rw [suitN, if_pos h]
theorem suitN_no {s : Sh} {x : Wx} {c : Cd} {n : Nat} (h : okW s x c n = false) : suitN s x c (n + 1) = suitN s x c n := by rw [suitN, if_neg (by rw [h]; simp), List.append_nil]
/-- .. as numbers below the count of wicks. -/
def suitF (s : Sh) (x : Wx) (c : Cd) : Nat → List (Fin s.ks.length)
  | 0 => []
  | n + 1 => suitF s x c n ++ (if h : n < s.ks.length then (if okW s x c n = true then [⟨n, h⟩] else []) else [])
theorem suitF_len (s : Sh) (x : Wx) (c : Cd) : ∀ n, (suitF s x c n).length ≤ n
  | 0 => Nat.le_refl _
  | n + 1 => by
    have := suitF_len s x c n
    rw [suitF, List.length_append]
    split
    · split <;> simp <;> omega
    · simp; omega
theorem suitF_yes {s : Sh} {x : Wx} {c : Cd} {n : Nat} (hn : n < s.ks.length) (h : okW s x c n = true) : suitF s x c (n + 1) = suitF s x c n ++ [⟨n, hn⟩] := by rw [suitF, dif_pos hn, if_pos h]
theorem suitF_no {s : Sh} {x : Wx} {c : Cd} {n : Nat} (hn : n < s.ks.length) (h : okW s x c n = false) : suitF s x c (n + 1) = suitF s x c n := by rw [suitF, dif_pos hn, if_neg (by rw [h]; simp), List.append_nil]
theorem suitF_map (s : Sh) (x : Wx) (c : Cd) : ∀ n, n ≤ s.ks.length → (suitF s x c n).map (fun i => (i.1 : Int)) = (suitN s x c n).map Int.ofNat
  | 0, _ => rfl
  | n + 1, h => by
    have ih := suitF_map s x c n (by omega)
    cases ho : okW s x c n with
    | true => rw [suitF_yes (by omega) ho, suitN_yes ho, List.map_append, List.map_append, ih]; rfl
    | false => rw [suitF_no (by omega) ho, suitN_no ho, ih]
abbrev encN {m : Nat} (i : Fin m) : Array Value := #[.int .i64 (i.1 : Int)]
theorem grown_of_below {a w : World} (h : Below a.heap.size a w) (row : Option Nat) : a.grownBy w row := ⟨h.os, h.tape, h.output, h.size, fun i hi _ => h.block i hi⟩
theorem abides_below {β : Type} {B : Nat} {J : β → World → Prop} (hJ : AbidesFrom B J) {s : β} {W W' : World} (h : J s W) (hb : Below W.heap.size W W') : J s W' := hJ s W W' none h (grown_of_below hb none) (fun r e => by cases e)
/-- What the iterator asks of a round: old memory, and its own block. -/
def KeepB (n₁ Bs : Nat) (W W' : World) : Prop := Below n₁ W W' ∧ ∀ cs, Blk W Bs 93 cs → Blk W' Bs 93 cs
theorem keepB_t {n₁ Bs : Nat} {A B C : World} (h : KeepB n₁ Bs A B) (k : KeepB n₁ Bs B C) : KeepB n₁ Bs A C := ⟨h.1.trans k.1, fun cs hc => k.2 cs (h.2 cs hc)⟩
theorem keepB_b {n₁ Bs : Nat} {w : World} (hn : n₁ ≤ w.heap.size) (W : World) (l : Nat) (o o' : Obj) (hl : w.heap.size ≤ l) (h : W.heap[l]? = some o) (hc : o.isCells = false) (hw : o.isWalk = false) : KeepB n₁ Bs W (W.putObj l o') := by
  refine ⟨belowK_b hn W l o o' hl h hc hw, fun cs hb => ?_⟩
  have hg := grownBy_putObj' W l o'
  refine (hg.block Bs hb.lt ?_).trans hb
  intro e
  have e2 : Bs = l := by simpa using e
  subst e2
  unfold Blk at hb
  rw [hb] at h
  cases h
  simp [Obj.isCells] at hc
set_option maxRecDepth 100000 in
set_option maxHeartbeats 2000000 in
theorem suit_stops {wB w0 : World} {p : Sp} {c : Cd} {x : Wx} (h : ShIn wB p) (ha : AskC p.s c x) (Bs : Nat) (hbox : Blk w0 Bs 93 #[.slice p.ka p.s.ks.length p.kc, .slice p.xa p.s.xs.length p.xc, .int .i64 p.s.flo, .int .i64 p.s.fhi, .int .i64 p.s.plo, .int .i64 p.s.phi, .int .i64 c.wax, .int .i64 c.dia, .int .i64 c.dra, .int .i64 c.clo, .int .i64 c.chi]) (hw0 : Below wB.heap.size wB w0) (n : Nat) (hn : 3 ≤ n) :
    SeqStopsK Fence.wide n Try.prog 90 #[.pointer (some ⟨Bs, 0, none⟩)] encN (KeepB wB.heap.size Bs) (fun xs => xs = suitF p.s x c p.s.ks.length) (fun _ => True) p.s.ks.length w0 := fun lo J Jx W hW hJ hJx hY h0 => by
  have h1 := h.ks.len
  have HS := Lib.hid h
  have HA := Lib.hid ha
  have HX := Lib.hid (hbox.on hW)
  have HY := Lib.hid hY
  have hBW : Below wB.heap.size wB W := hw0.trans (hW.mono hw0.size)
  have b0 := (hbox.on hW).cell 0
  clear h hbox hY hW hw0 ha
  refine callsIn_of_wp Try.func90 rfl trivial ?_ rfl
  simp only [Try.ntmps90, List.size_toArray, List.length_cons, List.length_nil, Nat.reduceAdd, Nat.reduceSub, Array.replicate_succ, Array.replicate_zero, List.push_toArray, List.append_toArray, List.nil_append, List.cons_append]
  gi_wp2_with fail
  gi_loopw [8] (fun i wr => ∃ k : Nat, k ≤ p.s.ks.length ∧ i = .int .i64 k ∧ Hid (Below wB.heap.size wB wr) ∧ Hid (Blk wr Bs 93 #[.slice p.ka p.s.ks.length p.kc, .slice p.xa p.s.xs.length p.xc, .int .i64 p.s.flo, .int .i64 p.s.fhi, .int .i64 p.s.plo, .int .i64 p.s.phi, .int .i64 c.wax, .int .i64 c.dia, .int .i64 c.dra, .int .i64 c.clo, .int .i64 c.chi]) ∧ Hid (J (suitF p.s x c k) wr)) (fun i _ => p.s.ks.length - (intOf i).toNat)
  case atStart => exact ⟨0, Nat.zero_le _, rfl, hBW, HX, h0⟩
  case round =>
    obtain ⟨k, hk, rfl, HBr, HXr, HJ⟩ := hrel
    clear b0 HX
    by_cases hlt : k < p.s.ks.length
    · obtain ⟨kw, hkw⟩ : ∃ kw, p.s.ks[k]? = some kw := ⟨p.s.ks[k], List.getElem?_eq_getElem hlt⟩
      have HP := Lib.hid (found_any (c := c) (HS.out.on HBr.out) (HA.out.ask hkw))
      have hL : okW p.s x c k = (faultsL p.s kw x c).isEmpty := by unfold okW; rw [hkw]
      have v0 := HXr.out.cell 0; have v1 := HXr.out.cell 1; have v2 := HXr.out.cell 2; have v3 := HXr.out.cell 3; have v4 := HXr.out.cell 4; have v5 := HXr.out.cell 5; have v6 := HXr.out.cell 6; have v7 := HXr.out.cell 7; have v8 := HXr.out.cell 8; have v9 := HXr.out.cell 9; have v10 := HXr.out.cell 10
      have HLn := Lib.hid (show (suitF p.s x c k).length < p.s.ks.length by have := suitF_len p.s x c k; omega)
      clear hkw
      generalize faultsL p.s kw x c = L at *
      cases ho : okW p.s x c k with
      | false =>
        have HO := Lib.hid ho
        have HLe := Lib.hid (show L.isEmpty = false by rw [← hL]; exact ho)
        clear ho hL
        gi_wp2_with fail
        refine ⟨trivial, fun _ => by omega, ?_⟩
        refine (callsIn_wide.2 HP.out).mono ?_
        rintro e w1 ⟨b, l, rfl, hm, hl4, -, -, hb1⟩
        have hz : ((l.length : Int) == 0) = false := by
          have h2 := HLe.out
          rw [← hm] at h2
          cases l with
          | nil => cases h2
          | cons y l => simp; omega
        have hz' : (l.length == 0) = false := by simpa using hz
        have HJ2 := Lib.hid (abides_below hJ HJ.out hb1)
        have HX2 := Lib.hid (HXr.out.on hb1)
        have HB2 := Lib.hid (HBr.out.trans (hb1.mono HBr.out.size))
        clear hm hb1 v0 v1 v2 v3 v4 v5 v6 v7 v8 v9 v10
        gi_wp2_with fail
        refine ⟨fun _ h => (by cases h), ?_⟩
        gi_wp2_with fail
        go_roundw
        case rel => exact ⟨k + 1, by omega, by go_num, HB2, HX2, by show J _ _; rw [suitF_no hlt HO.out]; exact HJ2.out⟩
        case measure => simp [intOf]; omega
      | true =>
        have HO := Lib.hid ho
        have HLe := Lib.hid (show L.isEmpty = true by rw [← hL]; exact ho)
        clear ho hL
        gi_wp2_with fail
        refine ⟨trivial, fun _ => by omega, ?_⟩
        refine (callsIn_wide.2 HP.out).mono ?_
        rintro e w1 ⟨b, l, rfl, hm, hl4, -, -, hb1⟩
        obtain rfl : l = [] := by
          have h2 := HLe.out
          rw [← hm] at h2
          cases l with
          | nil => rfl
          | cons y l => cases h2
        obtain ⟨fn, tmps, assign, body, hy, hR⟩ := HY.out _ ⟨k, hlt⟩ w1 (abides_below hJ HJ.out hb1) HLn.out
        dsimp only [encN] at hy
        have HRR := Lib.hid hR
        have HX2 := Lib.hid (HXr.out.on hb1)
        have HB2 := Lib.hid (HBr.out.trans (hb1.mono HBr.out.size))
        clear hR hm hb1 v0 v1 v2 v3 v4 v5 v6 v7 v8 v9 v10
        gi_wp2_with fail
        refine ⟨fun _ => by omega, ?_⟩
        refine HRR.out.mono ?_
        rintro e W3 (⟨rfl, hJ3, hk3⟩ | ⟨rfl, hJx3⟩)
        · have HJ3 := Lib.hid hJ3
          clear hJ3
          gi_wp2_with fail
          go_roundw
          case rel => exact ⟨k + 1, by omega, by go_num, HB2.out.trans hk3.1, hk3.2 _ HX2.out, by show J _ _; rw [suitF_yes hlt HO.out]; exact HJ3.out⟩
          case measure => simp [intOf]; omega
        · have HJ3 := Lib.hid hJx3
          clear hJx3
          gi_wp2_with fail
          refine bodyPost_ret (results_none rfl _ _ _) rfl ?_
          exact ⟨⟨_, rfl⟩, .inr ⟨_, trivial, HJ3.out⟩⟩
    · have hke : k = p.s.ks.length := by omega
      have hh := HJ.out
      rw [congrArg (suitF p.s x c) hke] at hh
      have HJ2 := Lib.hid hh
      clear hh hke HJ
      gi_wp2_with fail
      go_end0
      exact ⟨⟨_, rfl⟩, .inl ⟨_, rfl, HJ2.out⟩⟩
theorem suiting_any (w : World) (p : Sp) (c : Cd) :
    Calls Try.prog 63 #[.agg #[.slice p.ka p.s.ks.length p.kc, .slice p.xa p.s.xs.length p.xc, .int .i64 p.s.flo, .int .i64 p.s.fhi, .int .i64 p.s.plo, .int .i64 p.s.phi, .int .i64 c.wax, .int .i64 c.dia, .int .i64 c.dra, .int .i64 c.clo, .int .i64 c.chi]] w fun e w' => e = .returned (.func (.func 90) #[] #[.pointer (some ⟨w.heap.size, 0, none⟩)]) ∧ w' = w.alloc (.cells #[.slice p.ka p.s.ks.length p.kc, .slice p.xa p.s.xs.length p.xc, .int .i64 p.s.flo, .int .i64 p.s.fhi, .int .i64 p.s.plo, .int .i64 p.s.phi, .int .i64 c.wax, .int .i64 c.dia, .int .i64 c.dra, .int .i64 c.clo, .int .i64 c.chi] 93) := by
  go_enter Try.func63, Try.ntmps63
  go_wp2_with fail
  go_ret
  exact ⟨rfl, rfl⟩
end Go.Proofs.Ytkjfommdeljefaa
