/- Layer blend, a part: mixes, figures. No statement is proved here. -/
import Derived.Test.YtalghiecjhfflaaGh
import Derived.Test.YtalghiecjhfflaaGb
import Derived.Test.YtalghiecjhfflaaGc
namespace Go.Proofs.Ytalghiecjhfflaa
open Go.RowKit Go.Shelf Go.Maps
attribute [local go_sem] Oper.semAt_some

/-- A portion: where its wax lies, how many parts, and the wax. -/
structure Po where
  b : Nat
  o : Nat
  n : Int
  x : Bw
def encPo (p : Po) (j : Nat) : Value := if j = 0 then .pointer (some ⟨p.b, p.o, none⟩) else .int .i64 p.n
/-- A mix that comes in. -/
structure PosIn (w : World) (A : Option Addr) (l : List Po) : Prop where
  at_ : RowAt 2 encPo w w.heap.size A l
  wx : ∀ p ∈ l, WxP w p.b p.o p.x
  len : l.length ≤ 9223372036854775807
theorem PosIn.on {w w' : World} {A : Option Addr} {l : List Po} (h : PosIn w A l) (hb : Below w.heap.size w w') : PosIn w' A l := ⟨(RowAt.below h.at_ hb (Nat.le_refl _)).mono hb.size, fun x hx => (h.wx x hx).on hb, h.len⟩
theorem PosIn.get {w : World} {A : Option Addr} {l : List Po} (h : PosIn w A l) {i : Nat} {p : Po} (hi : l[i]? = some p) :
    ∃ b o, A = some ⟨b, o, none⟩ ∧ b < w.heap.size ∧ w.cell? ⟨b, o + i * 2, none⟩ = some (.pointer (some ⟨p.b, p.o, none⟩)) ∧ w.cell? ⟨b, o + i * 2 + 1, none⟩ = some (.int .i64 p.n) := by
  obtain ⟨b, o, e, hb, hc⟩ := h.at_ (by have := (List.getElem?_eq_some_iff.1 hi).1; omega)
  exact ⟨b, o, e, hb, hc i p hi 0 (by omega), hc i p hi 1 (by omega)⟩
set_option maxRecDepth 100000 in
set_option maxHeartbeats 1000000 in
theorem sumP_any {w : World} {A : Option Addr} {c F : Nat} {l : List Po} {g : Bw → Int → Int} (h : PosIn w A l) (eg : ∀ args w, (callFunc F args).run Try.prog w = .ok (.enter F args) w)
    (hF : ∀ W, Below w.heap.size w W → ∀ p ∈ l, Calls Try.prog F #[poV p.b p.o p.n] W fun e w' => e = .returned (.int .i64 (g p.x p.n)) ∧ Below W.heap.size W w') :
    Calls Try.prog 94 #[.slice A l.length c, .func (.func F) #[] #[]] w fun e w' => e = .returned (.int .i64 (sumW (l.map fun p => g p.x p.n))) ∧ Below w.heap.size w w' := by
  have HI := Lib.hid h
  have hl := h.len
  have HF := Lib.hid hF
  clear h hF
  go_enter Try.func94, Try.ntmps94
  go_wp2_with fail
  go_loopw [5, 10] (fun v i W => ∃ k : Nat, k ≤ l.length ∧ i = .int .i64 k ∧ v = .int .i64 (sumW ((l.map fun p => g p.x p.n).take k)) ∧ Hid (Below w.heap.size w W)) (fun _ i _ => l.length - (intOf i).toNat)
  case atStart => exact ⟨0, by omega, rfl, rfl, Below.refl _ _⟩
  case round =>
    obtain ⟨k, hk, rfl, rfl, HB⟩ := hrel
    by_cases hlt : k < l.length
    · obtain ⟨p, hp⟩ : ∃ p, l[k]? = some p := ⟨l[k], List.getElem?_eq_getElem hlt⟩
      obtain ⟨bb, o, rfl, _, c0, c1⟩ := (HI.out.on HB.out).get hp
      have HT := Lib.hid (sumW_take (l := l.map fun p => g p.x p.n) (k := k) (x := g p.x p.n) (by rw [List.getElem?_map, hp]; rfl))
      have HA := Lib.hid (HB.out.alloc HB.out.size (.cells #[.pointer (some ⟨p.b, p.o, none⟩), .int .i64 p.n] 98))
      have HC := Lib.hid (HF.out _ HA.out p (List.mem_of_getElem? hp))
      clear hp
      generalize sumW ((l.map fun p => g p.x p.n).take k) = s0 at *
      go_wp2_with (first | (refine HC.out.mono ?_; rintro e w1 ⟨rfl, hb⟩; have HB1 := Lib.hid (HA.out.trans (hb.mono HA.out.size)); clear hb) | fail)
      go_roundw
      case rel => exact ⟨k + 1, Nat.succ_le_of_lt hlt, by go_num, by rw [HT.out], HB1⟩
      case measure => exact meas_one hlt
    · have H := Lib.hid (show sumW ((l.map fun p => g p.x p.n).take k) = sumW (l.map fun p => g p.x p.n) by rw [List.take_of_length_le (by rw [List.length_map]; omega)])
      go_wp2_with fail
      go_ret
      exact ⟨ret_i64 H.out, HB.out⟩
end Go.Proofs.Ytalghiecjhfflaa

namespace Go.Proofs.Ytalghiecjhfflaa
open Go.RowKit Go.Shelf Go.Maps
attribute [local go_sem] Oper.semAt_some

abbrev figs (a b c d e : Int) : Array Value := #[.int .i64 a, .int .i64 b, .int .i64 c, .int .i64 d, .int .i64 e]
set_option maxRecDepth 100000 in
set_option maxHeartbeats 1000000 in
theorem melt_any (a b c d e : Int) (w : World) : Calls Try.prog 62 #[.agg (figs a b c d e)] w fun e w' => e = .returned (.agg #[.int .i64 a, .int .i64 b]) ∧ Below w.heap.size w w' := by
  go_enter Try.func62, Try.ntmps62
  go_wp2_with fail
  refine bodyPost_ret (v := .agg #[.int .i64 a, .int .i64 b]) ?_ rfl ⟨rfl, ?_⟩
  · simp [results, Try.results62, go_sem, *]
  · exact two_allocs (Below.refl _ w) _ _
set_option maxRecDepth 100000 in
set_option maxHeartbeats 1000000 in
theorem shrink_any (a b c d e : Int) (w : World) : Calls Try.prog 63 #[.agg (figs a b c d e)] w fun e w' => e = .returned (.agg #[.int .i64 c, .int .i64 d]) ∧ Below w.heap.size w w' := by
  go_enter Try.func63, Try.ntmps63
  go_wp2_with fail
  refine bodyPost_ret (v := .agg #[.int .i64 c, .int .i64 d]) ?_ rfl ⟨rfl, ?_⟩
  · simp [results, Try.results63, go_sem, *]
  · exact two_allocs (Below.refl _ w) _ _
/-- The figures, the first k of them found. -/
def figK (a b c d e : Int) : Nat → Array Value
  | 0 => figs 0 0 0 0 0
  | 1 => figs a 0 0 0 0
  | 2 => figs a b 0 0 0
  | 3 => figs a b c 0 0
  | 4 => figs a b c d 0
  | _ => figs a b c d e
set_option maxRecDepth 100000 in
set_option maxHeartbeats 4000000 in
theorem figures_any {w : World} {A : Option Addr} {c : Nat} {l : List Po} (h : PosIn w A l) (hok : ∀ p ∈ l, BwOk p.x ∧ 0 ≤ p.n ∧ p.n ≤ 20) :
    Calls Try.prog 61 #[.slice A l.length c] w fun e w' => e = .returned (.agg (figs (sumW (l.map fun p => softV p.x p.n)) (sumW (l.map fun p => hardV p.x p.n)) (sumW (l.map fun p => p.n * p.x.slo)) (sumW (l.map fun p => p.n * p.x.shi)) (sumW (l.map fun p => p.n * p.x.pr)))) ∧ Below w.heap.size w w' := by
  have H0 := Lib.hid (fun (W : World) (hb : Below w.heap.size w W) => sumP_any (c := c) (F := 89) (g := softV) (h.on hb) (enters_of Try.func89 (by kernel_rfl) rfl) (fun W' hb' p hp => by
    have HW := (h.wx p hp).on (hb.trans (hb'.mono hb.size))
    have ok := hok p hp
    exact soft_any HW ok.1 ok.2))
  have H1 := Lib.hid (fun (W : World) (hb : Below w.heap.size w W) => sumP_any (c := c) (F := 90) (g := hardV) (h.on hb) (enters_of Try.func90 (by kernel_rfl) rfl) (fun W' hb' p hp => by
    have HW := (h.wx p hp).on (hb.trans (hb'.mono hb.size))
    have ok := hok p hp
    exact hard_any HW ok.1 ok.2))
  have H2 := Lib.hid (fun (W : World) (hb : Below w.heap.size w W) => sumP_any (c := c) (F := 91) (g := (fun x n => n * x.slo)) (h.on hb) (enters_of Try.func91 (by kernel_rfl) rfl) (fun W' hb' p hp => by
    have HW := (h.wx p hp).on (hb.trans (hb'.mono hb.size))
    have ok := hok p hp
    exact shrLo_any HW ok.2 (by have := ok.1.s; omega)))
  have H3 := Lib.hid (fun (W : World) (hb : Below w.heap.size w W) => sumP_any (c := c) (F := 92) (g := (fun x n => n * x.shi)) (h.on hb) (enters_of Try.func92 (by kernel_rfl) rfl) (fun W' hb' p hp => by
    have HW := (h.wx p hp).on (hb.trans (hb'.mono hb.size))
    have ok := hok p hp
    exact shrHi_any HW ok.2 (by have := ok.1.s; omega)))
  have H4 := Lib.hid (fun (W : World) (hb : Below w.heap.size w W) => sumP_any (c := c) (F := 93) (g := (fun x n => n * x.pr)) (h.on hb) (enters_of Try.func93 (by kernel_rfl) rfl) (fun W' hb' p hp => by
    have HW := (h.wx p hp).on (hb.trans (hb'.mono hb.size))
    have ok := hok p hp
    exact costs_any HW ok.2 ok.1.pr))
  obtain ⟨f0, e0⟩ : ∃ z, (sumW (l.map fun p => softV p.x p.n)) = z := ⟨_, rfl⟩
  obtain ⟨f1, e1⟩ : ∃ z, (sumW (l.map fun p => hardV p.x p.n)) = z := ⟨_, rfl⟩
  obtain ⟨f2, e2⟩ : ∃ z, (sumW (l.map fun p => p.n * p.x.slo)) = z := ⟨_, rfl⟩
  obtain ⟨f3, e3⟩ : ∃ z, (sumW (l.map fun p => p.n * p.x.shi)) = z := ⟨_, rfl⟩
  obtain ⟨f4, e4⟩ : ∃ z, (sumW (l.map fun p => p.n * p.x.pr)) = z := ⟨_, rfl⟩
  have E := Lib.hid (And.intro e0 (And.intro e1 (And.intro e2 (And.intro e3 e4))))
  replace H0 := Lib.hid (fun (W : World) (hb : Below w.heap.size w W) => (H0.out W hb).mono fun e w' q => (show e = .returned (.int .i64 f0) ∧ Below W.heap.size W w' from ⟨by rw [q.1, ← e0], q.2⟩))
  replace H1 := Lib.hid (fun (W : World) (hb : Below w.heap.size w W) => (H1.out W hb).mono fun e w' q => (show e = .returned (.int .i64 f1) ∧ Below W.heap.size W w' from ⟨by rw [q.1, ← e1], q.2⟩))
  replace H2 := Lib.hid (fun (W : World) (hb : Below w.heap.size w W) => (H2.out W hb).mono fun e w' q => (show e = .returned (.int .i64 f2) ∧ Below W.heap.size W w' from ⟨by rw [q.1, ← e2], q.2⟩))
  replace H3 := Lib.hid (fun (W : World) (hb : Below w.heap.size w W) => (H3.out W hb).mono fun e w' q => (show e = .returned (.int .i64 f3) ∧ Below W.heap.size W w' from ⟨by rw [q.1, ← e3], q.2⟩))
  replace H4 := Lib.hid (fun (W : World) (hb : Below w.heap.size w W) => (H4.out W hb).mono fun e w' q => (show e = .returned (.int .i64 f4) ∧ Below W.heap.size W w' from ⟨by rw [q.1, ← e4], q.2⟩))
  rw [e0, e1, e2, e3, e4]
  have hT : ∀ h, (Try.prog.types[135]'h).size = 1 := fun _ => by kernel_rfl
  have HS0 := Lib.hid (((Bx.nil w).alloc (figs 0 0 0 0 0) 105).alloc (figs 0 0 0 0 0) 105)
  clear h hok e0 e1 e2 e3 e4 E
  go_enter Try.func61, Try.ntmps61
  go_wp2_with fail
  go_loopw [7] (fun i W => ∃ k : Nat, k ≤ 5 ∧ i = .int .i64 k ∧ Hid (Bx w [(w.heap.size + 1, 105, figK f0 f1 f2 f3 f4 k), (w.heap.size, 105, figs 0 0 0 0 0)] W)) (fun i _ => 5 - (intOf i).toNat)
  case atStart => exact ⟨0, by omega, rfl, Lib.hid (by have q := HS0.out; simpa [figK, figs] using q)⟩
  case round =>
    clear HS0
    obtain ⟨k, hk, rfl, HS⟩ := hrel
    obtain rfl | rfl | rfl | rfl | rfl | rfl : k = 0 ∨ k = 1 ∨ k = 2 ∨ k = 3 ∨ k = 4 ∨ k = 5 := by omega
    · have i0 : ∀ w, (Instr.index 136 (.agg #[.func (.func 89) #[] #[], .func (.func 90) #[] #[], .func (.func 91) #[] #[], .func (.func 92) #[] #[], .func (.func 93) #[] #[]]) (.int .i64 (0 : Int))).run Try.prog w = .ok (.func (.func 89) #[] #[]) w := fun _ => by kernel_rfl
      have i1 : ∀ w, (Instr.index 136 (.agg #[.func (.func 89) #[] #[], .func (.func 90) #[] #[], .func (.func 91) #[] #[], .func (.func 92) #[] #[], .func (.func 93) #[] #[]]) (.int .i64 ((0 : Nat) : Int))).run Try.prog w = .ok (.func (.func 89) #[] #[]) w := fun _ => by kernel_rfl
      go_wp2_with (first | (go_at_call 94; refine (H0.out _ HS.out.b).mono ?_; rintro e w1 ⟨rfl, hb⟩; have HS1 := Lib.hid (HS.out.on hb); have hq := HS1.out.get (g := w.heap.size + 1) (cs := figK f0 f1 f2 f3 f4 0) (T := 105) (by simp); have cl := hq.cell 0; have fz := hq.frozen 0; clear hb hq; simp [figK] at cl) | fail)
      go_roundw
      case rel => exact ⟨1, by omega, by go_num, Lib.hid (by simpa [figK, figs] using HS1.out.lay1 0 (.int .i64 f0) (by simp))⟩
      case measure => simp [intOf]
    · have i0 : ∀ w, (Instr.index 136 (.agg #[.func (.func 89) #[] #[], .func (.func 90) #[] #[], .func (.func 91) #[] #[], .func (.func 92) #[] #[], .func (.func 93) #[] #[]]) (.int .i64 (1 : Int))).run Try.prog w = .ok (.func (.func 90) #[] #[]) w := fun _ => by kernel_rfl
      have i1 : ∀ w, (Instr.index 136 (.agg #[.func (.func 89) #[] #[], .func (.func 90) #[] #[], .func (.func 91) #[] #[], .func (.func 92) #[] #[], .func (.func 93) #[] #[]]) (.int .i64 ((1 : Nat) : Int))).run Try.prog w = .ok (.func (.func 90) #[] #[]) w := fun _ => by kernel_rfl
      go_wp2_with (first | (go_at_call 94; refine (H1.out _ HS.out.b).mono ?_; rintro e w1 ⟨rfl, hb⟩; have HS1 := Lib.hid (HS.out.on hb); have hq := HS1.out.get (g := w.heap.size + 1) (cs := figK f0 f1 f2 f3 f4 1) (T := 105) (by simp); have cl := hq.cell 1; have fz := hq.frozen 1; clear hb hq; simp [figK] at cl) | fail)
      go_roundw
      case rel => exact ⟨2, by omega, by go_num, Lib.hid (by simpa [figK, figs] using HS1.out.lay1 1 (.int .i64 f1) (by simp))⟩
      case measure => simp [intOf]
    · have i0 : ∀ w, (Instr.index 136 (.agg #[.func (.func 89) #[] #[], .func (.func 90) #[] #[], .func (.func 91) #[] #[], .func (.func 92) #[] #[], .func (.func 93) #[] #[]]) (.int .i64 (2 : Int))).run Try.prog w = .ok (.func (.func 91) #[] #[]) w := fun _ => by kernel_rfl
      have i1 : ∀ w, (Instr.index 136 (.agg #[.func (.func 89) #[] #[], .func (.func 90) #[] #[], .func (.func 91) #[] #[], .func (.func 92) #[] #[], .func (.func 93) #[] #[]]) (.int .i64 ((2 : Nat) : Int))).run Try.prog w = .ok (.func (.func 91) #[] #[]) w := fun _ => by kernel_rfl
      go_wp2_with (first | (go_at_call 94; refine (H2.out _ HS.out.b).mono ?_; rintro e w1 ⟨rfl, hb⟩; have HS1 := Lib.hid (HS.out.on hb); have hq := HS1.out.get (g := w.heap.size + 1) (cs := figK f0 f1 f2 f3 f4 2) (T := 105) (by simp); have cl := hq.cell 2; have fz := hq.frozen 2; clear hb hq; simp [figK] at cl) | fail)
      go_roundw
      case rel => exact ⟨3, by omega, by go_num, Lib.hid (by simpa [figK, figs] using HS1.out.lay1 2 (.int .i64 f2) (by simp))⟩
      case measure => simp [intOf]
    · have i0 : ∀ w, (Instr.index 136 (.agg #[.func (.func 89) #[] #[], .func (.func 90) #[] #[], .func (.func 91) #[] #[], .func (.func 92) #[] #[], .func (.func 93) #[] #[]]) (.int .i64 (3 : Int))).run Try.prog w = .ok (.func (.func 92) #[] #[]) w := fun _ => by kernel_rfl
      have i1 : ∀ w, (Instr.index 136 (.agg #[.func (.func 89) #[] #[], .func (.func 90) #[] #[], .func (.func 91) #[] #[], .func (.func 92) #[] #[], .func (.func 93) #[] #[]]) (.int .i64 ((3 : Nat) : Int))).run Try.prog w = .ok (.func (.func 92) #[] #[]) w := fun _ => by kernel_rfl
      go_wp2_with (first | (go_at_call 94; refine (H3.out _ HS.out.b).mono ?_; rintro e w1 ⟨rfl, hb⟩; have HS1 := Lib.hid (HS.out.on hb); have hq := HS1.out.get (g := w.heap.size + 1) (cs := figK f0 f1 f2 f3 f4 3) (T := 105) (by simp); have cl := hq.cell 3; have fz := hq.frozen 3; clear hb hq; simp [figK] at cl) | fail)
      go_roundw
      case rel => exact ⟨4, by omega, by go_num, Lib.hid (by simpa [figK, figs] using HS1.out.lay1 3 (.int .i64 f3) (by simp))⟩
      case measure => simp [intOf]
    · have i0 : ∀ w, (Instr.index 136 (.agg #[.func (.func 89) #[] #[], .func (.func 90) #[] #[], .func (.func 91) #[] #[], .func (.func 92) #[] #[], .func (.func 93) #[] #[]]) (.int .i64 (4 : Int))).run Try.prog w = .ok (.func (.func 93) #[] #[]) w := fun _ => by kernel_rfl
      have i1 : ∀ w, (Instr.index 136 (.agg #[.func (.func 89) #[] #[], .func (.func 90) #[] #[], .func (.func 91) #[] #[], .func (.func 92) #[] #[], .func (.func 93) #[] #[]]) (.int .i64 ((4 : Nat) : Int))).run Try.prog w = .ok (.func (.func 93) #[] #[]) w := fun _ => by kernel_rfl
      go_wp2_with (first | (go_at_call 94; refine (H4.out _ HS.out.b).mono ?_; rintro e w1 ⟨rfl, hb⟩; have HS1 := Lib.hid (HS.out.on hb); have hq := HS1.out.get (g := w.heap.size + 1) (cs := figK f0 f1 f2 f3 f4 4) (T := 105) (by simp); have cl := hq.cell 4; have fz := hq.frozen 4; clear hb hq; simp [figK] at cl) | fail)
      go_roundw
      case rel => exact ⟨5, by omega, by go_num, Lib.hid (by simpa [figK, figs] using HS1.out.lay1 4 (.int .i64 f4) (by simp))⟩
      case measure => simp [intOf]
    · have hq := HS.out.get (g := w.heap.size + 1) (cs := figK f0 f1 f2 f3 f4 5) (T := 105) (by simp)
      have hr := HS.out.get (g := w.heap.size) (cs := figs 0 0 0 0 0) (T := 105) (by simp)
      have c0 := hq.cell 0; have c1 := hq.cell 1; have c2 := hq.cell 2; have c3 := hq.cell 3; have c4 := hq.cell 4
      have z0 := hr.frozen 0; have z1 := hr.frozen 1; have z2 := hr.frozen 2; have z3 := hr.frozen 3; have z4 := hr.frozen 4
      have y0 := hr.cell 0; have y1 := hr.cell 1; have y2 := hr.cell 2; have y3 := hr.cell 3; have y4 := hr.cell 4
      simp [figK] at c0 c1 c2 c3 c4 y0 y1 y2 y3 y4
      clear hq hr
      go_wp2_with fail
      refine bodyPost_ret (v := .agg (figs f0 f1 f2 f3 f4)) ?_ rfl ⟨rfl, ?_⟩
      · simp [results, Try.results61, go_sem, *]
      · repeat (first | (with_reducible exact HS.out.b) | with_reducible refine Below.setCell ?_ (by simp; try omega) _)
end Go.Proofs.Ytalghiecjhfflaa

namespace Go.Proofs.Ytalghiecjhfflaa
open Go.RowKit Go.Shelf Go.Maps
attribute [local go_sem] Oper.semAt_some


/-- The portions of a recipe, the waxes from o on in block b. -/
def mixL (b : Nat) : Nat → List Bw → List Int → List Po
  | o, x :: l, n :: r => ⟨b, o, n, x⟩ :: mixL b (o + 7) l r
  | _, _, _ => []
theorem mixL_get (b : Nat) : ∀ (o : Nat) (l : List Bw) (r : List Int) (i : Nat) (x : Bw) (n : Int), l[i]? = some x → r[i]? = some n → (mixL b o l r)[i]? = some ⟨b, o + i * 7, n, x⟩
  | _, [], _, _, _, _, h, _ => by simp at h
  | _, _ :: _, [], _, _, _, _, h => by simp at h
  | o, y :: l, m :: r, 0, x, n, h, h2 => by
    simp at h h2; subst h; subst h2; simp [mixL]
  | o, y :: l, m :: r, i + 1, x, n, h, h2 => by
    have ih := mixL_get b (o + 7) l r i x n (by simpa using h) (by simpa using h2)
    simp only [mixL, List.getElem?_cons_succ, ih]
    congr 2; omega
theorem mixL_len (b : Nat) : ∀ (o : Nat) (l : List Bw) (r : List Int), r.length = l.length → (mixL b o l r).length = l.length
  | _, [], [], _ => rfl
  | _, [], _ :: _, h => by simp at h
  | _, _ :: _, [], h => by simp at h
  | o, y :: l, m :: r, h => by simp [mixL, mixL_len b (o + 7) l r (by simpa using h)]
theorem mixL_map {α : Type} (b : Nat) (g : Bw → Int → α) : ∀ (o : Nat) (l : List Bw) (r : List Int), (mixL b o l r).map (fun p => g p.x p.n) = List.zipWith g l r
  | _, [], _ => by simp [mixL]
  | _, _ :: _, [] => by simp [mixL]
  | o, y :: l, m :: r => by simp [mixL, mixL_map b g (o + 7) l r]
theorem mixL_mem {b : Nat} : ∀ {o : Nat} {l : List Bw} {r : List Int} {p : Po}, p ∈ mixL b o l r → ∃ i : Nat, l[i]? = some p.x ∧ r[i]? = some p.n ∧ p.b = b ∧ p.o = o + i * 7
  | _, [], _, _, h => by simp [mixL] at h
  | _, _ :: _, [], _, h => by simp [mixL] at h
  | o, y :: l, m :: r, p, h => by
    simp only [mixL, List.mem_cons] at h
    rcases h with rfl | h
    · exact ⟨0, by simp, by simp, rfl, by simp⟩
    · obtain ⟨i, h1, h2, h3, h4⟩ := mixL_mem h
      exact ⟨i + 1, by simpa using h1, by simpa using h2, h3, by omega⟩
theorem und_mix : Try.prog.underlying 107 = some (.slice 98) := by kernel_rfl
theorem infoPo : (Try.prog.info? 98).map (fun i => (i.zero, i.size, i.bytes)) = some (some (.agg #[.pointer none, .int .i64 0]), 2, 16) := by kernel_rfl
def poCells (l : List Po) : List Value := l.flatMap fun x => [.pointer (some ⟨x.b, x.o, none⟩), .int .i64 x.n]
/-- A mix that a call made. -/
def PosOut (B : Nat) (w' : World) (v : Value) (l : List Po) : Prop := w'.ownsRow B 98 2 v l.length (poCells l)
theorem poCells_at : ∀ (l : List Po) (i : Nat) (x : Po), l[i]? = some x → ∀ j, j < 2 → (poCells l)[i * 2 + j]? = some (encPo x j)
  | [], i, x, h, _, _ => by simp at h
  | y :: l, 0, x, h, j, hj => by
    simp at h; subst h
    match j, hj with
    | 0, _ => rfl
    | 1, _ => rfl
  | y :: l, i + 1, x, h, j, hj => by
    have ih := poCells_at l i x (by simpa using h) j hj
    show ([.pointer (some ⟨y.b, y.o, none⟩), .int .i64 y.n] ++ poCells l)[(i + 1) * 2 + j]? = _
    rw [List.getElem?_append_right (by simp; omega)]
    rw [← ih]; congr 1; simp; omega
theorem PosOut.reads {B n c : Nat} {w : World} {A : Option Addr} {l : List Po} (h : PosOut B w (.slice A n c) l) : n = l.length ∧ RowAt 2 encPo w w.heap.size A l ∧ l.length ≤ c ∧ l.length ≤ maxLen :=
  own_rowAt (enc := encPo) h (poCells_at l)
theorem poCells_snoc (l : List Po) (z : Po) : poCells (l ++ [z]) = poCells l ++ [.pointer (some ⟨z.b, z.o, none⟩), .int .i64 z.n] := by simp [poCells]
theorem news_po {w : World} {g0 b o : Nat} {n : Int} (hc : Blk w g0 98 #[.pointer (some ⟨b, o, none⟩), .int .i64 n]) : ∀ j u, ([.pointer (some ⟨b, o, none⟩), .int .i64 n] : List Value)[j]? = some u → w.cell? ((⟨g0, 0, none⟩ : Addr).add j) = some u := by
  intro j u hj
  match j, hj with
  | 0, hj => simp at hj; subst hj; have h := hc.cell 0; simpa [Addr.add] using h
  | 1, hj => simp at hj; subst hj; have h := hc.cell 1; simpa [Addr.add] using h
section
variable {o : Oper} {a : Act} {w : World} {Q : Exit → Act → World → Prop} {K : Act → World → Prop} {B g0 : Nat} {v : Value}
theorem appp_wp (s x : Operand) (ho : o.op = .call { callee := .builtin .append, args := #[s, x], argTypes := #[107, 107] })
    {l : List Po} (hs : a.eval s = v) (hown : PosOut B w v l) (z : Po) (hx : a.eval x = .slice (some ⟨g0, 0, none⟩) 1 1) (hc : Blk w g0 98 #[.pointer (some ⟨z.b, z.o, none⟩), .int .i64 z.n]) (hl : l.length < 1000000) (hB : B ≤ w.heap.size)
    (h : ∀ g cap w', PosOut B w' (.slice (some ⟨g, 0, none⟩) (l.length + 1) cap) (l ++ [z]) → Below B w w' → w.grownBy w' v.ownBlock → K (a.put o.dst (.slice (some ⟨g, 0, none⟩) (l.length + 1) cap)) w') : Oper.wp Try.prog o a w K Q := by
  obtain ⟨i0, hi0, hz0, hz1, hz2⟩ := info_parts infoPo
  refine wp_append_lies w s x 107 ho B 98 i0 (.agg #[.pointer none, .int .i64 0]) 2 16 und_mix hi0 hz0 hz1 hz2 rfl (by decide) v l.length (poCells l) hs hown ⟨g0, 0, none⟩ 1 1 [.pointer (some ⟨z.b, z.o, none⟩), .int .i64 z.n] hx rfl (news_po hc) (by simp [Value.oneCell']) (by decide) (by unfold maxLen; omega) (by omega) hB _ rfl ?_
  intro g cap w' h1 h2 _ _
  exact h g cap w' (by unfold PosOut; rw [poCells_snoc, List.length_append]; exact h1) (own_low hown h2 hB) h2
end
theorem Blk.grow {g : Nat} {T : TypeId} {cs : Array Value} {w w' : World} {v : Value} (h : Blk w g T cs) (hg : w.grownBy w' v.ownBlock) (hne : v.ownBlock ≠ some g) : Blk w' g T cs :=
  (hg.block g h.lt (fun e => hne e.symm)).trans h
theorem own_new {B n sz : Nat} {e : TypeId} {w : World} {v : Value} {xs : List Value} (h : w.ownsRow B e sz v n xs) : v.ownBlock ≠ some w.heap.size := fun e => by have := (World.ownsRow.lt h _ e).2; omega
/-- The mix of the call's own, and what was there ahead of it. -/
structure OtP (w1 : World) (v : Value) (l : List Po) (W : World) : Prop where
  own : PosOut w1.heap.size W v l
  b : Below w1.heap.size w1 W
theorem OtP.on {w1 W W' : World} {v : Value} {l : List Po} (h : OtP w1 v l W) (hb : Below W.heap.size W W') : OtP w1 v l W' := ⟨own_below h.own hb, h.b.trans (hb.mono h.b.size)⟩

/-- What each operation leaves. -/
def mx5R (w1 : World) (vv : Value) (l : List Po) (bb oo mm mc rb ro rc kk : Nat) (nn : Int) (x : Bw) : Nat → Value → World → Prop
  | 0, v, _ => v = vv
  | 1, v, _ => v = .slice (some ⟨bb, oo, none⟩) mm mc
  | 2, v, _ => v = .int .i64 (kk : Int)
  | 3, v, _ => v = .pointer (some ⟨bb, oo + kk * 7, none⟩)
  | 4, v, _ => v = .slice (some ⟨rb, ro, none⟩) mm rc
  | 5, v, _ => v = .int .i64 (kk : Int)
  | 6, v, _ => v = .pointer (some ⟨rb, ro + kk, none⟩)
  | 7, v, _ => v = .int .i64 nn
  | 8, v, _ => v = .agg #[.pointer (some ⟨bb, oo + kk * 7, none⟩), .int .i64 nn]
  | 9, v, W => ∃ g_9, v = .slice (some ⟨g_9, 0, none⟩) 1 1 ∧ Blk W g_9 98 #[.pointer (some ⟨bb, oo + kk * 7, none⟩), .int .i64 nn] ∧ (vv : Value).ownBlock ≠ some g_9
  | 10, v, W => ∃ g_10 cap_10, v = .slice (some ⟨g_10, 0, none⟩) (l.length + 1) cap_10 ∧ PosOut w1.heap.size W (.slice (some ⟨g_10, 0, none⟩) (l.length + 1) cap_10) (l ++ [⟨bb, oo + kk * 7, nn, x⟩])
  | 11, v, W => ∃ g_10 cap_10, v = .slice (some ⟨g_10, 0, none⟩) (l.length + 1) cap_10 ∧ PosOut w1.heap.size W (.slice (some ⟨g_10, 0, none⟩) (l.length + 1) cap_10) (l ++ [⟨bb, oo + kk * 7, nn, x⟩])
  | _, _, _ => True
theorem mx5R_on (w1 : World) (vv : Value) (l : List Po) (bb oo mm mc rb ro rc kk : Nat) (nn : Int) (x : Bw) : ∀ i, i < 12 → ∀ v W W', mx5R w1 vv l bb oo mm mc rb ro rc kk nn x i v W → Below W.heap.size W W' → mx5R w1 vv l bb oo mm mc rb ro rc kk nn x i v W' := by
  iterate 12 (refine all_succ ?_ ?_)
  · exact all_zero
  · exact fun _ _ _ h _ => h
  · exact fun _ _ _ h _ => h
  · exact fun _ _ _ h _ => h
  · exact fun _ _ _ h _ => h
  · exact fun _ _ _ h _ => h
  · exact fun _ _ _ h _ => h
  · exact fun _ _ _ h _ => h
  · exact fun _ _ _ h _ => h
  · exact fun _ _ _ h _ => h
  · rintro v W W' ⟨g_9, e, h0, h1⟩ hb; exact ⟨g_9, e, h0.on hb, h1⟩
  · rintro v W W' ⟨g_10, cap_10, e, h0⟩ hb; exact ⟨g_10, cap_10, e, (own_below h0 hb)⟩
  · rintro v W W' ⟨g_10, cap_10, e, h0⟩ hb; exact ⟨g_10, cap_10, e, (own_below h0 hb)⟩
set_option maxRecDepth 100000 in
set_option maxHeartbeats 8000000 in
theorem mx5_region {w1 : World} {vv : Value} {l : List Po} {bb oo mm mc rb ro rc kk : Nat} {nn : Int} {x : Bw} (hl : l.length < 1000000) (hkm : kk < mm) (hr : ∀ W, OtP w1 vv l W → W.cell? ⟨rb, ro + kk, none⟩ = some (.int .i64 nn)) {Q : Exit → Act → World → Prop} {s2 s3 s4 s7 s8 s9 s10 s11 s12 s13 s14 s26 s27 s15 s16 s17 s18 s19 s20 s21 s22 s23 s24 s25 : Value} {W0 : World} (HL : Hid ((OtP w1 vv l) W0))
    (HQ : Hid (∀ (u : Nat → Value) (g_11 : Nat) (cap_11 : Nat) (W : World), PosOut w1.heap.size W (.slice (some ⟨g_11, 0, none⟩) (l.length + 1) cap_11) (l ++ [⟨bb, oo + kk * 7, nn, x⟩]) → (Below w1.heap.size w1) W → Q .normal ⟨#[.slice (some ⟨bb, oo, none⟩) mm mc, .slice (some ⟨rb, ro, none⟩) mm rc, s2, s3, s4, .slice (some ⟨g_11, 0, none⟩) (l.length + 1) cap_11, .int .i64 (kk : Int), s7, s8, s9, s10, s11, s12, s13, s14, u 0, u 1, u 2, u 3, u 4, u 5, u 6, u 7, u 8, u 9, u 10, s26, s27], []⟩ W)) :
    Code.wp Try.prog ((Try.f60.body.bind (regionAt 5)).getD .skip) Q ⟨#[.slice (some ⟨bb, oo, none⟩) mm mc, .slice (some ⟨rb, ro, none⟩) mm rc, s2, s3, s4, vv, .int .i64 (kk : Int), s7, s8, s9, s10, s11, s12, s13, s14, s15, s16, s17, s18, s19, s20, s21, s22, s23, s24, s25, s26, s27], []⟩ W0 := by
  conv => arg 2; whnf
  refine wp_region_spec2u (by kernel_rfl) 12 (by kernel_rfl) (fun u => ⟨#[.slice (some ⟨bb, oo, none⟩) mm mc, .slice (some ⟨rb, ro, none⟩) mm rc, s2, s3, s4, u 11, .int .i64 (kk : Int), s7, s8, s9, s10, s11, s12, s13, s14, u 0, u 1, u 2, u 3, u 4, u 5, u 6, u 7, u 8, u 9, u 10, s26, s27], []⟩) (fun i => if i = 0 then s15 else if i = 1 then s16 else if i = 2 then s17 else if i = 3 then s18 else if i = 4 then s19 else if i = 5 then s20 else if i = 6 then s21 else if i = 7 then s22 else if i = 8 then s23 else if i = 9 then s24 else if i = 10 then s25 else if i = 11 then vv else undef) (fun L W => Hid (sel1 (L 10) ((OtP w1 vv l)) ((Below w1.heap.size w1)) W)) (mx5R w1 vv l bb oo mm mc rb ro rc kk nn x) (by kernel_rfl) ((fun (W : World) (W' : World) (h : OtP w1 vv l W) (hb : Below W.heap.size W W') => h.on hb) _ _ HL.out (Below.refl _ _).drew) (by decide +kernel) ?_ ?_
  · iterate 12 (refine all_succ ?_ ?_)
    · exact all_zero
    · intro L u W hB hi hC hd hU0 K hK
      have HU := Lib.hid hU0; clear hU0
      have HK := Lib.hid hK; clear hK
      have h10 : L 10 = false := by
        cases h : L 10 with
        | false => rfl
        | true => exact absurd (hC 10 (by decide) h 0 (by decide +kernel)) (by rw [hi]; decide)
      have hM : (OtP w1 vv l) W := by
        have h := hB.out
        rw [h10] at h
        exact h
      have hN : ∀ W', (OtP w1 vv l) W' → Hid (sel1 (setL L 0 10) ((OtP w1 vv l)) ((Below w1.heap.size w1)) W') := fun W' h => by
        show Hid (sel1 (L 10) ((OtP w1 vv l)) ((Below w1.heap.size w1)) W')
        rw [h10]
        exact h
      clear hB
      have hB := Lib.hid hM
      clear hM
      have h11 : L 11 = false := by
        cases h : L 11 with
        | false => rfl
        | true => exact absurd (hC 11 (by decide) h 0 (by decide +kernel)) (by rw [hi]; decide)
      have e11 : u 11 = vv := by have h := HU.out 11 (by decide) h11; simpa using h
      clear h11
      refine wpOp_of rfl (by rfl) ?_
      go_simp
      exact k_of (HK.out vv _ rfl (hN _ hB.out) (fun _ _ _ _ h => h)) (by rw [← u1_eq e11]; kernel_rfl)
    · intro L u W hB hi hC hd hU0 K hK
      have HU := Lib.hid hU0; clear hU0
      have HK := Lib.hid hK; clear hK
      refine wpOp_of rfl (by rfl) ?_
      go_simp
      exact k_of (HK.out (.slice (some ⟨bb, oo, none⟩) mm mc) _ rfl hB (fun _ _ _ _ h => h)) (by kernel_rfl)
    · intro L u W hB hi hC hd hU0 K hK
      have HU := Lib.hid hU0; clear hU0
      have HK := Lib.hid hK; clear hK
      refine wpOp_of rfl (by rfl) ?_
      go_simp
      exact k_of (HK.out (.int .i64 (kk : Int)) _ rfl hB (fun _ _ _ _ h => h)) (by kernel_rfl)
    · intro L u W hB hi hC hd hU0 K hK
      have HU := Lib.hid hU0; clear hU0
      have HK := Lib.hid hK; clear hK
      have e1 : u 1 = .slice (some ⟨bb, oo, none⟩) mm mc := (hd 1 (by decide +kernel)).2
      have e2 : u 2 = .int .i64 (kk : Int) := (hd 2 (by decide +kernel)).2
      refine wpOp_of rfl (by rfl) ?_
      go_simp
      exact k_of (HK.out (.pointer (some ⟨bb, oo + kk * 7, none⟩)) _ rfl hB (fun _ _ _ _ h => h)) (by rw [← u1_eq e1, ← u1_eq e2]; kernel_rfl)
    · intro L u W hB hi hC hd hU0 K hK
      have HU := Lib.hid hU0; clear hU0
      have HK := Lib.hid hK; clear hK
      refine wpOp_of rfl (by rfl) ?_
      go_simp
      exact k_of (HK.out (.slice (some ⟨rb, ro, none⟩) mm rc) _ rfl hB (fun _ _ _ _ h => h)) (by kernel_rfl)
    · intro L u W hB hi hC hd hU0 K hK
      have HU := Lib.hid hU0; clear hU0
      have HK := Lib.hid hK; clear hK
      refine wpOp_of rfl (by rfl) ?_
      go_simp
      exact k_of (HK.out (.int .i64 (kk : Int)) _ rfl hB (fun _ _ _ _ h => h)) (by kernel_rfl)
    · intro L u W hB hi hC hd hU0 K hK
      have HU := Lib.hid hU0; clear hU0
      have HK := Lib.hid hK; clear hK
      have e4 : u 4 = .slice (some ⟨rb, ro, none⟩) mm rc := (hd 4 (by decide +kernel)).2
      have e5 : u 5 = .int .i64 (kk : Int) := (hd 5 (by decide +kernel)).2
      refine wpOp_of rfl (by rfl) ?_
      go_simp
      exact k_of (HK.out (.pointer (some ⟨rb, ro + kk, none⟩)) _ rfl hB (fun _ _ _ _ h => h)) (by rw [← u1_eq e4, ← u1_eq e5]; kernel_rfl)
    · intro L u W hB hi hC hd hU0 K hK
      have HU := Lib.hid hU0; clear hU0
      have HK := Lib.hid hK; clear hK
      have h10 : L 10 = false := by
        cases h : L 10 with
        | false => rfl
        | true => exact absurd (hC 8 (by decide) (hC 9 (by decide) (hC 10 (by decide) h 9 (by decide +kernel)) 8 (by decide +kernel)) 7 (by decide +kernel)) (by rw [hi]; decide)
      have hM : (OtP w1 vv l) W := by
        have h := hB.out
        rw [h10] at h
        exact h
      have hN : ∀ W', (OtP w1 vv l) W' → Hid (sel1 (setL L 7 10) ((OtP w1 vv l)) ((Below w1.heap.size w1)) W') := fun W' h => by
        show Hid (sel1 (L 10) ((OtP w1 vv l)) ((Below w1.heap.size w1)) W')
        rw [h10]
        exact h
      clear hB
      have hB := Lib.hid hM
      clear hM
      have e6 : u 6 = .pointer (some ⟨rb, ro + kk, none⟩) := (hd 6 (by decide +kernel)).2
      refine wpOp_of rfl (by rfl) ?_
      have z0 := hr W hB.out
      go_simp
      exact k_of (HK.out (.int .i64 nn) _ rfl (hN _ hB.out) (fun _ _ _ _ h => h)) (by rw [← u1_eq e6]; kernel_rfl)
    · intro L u W hB hi hC hd hU0 K hK
      have HU := Lib.hid hU0; clear hU0
      have HK := Lib.hid hK; clear hK
      have e3 : u 3 = .pointer (some ⟨bb, oo + kk * 7, none⟩) := (hd 3 (by decide +kernel)).2
      have e7 : u 7 = .int .i64 nn := (hd 7 (by decide +kernel)).2
      refine wpOp_of rfl (by rfl) ?_
      go_simp
      exact k_of (HK.out (.agg #[.pointer (some ⟨bb, oo + kk * 7, none⟩), .int .i64 nn]) _ rfl hB (fun _ _ _ _ h => h)) (by rw [← u1_eq e3, ← u1_eq e7]; kernel_rfl)
    · intro L u W hB hi hC hd hU0 K hK
      have HU := Lib.hid hU0; clear hU0
      have HK := Lib.hid hK; clear hK
      have h10 : L 10 = false := by
        cases h : L 10 with
        | false => rfl
        | true => exact absurd (hC 10 (by decide) h 9 (by decide +kernel)) (by rw [hi]; decide)
      have hM : (OtP w1 vv l) W := by
        have h := hB.out
        rw [h10] at h
        exact h
      have hN : ∀ W', (OtP w1 vv l) W' → Hid (sel1 (setL L 9 10) ((OtP w1 vv l)) ((Below w1.heap.size w1)) W') := fun W' h => by
        show Hid (sel1 (L 10) ((OtP w1 vv l)) ((Below w1.heap.size w1)) W')
        rw [h10]
        exact h
      clear hB
      have hB := Lib.hid hM
      clear hM
      have e8 : u 8 = .agg #[.pointer (some ⟨bb, oo + kk * 7, none⟩), .int .i64 nn] := (hd 8 (by decide +kernel)).2
      refine wpOp_of rfl (by rfl) ?_
      go_simp
      have hb : Below W.heap.size W (W.alloc (.cells #[.pointer (some ⟨bb, oo + kk * 7, none⟩), .int .i64 nn] 98)) := (Below.refl _ W).alloc (Nat.le_refl _) _
      exact k_of (HK.out (.slice (some ⟨W.heap.size, 0, none⟩) 1 1) _ ⟨W.heap.size, rfl, Blk.new W _ _, own_new hB.out.own⟩ (hN _ (hB.out.on hb)) (fun j v hj _ hR => mx5R_on w1 vv l bb oo mm mc rb ro rc kk nn x j hj v _ _ hR hb)) (by rw [← u1_eq e8]; kernel_rfl)
    · intro L u W hB hi hC hd hU0 K hK
      have HU := Lib.hid hU0; clear hU0
      have HK := Lib.hid hK; clear hK
      have h10 : L 10 = false := hi
      have hM : (OtP w1 vv l) W := by
        have h := hB.out
        rw [h10] at h
        exact h
      have hN : ∀ W', (Below w1.heap.size w1) W' → Hid (sel1 (setL L 10 10) ((OtP w1 vv l)) ((Below w1.heap.size w1)) W') := fun W' h => by
        show Hid (sel1 true ((OtP w1 vv l)) ((Below w1.heap.size w1)) W')
        exact h
      clear hB
      have hB := Lib.hid hM
      clear hM
      have e0 : u 0 = vv := (hd 0 (by decide +kernel)).2
      obtain ⟨g_9, e9, f9_0, f9_1⟩ : mx5R w1 vv l bb oo mm mc rb ro rc kk nn x 9 (u 9) W := (hd 9 (by decide +kernel)).2
      refine wpOp_of rfl (by rfl) ?_
      refine appp_wp _ _ rfl e0 hB.out.own ⟨bb, oo + kk * 7, nn, x⟩ e9 f9_0 hl hB.out.b.size ?_
      intro g cap w4 r1 r2 r3
      have hkeep : ∀ j, j < 12 → ∀ v, L j = true → mx5R w1 vv l bb oo mm mc rb ro rc kk nn x j v W → mx5R w1 vv l bb oo mm mc rb ro rc kk nn x j v w4 := by
        iterate 12 (refine all_succ ?_ ?_)
        · exact all_zero
        · exact fun _ _ h => h
        · exact fun _ _ h => h
        · exact fun _ _ h => h
        · exact fun _ _ h => h
        · exact fun _ _ h => h
        · exact fun _ _ h => h
        · exact fun _ _ h => h
        · exact fun _ _ h => h
        · exact fun _ _ h => h
        · rintro v _ ⟨g, e, h1, h2⟩; exact ⟨g, e, h1.grow r3 h2, h2⟩
        · intro v h; rw [hi] at h; cases h
        · intro v h; exact absurd (hC 11 (by decide) h 10 (by decide +kernel)) (by rw [hi]; decide)
      exact k_of (HK.out (.slice (some ⟨g, 0, none⟩) (l.length + 1) cap) _ ⟨g, cap, rfl, r1⟩ (hN _ (hB.out.b.trans r2)) (fun j v hj h1 h2 => hkeep j hj v h1 h2)) (by rw [← u1_eq e0, ← u1_eq e9]; kernel_rfl)
    · intro L u W hB hi hC hd hU0 K hK
      have HU := Lib.hid hU0; clear hU0
      have HK := Lib.hid hK; clear hK
      obtain ⟨g_10, cap_10, e10, f10_0⟩ : mx5R w1 vv l bb oo mm mc rb ro rc kk nn x 10 (u 10) W := (hd 10 (by decide +kernel)).2
      refine wpOp_of rfl (by rfl) ?_
      go_simp
      exact k_of (HK.out (.slice (some ⟨g_10, 0, none⟩) (l.length + 1) cap_10) _ ⟨g_10, cap_10, rfl, f10_0⟩ hB (fun _ _ _ _ h => h)) (by rw [← u1_eq e10]; kernel_rfl)
  · intro L u W hL hB hd
    have hM : (Below w1.heap.size w1) W := by
      have h := hB.out
      rw [hL 10 (by decide)] at h
      exact h
    obtain ⟨g_11, cap_11, e11, f11_0⟩ : mx5R w1 vv l bb oo mm mc rb ro rc kk nn x 11 (u 11) W := hd 11 (by decide)
    exact k_of (HQ.out u g_11 cap_11 W f11_0 hM) (by simp only [e11])
end Go.Proofs.Ytalghiecjhfflaa

namespace Go.Proofs.Ytalghiecjhfflaa
open Go.RowKit Go.Shelf Go.Maps
attribute [local go_sem] Oper.semAt_some


theorem ints_cell {w : World} {b o : Nat} {r : List Int} (h : IntsIn w (some ⟨b, o, none⟩) r) {i : Nat} {n : Int} (hi : r[i]? = some n) : w.cell? ⟨b, o + i, none⟩ = some (.int .i64 n) := by
  obtain ⟨b2, o2, e, _, hc⟩ := ints_at h.at_ hi
  cases e
  simpa using hc
theorem IntsIn.addr {w : World} {A : Option Addr} {r : List Int} (h : IntsIn w A r) (hr : r ≠ []) : ∃ b o, A = some ⟨b, o, none⟩ ∧ b < w.heap.size := by
  cases r with
  | nil => exact absurd rfl hr
  | cons n r =>
    obtain ⟨b2, o2, e, hb, _⟩ := ints_at h.at_ (i := 0) (x := n) (by simp)
    exact ⟨b2, o2, e, hb⟩
set_option maxRecDepth 100000 in
set_option maxHeartbeats 2000000 in
theorem mixOf_any {w : World} {b o c rc : Nat} {R : Option Addr} {l : List Bw} {r : List Int} (h : BwsIn w (some ⟨b, o, none⟩) l) (hr : IntsIn w R r) (hlen : r.length = l.length) (hn : 1 ≤ l.length ∧ l.length ≤ 5) :
    Calls Try.prog 60 #[.slice (some ⟨b, o, none⟩) l.length c, .slice R r.length rc] w fun e w' => ∃ g cap, e = .returned (.slice (some ⟨g, 0, none⟩) l.length cap) ∧ PosOut w.heap.size w' (.slice (some ⟨g, 0, none⟩) l.length cap) (mixL b o l r) ∧ Below w.heap.size w w' := by
  obtain ⟨rb, ro, rfl, hrb⟩ := hr.addr (fun e => by rw [e] at hlen; simp at hlen; omega)
  have HI := Lib.hid h
  have HR := Lib.hid hr
  have HRB := Lib.hid hrb
  have HLE := Lib.hid hlen
  have HMl := Lib.hid (mixL_len b o l r hlen)
  obtain ⟨i0, hi0, hz0, hz1, hz2⟩ := info_parts infoPo
  have hmk : ∀ W, (Instr.makeSlice 107 (.int .i64 0) (.int .i64 (l.length : Int))).run Try.prog W = .ok (.slice (some ⟨W.heap.size, 0, none⟩) 0 l.length) (W.alloc (.cells (madeCells (Value.agg #[.pointer none, .int .i64 0]).cells (l.length * 2)) 98)) := fun W => by
    have q := run_make (P := Try.prog) W 107 98 i0 _ und_mix hi0 hz0 .i64 .i64 0 l.length (Int.le_refl _) (by omega) (by rw [hz2]; omega) (by omega)
    rw [hz1] at q
    simpa using q
  rw [hlen]
  obtain ⟨z, hz⟩ : ∃ z, madeCells (Value.agg #[.pointer none, .int .i64 0]).cells (l.length * 2) = z := ⟨_, rfl⟩
  have HS0 : Hid (OtP w (.slice (some ⟨w.heap.size, 0, none⟩) 0 l.length) [] (w.alloc (.cells z 98))) :=
    ⟨World.ownsRow_made w _ l.length (Nat.le_refl _) (by unfold maxLen; omega) (by rw [← hz, size_madeCells]), (Below.refl _ w).alloc (Nat.le_refl _) _⟩
  rw [hz] at hmk
  have hl5 := hn.2
  clear h hr hrb hlen hi0 hz0 hz1 hz2 hz hn
  go_enter Try.func60, Try.ntmps60
  go_wp2_with fail
  go_loopw [5, 12] (fun v i W => ∃ k : Nat, k ≤ l.length ∧ i = .int .i64 (k : Int) ∧ Hid (∃ g cap, v = .slice (some ⟨g, 0, none⟩) k cap ∧ OtP w v ((mixL b o l r).take k) W)) (fun _ i _ => l.length - (intOf i).toNat)
  case atStart => exact ⟨0, by omega, rfl, _, _, rfl, HS0.out⟩
  case round =>
    obtain ⟨k, hk, rfl, HG⟩ := hrel
    by_cases hlt : k < l.length
    · obtain ⟨x, hx⟩ : ∃ x, l[k]? = some x := ⟨l[k], List.getElem?_eq_getElem hlt⟩
      obtain ⟨n, hnn⟩ : ∃ n, r[k]? = some n := ⟨r[k]'(by rw [HLE.out]; exact hlt), List.getElem?_eq_getElem _⟩
      have HG2 := Lib.hid (mixL_get b o l r k x n hx hnn)
      have HC := Lib.hid (ints_cell HR.out hnn)
      have HTL : Hid (((mixL b o l r).take k).length = k) := by show _ = _; rw [List.length_take, HMl.out]; omega
      have HT : Hid ((mixL b o l r).take k ++ [⟨b, o + k * 7, n, x⟩] = (mixL b o l r).take (k + 1)) := by show _ = _; rw [List.take_add_one, HG2.out]; rfl
      clear hx hnn
      obtain ⟨g, cap, rfl, HS⟩ := HG.out
      have HO := Lib.hid HS
      clear HS HG
      go_wp2_with fail
      generalize (mixL b o l r).take k = lk at *
      refine wp_of_eq (mx5_region (w1 := w) (l := lk) (bb := b) (oo := o) (rb := rb) (ro := ro) (kk := k) (nn := n) (x := x) (by rw [HTL.out]; omega) hlt (fun W h => (h.b.cell (p := ⟨rb, _, none⟩) HRB.out).trans HC.out) HO (Lib.hid fun u g2 cap2 W ho hM => ?_)) (by kernel_rfl)
      rw [HTL.out, HT.out] at ho
      have HO2 : Hid (OtP w (.slice (some ⟨g2, 0, none⟩) (k + 1) cap2) ((mixL b o l r).take (k + 1)) W) := ⟨ho, hM⟩
      clear ho hM
      rw [HTL.out]
      go_wp2_with fail
      go_roundw
      case rel => exact ⟨k + 1, Nat.succ_le_of_lt hlt, by go_num, _, _, rfl, HO2.out⟩
      case measure => exact meas_one hlt
    · obtain ⟨g, cap, rfl, HS⟩ := HG.out
      have hke : k = l.length := by omega
      subst hke
      have HT : Hid ((mixL b o l r).take l.length = mixL b o l r) := List.take_of_length_le (by rw [HMl.out]; exact Nat.le_refl _)
      rw [HT.out] at HS
      have HO := Lib.hid HS
      clear HS HG
      go_wp2_with fail
      go_ret
      exact ⟨_, _, rfl, HO.out.own, HO.out.b⟩
end Go.Proofs.Ytalghiecjhfflaa
