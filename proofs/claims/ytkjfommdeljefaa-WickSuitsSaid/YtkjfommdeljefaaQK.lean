/- wick.Suits: contract. -/
import Derived.Test.YtkjfommdeljefaaQJ
import Derived.Test.YtkjfommdeljefaaQH
namespace Go.Proofs.Ytkjfommdeljefaa
open Go.RowKit Go.Shelf Go.Maps
attribute [local go_sem] Oper.semAt_some


/-- The error of a shop and a candle. -/
def askCE (s : Sh) (c : Cd) : Int := orE [shopE s, candE s c]
theorem askC_of {s : Sh} {c : Cd} (h : askCE s c = 0) : ∃ x, AskC s c x := by
  unfold askCE at h
  rw [orE_zero] at h
  simp only [List.mem_cons, List.not_mem_nil, or_false, forall_eq_or_imp, forall_eq] at h
  have hc := candE_zero.1 h.2
  have l2 : c.wax.toNat < s.xs.length := by have := hc.wax; omega
  exact ⟨s.xs[c.wax.toNat], shopE_ok h.1, List.getElem?_eq_getElem l2, hc⟩
set_option maxRecDepth 100000 in
set_option maxHeartbeats 2000000 in
theorem suits_err {w : World} {p : Sp} {c : Cd} (h : ShIn w p) (he : askCE p.s c ≠ 0) :
    Calls Try.prog 26 #[.agg #[.slice p.ka p.s.ks.length p.kc, .slice p.xa p.s.xs.length p.xc, .int .i64 p.s.flo, .int .i64 p.s.fhi, .int .i64 p.s.plo, .int .i64 p.s.phi], .agg #[.int .i64 c.wax, .int .i64 c.dia, .int .i64 c.dra, .int .i64 c.clo, .int .i64 c.chi]] w fun e w' => e = .returned (.tuple #[.slice none 0 0, .int .i64 (askCE p.s c)]) ∧ Below w.heap.size w w' := by
  have hb0 := ((Bx.nil w).alloc #[.slice p.ka p.s.ks.length p.kc, .slice p.xa p.s.xs.length p.xc, .int .i64 p.s.flo, .int .i64 p.s.fhi, .int .i64 p.s.plo, .int .i64 p.s.phi] 27).alloc #[.int .i64 c.wax, .int .i64 c.dia, .int .i64 c.dra, .int .i64 c.clo, .int .i64 c.chi] 34
  simp only [World.size_alloc] at hb0
  have HB : Hid (Bx w _ _) := Lib.hid hb0
  have HH := Lib.hid h
  have hz : (askCE p.s c != 0) = true := by simpa using he
  have HE : Hid (orE [shopE p.s, candE p.s c] = askCE p.s c) := rfl
  clear h hb0
  go_enter Try.func26, Try.ntmps26
  go_wp2_with fail
  refine wp_of_eq (su_region (S := Bx w [(w.heap.size + 1, 34, #[.int .i64 c.wax, .int .i64 c.dia, .int .i64 c.dra, .int .i64 c.clo, .int .i64 c.chi]), (w.heap.size, 27, #[.slice p.ka p.s.ks.length p.kc, .slice p.xa p.s.xs.length p.xc, .int .i64 p.s.flo, .int .i64 p.s.fhi, .int .i64 p.s.plo, .int .i64 p.s.phi])]) (fun _ _ h hb => h.on hb) (P := w.heap.size) (Q0 := w.heap.size + 1) (p := p) (c := c) (fun W h => h.get (by simp)) (fun W h => h.get (by simp)) (fun W h => HH.out.on h.b) HB (Lib.hid fun u W hS => ?_)) (by kernel_rfl)
  rw [HE.out]
  have HS := Lib.hid hS
  clear hS
  go_wp2_with fail
  refine bodyPost_ret (v := .tuple #[.slice none 0 0, .int .i64 (askCE p.s c)]) ?_ rfl ⟨rfl, HS.out.b⟩
  simp [results, Try.results26, go_sem]
set_option maxRecDepth 100000 in
set_option maxHeartbeats 2000000 in
theorem suits_ok {w : World} {p : Sp} {c : Cd} {x : Wx} (h : ShIn w p) (ha : AskC p.s c x) (hs : askCE p.s c = 0) :
    Calls Try.prog 26 #[.agg #[.slice p.ka p.s.ks.length p.kc, .slice p.xa p.s.xs.length p.xc, .int .i64 p.s.flo, .int .i64 p.s.fhi, .int .i64 p.s.plo, .int .i64 p.s.phi], .agg #[.int .i64 c.wax, .int .i64 c.dia, .int .i64 c.dra, .int .i64 c.clo, .int .i64 c.chi]] w (ListOut w ((suitN p.s x c p.s.ks.length).map Int.ofNat)) := by
  have hb0 := ((Bx.nil w).alloc #[.slice p.ka p.s.ks.length p.kc, .slice p.xa p.s.xs.length p.xc, .int .i64 p.s.flo, .int .i64 p.s.fhi, .int .i64 p.s.plo, .int .i64 p.s.phi] 27).alloc #[.int .i64 c.wax, .int .i64 c.dia, .int .i64 c.dra, .int .i64 c.clo, .int .i64 c.chi] 34
  simp only [World.size_alloc] at hb0
  have HB : Hid (Bx w _ _) := Lib.hid hb0
  have HH := Lib.hid h
  have HA := Lib.hid ha
  have HE : Hid (orE [shopE p.s, candE p.s c] = 0) := hs
  clear h hb0 ha hs
  go_enter Try.func26, Try.ntmps26
  go_wp2_with fail
  refine wp_of_eq (su_region (S := Bx w [(w.heap.size + 1, 34, #[.int .i64 c.wax, .int .i64 c.dia, .int .i64 c.dra, .int .i64 c.clo, .int .i64 c.chi]), (w.heap.size, 27, #[.slice p.ka p.s.ks.length p.kc, .slice p.xa p.s.xs.length p.xc, .int .i64 p.s.flo, .int .i64 p.s.fhi, .int .i64 p.s.plo, .int .i64 p.s.phi])]) (fun _ _ h hb => h.on hb) (P := w.heap.size) (Q0 := w.heap.size + 1) (p := p) (c := c) (fun W h => h.get (by simp)) (fun W h => h.get (by simp)) (fun W h => HH.out.on h.b) HB (Lib.hid fun u W hS => ?_)) (by kernel_rfl)
  rw [HE.out]
  have HC := Lib.hid hS
  clear hS
  have sb : Blk _ (w.heap.size) 27 #[.slice p.ka p.s.ks.length p.kc, .slice p.xa p.s.xs.length p.xc, .int .i64 p.s.flo, .int .i64 p.s.fhi, .int .i64 p.s.plo, .int .i64 p.s.phi] := HC.out.get (by simp); have s0 := sb.cell 0; have s1 := sb.cell 1; have s2 := sb.cell 2; have s3 := sb.cell 3; have s4 := sb.cell 4; have s5 := sb.cell 5; have sl := sb.lt; clear sb
  have cb : Blk _ (w.heap.size + 1) 34 #[.int .i64 c.wax, .int .i64 c.dia, .int .i64 c.dra, .int .i64 c.clo, .int .i64 c.chi] := HC.out.get (by simp); have c0 := cb.cell 0; have c1 := cb.cell 1; have c2 := cb.cell 2; have c3 := cb.cell 3; have c4 := cb.cell 4; have cl := cb.lt; clear cb
  have hb1 := (HC.out.b.alloc HC.out.b.size (.cells #[.slice p.ka p.s.ks.length p.kc, .slice p.xa p.s.xs.length p.xc, .int .i64 p.s.flo, .int .i64 p.s.fhi, .int .i64 p.s.plo, .int .i64 p.s.phi, .int .i64 c.wax, .int .i64 c.dia, .int .i64 c.dra, .int .i64 c.clo, .int .i64 c.chi] 93)).alloc (by simp; have := HC.out.b.size; omega) (.cells #[.slice p.ka p.s.ks.length p.kc, .slice p.xa p.s.xs.length p.xc, .int .i64 p.s.flo, .int .i64 p.s.fhi, .int .i64 p.s.plo, .int .i64 p.s.phi, .int .i64 c.wax, .int .i64 c.dia, .int .i64 c.dra, .int .i64 c.clo, .int .i64 c.chi] 93)
  have HD := Lib.hid hb1
  have HBx := Lib.hid (Blk.new1 W 93 #[.slice p.ka p.s.ks.length p.kc, .slice p.xa p.s.xs.length p.xc, .int .i64 p.s.flo, .int .i64 p.s.fhi, .int .i64 p.s.plo, .int .i64 p.s.phi, .int .i64 c.wax, .int .i64 c.dia, .int .i64 c.dra, .int .i64 c.clo, .int .i64 c.chi] (.cells #[.slice p.ka p.s.ks.length p.kc, .slice p.xa p.s.xs.length p.xc, .int .i64 p.s.flo, .int .i64 p.s.fhi, .int .i64 p.s.plo, .int .i64 p.s.phi, .int .i64 c.wax, .int .i64 c.dia, .int .i64 c.dra, .int .i64 c.clo, .int .i64 c.chi] 93))
  have HCo := Lib.hid (collect_any (HH.out.on HD.out) HA.out (W.heap.size + 1) HBx.out)
  clear hb1
  go_wp2_with (first
    | (go_at_call 63; refine (suiting_any _ _ _).mono ?_; rintro e w2 ⟨rfl, hw⟩; rw [hw]; clear hw; simp only [World.size_alloc])
    | (go_at_call 62; refine HCo.out.mono ?_; rintro e w3 ⟨v, rfl, ho, hb⟩; have HO := Lib.hid (own_base ho HD.out.size); have HF := Lib.hid (HD.out.trans (hb.mono HD.out.size)); clear ho hb)
    | fail)
  refine bodyPost_ret (v := .tuple #[v, .int .i64 0]) ?_ rfl ⟨v, rfl, HO.out, HF.out⟩
  simp [results, Try.results26, go_sem]
end Go.Proofs.Ytkjfommdeljefaa
