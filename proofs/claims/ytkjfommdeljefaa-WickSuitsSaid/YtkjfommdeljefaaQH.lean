/- wick.Faults: contract. -/
import Derived.Test.YtkjfommdeljefaaQG
import Derived.Test.YtkjfommdeljefaaQz
namespace Go.Proofs.Ytkjfommdeljefaa
open Go.RowKit Go.Shelf Go.Maps
attribute [local go_sem] Oper.semAt_some


/-- A list of numbers that a call hands back, without an error. -/
def ListOut (w : World) (L : List Int) (e : Ending) (w' : World) : Prop := ∃ v, e = .returned (.tuple #[v, .int .i64 0]) ∧ IntsOut w.heap.size w' v L ∧ Below w.heap.size w w'
set_option maxRecDepth 100000 in
set_option maxHeartbeats 2000000 in
theorem faults_err {w : World} {p : Sp} {c : Cd} {q : Int} (h : ShIn w p) (he : askE p.s q c ≠ 0) :
    Calls Try.prog 23 #[.agg #[.slice p.ka p.s.ks.length p.kc, .slice p.xa p.s.xs.length p.xc, .int .i64 p.s.flo, .int .i64 p.s.fhi, .int .i64 p.s.plo, .int .i64 p.s.phi], .int .i64 q, .agg #[.int .i64 c.wax, .int .i64 c.dia, .int .i64 c.dra, .int .i64 c.clo, .int .i64 c.chi]] w fun e w' => e = .returned (.tuple #[.slice none 0 0, .int .i64 (askE p.s q c)]) ∧ Below w.heap.size w w' := by
  have hb0 := ((Bx.nil w).alloc #[.slice p.ka p.s.ks.length p.kc, .slice p.xa p.s.xs.length p.xc, .int .i64 p.s.flo, .int .i64 p.s.fhi, .int .i64 p.s.plo, .int .i64 p.s.phi] 27).alloc #[.int .i64 c.wax, .int .i64 c.dia, .int .i64 c.dra, .int .i64 c.clo, .int .i64 c.chi] 34
  simp only [World.size_alloc] at hb0
  have HB : Hid (Bx w _ _) := Lib.hid hb0
  have HA := Lib.hid (askE_any (k := q) (c := c) (h.on HB.out.b))
  have hz : (askE p.s q c != 0) = true := by simpa using he
  clear h hb0
  generalize askE p.s q c = z at *
  go_enter Try.func23, Try.ntmps23
  go_wp2_with (refine HA.out.mono ?_; rintro e w1 ⟨rfl, hb⟩; have HC := Lib.hid (HB.out.on hb); clear hb)
  refine bodyPost_ret (v := .tuple #[.slice none 0 0, .int .i64 z]) ?_ rfl ⟨rfl, HC.out.b⟩
  simp [results, Try.results23, go_sem]
set_option maxRecDepth 100000 in
set_option maxHeartbeats 4000000 in
theorem faults_ok {w : World} {p : Sp} {c : Cd} {q : Int} {k : Wk} {x : Wx} (h : ShIn w p) (ha : Ask p.s q c k x) (hs : askE p.s q c = 0) :
    Calls Try.prog 23 #[.agg #[.slice p.ka p.s.ks.length p.kc, .slice p.xa p.s.xs.length p.xc, .int .i64 p.s.flo, .int .i64 p.s.fhi, .int .i64 p.s.plo, .int .i64 p.s.phi], .int .i64 q, .agg #[.int .i64 c.wax, .int .i64 c.dia, .int .i64 c.dra, .int .i64 c.clo, .int .i64 c.chi]] w (ListOut w (faultsL p.s k x c)) := by
  have hb0 := ((Bx.nil w).alloc #[.slice p.ka p.s.ks.length p.kc, .slice p.xa p.s.xs.length p.xc, .int .i64 p.s.flo, .int .i64 p.s.fhi, .int .i64 p.s.plo, .int .i64 p.s.phi] 27).alloc #[.int .i64 c.wax, .int .i64 c.dia, .int .i64 c.dra, .int .i64 c.clo, .int .i64 c.chi] 34
  simp only [World.size_alloc] at hb0
  have HB : Hid (Bx w _ _) := Lib.hid hb0
  have HA := Lib.hid (askE_any (k := q) (c := c) (h.on HB.out.b))
  rw [hs] at HA
  have HU := Lib.hid (fun (W : World) (hb : Below w.heap.size w W) => found_any (h.on hb) ha)
  clear h hb0 ha hs
  generalize faultsL p.s k x c = L at *
  go_enter Try.func23, Try.ntmps23
  go_wp2_with (first
    | (go_at_call 49; refine HA.out.mono ?_; rintro e w1 ⟨rfl, hb⟩; have HC := Lib.hid (HB.out.on hb); clear hb; have sb : Blk _ (w.heap.size) 27 #[.slice p.ka p.s.ks.length p.kc, .slice p.xa p.s.xs.length p.xc, .int .i64 p.s.flo, .int .i64 p.s.fhi, .int .i64 p.s.plo, .int .i64 p.s.phi] := HC.out.get (by simp); have s0 := sb.cell 0; have s1 := sb.cell 1; have s2 := sb.cell 2; have s3 := sb.cell 3; have s4 := sb.cell 4; have s5 := sb.cell 5; have sl := sb.lt; clear sb; have cb : Blk _ (w.heap.size + 1) 34 #[.int .i64 c.wax, .int .i64 c.dia, .int .i64 c.dra, .int .i64 c.clo, .int .i64 c.chi] := HC.out.get (by simp); have c0 := cb.cell 0; have c1 := cb.cell 1; have c2 := cb.cell 2; have c3 := cb.cell 3; have c4 := cb.cell 4; have cl := cb.lt; clear cb)
    | (go_at_call 57; refine (HU.out _ (HC.out.b.alloc HC.out.b.size _)).mono ?_; rintro e w2 ⟨b, l, rfl, hm, hl4, hbl, hcl, hb⟩; have HD := Lib.hid ((HC.out.b.alloc HC.out.b.size (.cells #[.slice p.ka p.s.ks.length p.kc, .slice p.xa p.s.xs.length p.xc, .int .i64 p.s.flo, .int .i64 p.s.fhi, .int .i64 p.s.plo, .int .i64 p.s.phi, .int .i64 c.wax, .int .i64 c.dia, .int .i64 c.dra, .int .i64 c.clo, .int .i64 c.chi] 93)).trans (hb.mono (Nat.le_trans HC.out.b.size (by simp)))); have HR := Lib.hid hcl; have HM := Lib.hid hm; clear hb hm hcl s0 s1 s2 s3 s4 s5 sl c0 c1 c2 c3 c4 cl)
    | fail)
  go_loopw [10, 27] (fun v i W => ∃ n : Nat, n ≤ l.length ∧ i = .int .i64 n ∧ Hid (IntsOut w2.heap.size W v (L.take n)) ∧ Hid (Below w2.heap.size w2 W)) (fun _ i _ => l.length - (intOf i).toNat)
  case atStart => exact ⟨0, by omega, rfl, IntsOut.nil _ _, Below.refl _ _⟩
  case round =>
    obtain ⟨n, hn, rfl, HO, HW⟩ := hrel
    have hLl : L.length = l.length := by rw [← HM.out, List.length_map]
    have hlen : (L.take n).length = n := by rw [List.length_take]; omega
    obtain ⟨va, vc, hv⟩ := own_slice HO.out
    rw [hlen] at hv
    subst hv
    by_cases hlt : n < l.length
    · obtain ⟨y, hy⟩ : ∃ y, l[n]? = some y := ⟨l[n], List.getElem?_eq_getElem hlt⟩
      obtain ⟨c0, c1⟩ := HR.out n y hy
      have d0 := (HW.out.cell (p := ⟨b, n * 2, none⟩) hbl).trans c0
      have d1 := (HW.out.cell (p := ⟨b, n * 2 + 1, none⟩) hbl).trans c1
      have hat : L[n]? = some y.1 := by rw [← HM.out, List.getElem?_map, hy]; rfl
      have HT := Lib.hid (show L.take n ++ [y.1] = L.take (n + 1) by rw [List.take_add_one, hat]; rfl)
      have hsz : w2.heap.size ≤ wr.heap.size := HW.out.size
      clear hy c0 c1 hat
      unfold fvx at d1
      go_wp2_with (first
        | (at_builtin; go_must (refine app_list rfl _ _ rfl (l := L.take n) rfl (own_below HO.out (((Below.refl _ wr).alloc (Nat.le_refl _) _).alloc (by simp) _)) y.1 rfl (Blk.new1 _ _ _ _) (by rw [hlen]; omega) (by simp; omega) ?_); rw [hlen]; intro g cap w4 r1 r2 r3 r4; have HO4 := Lib.hid r1; have HB4 := Lib.hid (((HW.out.alloc hsz _).alloc (by simp; omega) _).trans r2); clear r1 r2 r3 r4)
        | fail)
      go_roundw
      case rel => exact ⟨n + 1, Nat.succ_le_of_lt hlt, by go_num, by rw [← HT.out]; exact HO4.out, HB4.out⟩
      case measure => exact meas_one hlt
    · obtain rfl : n = l.length := by omega
      have HO2 : Hid (IntsOut w.heap.size wr (.slice va l.length vc) L) := by
        have h := HO.out
        rw [List.take_of_length_le (by omega)] at h
        exact own_base h HD.out.size
      have HFb := Lib.hid (HD.out.trans (HW.out.mono HD.out.size))
      clear HO
      go_wp2_with fail
      refine bodyPost_ret (v := .tuple #[.slice va l.length vc, .int .i64 0]) ?_ rfl ⟨_, rfl, HO2.out, HFb.out⟩
      simp [results, Try.results23, go_sem]
end Go.Proofs.Ytkjfommdeljefaa
