/- ref03.Faults, Suits: contracts. -/
import Derived.Test.YtkjfommdeljefaaUF
import Derived.Test.YtkjfommdeljefaaT2
namespace Go.Proofs.Ytkjfommdeljefaa
open Go.RowKit Go.Shelf Go.Maps
attribute [local go_sem] Oper.semAt_some


set_option maxRecDepth 100000 in
set_option maxHeartbeats 2000000 in
theorem rfaults_err {w : World} {p : Sp} {c : Cd} {q : Int} (h : ShIn w p) (he : askE p.s q c ≠ 0) :
    Calls Try.prog 24 #[.agg #[.slice p.ka p.s.ks.length p.kc, .slice p.xa p.s.xs.length p.xc, .int .i64 p.s.flo, .int .i64 p.s.fhi, .int .i64 p.s.plo, .int .i64 p.s.phi], .int .i64 q, .agg #[.int .i64 c.wax, .int .i64 c.dia, .int .i64 c.dra, .int .i64 c.clo, .int .i64 c.chi]] w fun e w' => e = .returned (.tuple #[.slice none 0 0, .int .i64 (askE p.s q c)]) ∧ Below w.heap.size w w' := by
  have hb0 := ((Bx.nil w).alloc #[.slice p.ka p.s.ks.length p.kc, .slice p.xa p.s.xs.length p.xc, .int .i64 p.s.flo, .int .i64 p.s.fhi, .int .i64 p.s.plo, .int .i64 p.s.phi] 27).alloc #[.int .i64 c.wax, .int .i64 c.dia, .int .i64 c.dra, .int .i64 c.clo, .int .i64 c.chi] 34
  simp only [World.size_alloc] at hb0
  have HB := Lib.hid hb0
  have HA := Lib.hid (fun (W : World) (hb : Below w.heap.size w W) => rasked_any q c (h.on hb))
  have hz : (askE p.s q c != 0) = true := by simpa using he
  clear h hb0 he
  generalize askE p.s q c = z at *
  go_enter Try.func24, Try.ntmps24
  go_wp2_with (first
    | (go_at_call 52; (with_reducible refine (HA.out _ HB.out.b).mono ?_); rintro e w1 ⟨rfl, hb⟩; have HC := Lib.hid (HB.out.on hb); clear hb)
    | fail)
  refine bodyPost_ret (v := .tuple #[.slice none 0 0, .int .i64 z]) ?_ rfl ⟨rfl, HC.out.b⟩
  simp [results, Try.results24, go_sem]
set_option maxRecDepth 100000 in
set_option maxHeartbeats 2000000 in
theorem rfaults_ok {w : World} {p : Sp} {c : Cd} {q : Int} {k : Wk} {x : Wx} (h : ShIn w p) (ha : Ask p.s q c k x) (hs : askE p.s q c = 0) :
    Calls Try.prog 24 #[.agg #[.slice p.ka p.s.ks.length p.kc, .slice p.xa p.s.xs.length p.xc, .int .i64 p.s.flo, .int .i64 p.s.fhi, .int .i64 p.s.plo, .int .i64 p.s.phi], .int .i64 q, .agg #[.int .i64 c.wax, .int .i64 c.dia, .int .i64 c.dra, .int .i64 c.clo, .int .i64 c.chi]] w (ListOut w (faultsL p.s k x c)) := by
  have hb0 := ((Bx.nil w).alloc #[.slice p.ka p.s.ks.length p.kc, .slice p.xa p.s.xs.length p.xc, .int .i64 p.s.flo, .int .i64 p.s.fhi, .int .i64 p.s.plo, .int .i64 p.s.phi] 27).alloc #[.int .i64 c.wax, .int .i64 c.dia, .int .i64 c.dra, .int .i64 c.clo, .int .i64 c.chi] 34
  simp only [World.size_alloc] at hb0
  have HB := Lib.hid hb0
  have HA := Lib.hid (fun (W : World) (hb : Below w.heap.size w W) => rasked_any q c (h.on hb))
  rw [hs] at HA
  have HL := Lib.hid (fun (W : World) (hb : Below w.heap.size w W) => rlisted_any (h.on hb) ha)
  clear h hb0 ha hs
  generalize faultsL p.s k x c = R at *
  go_enter Try.func24, Try.ntmps24
  go_wp2_with (first
    | (go_at_call 52; (with_reducible refine (HA.out _ HB.out.b).mono ?_); rintro e w1 ⟨rfl, hb⟩; have HC := Lib.hid (HB.out.on hb); clear hb; have sb : Blk _ (w.heap.size) 27 #[.slice p.ka p.s.ks.length p.kc, .slice p.xa p.s.xs.length p.xc, .int .i64 p.s.flo, .int .i64 p.s.fhi, .int .i64 p.s.plo, .int .i64 p.s.phi] := HC.out.get (by simp); have s0 := sb.cell 0; have s1 := sb.cell 1; have s2 := sb.cell 2; have s3 := sb.cell 3; have s4 := sb.cell 4; have s5 := sb.cell 5; have sl := sb.lt; clear sb; have cb : Blk _ (w.heap.size + 1) 34 #[.int .i64 c.wax, .int .i64 c.dia, .int .i64 c.dra, .int .i64 c.clo, .int .i64 c.chi] := HC.out.get (by simp); have c0 := cb.cell 0; have c1 := cb.cell 1; have c2 := cb.cell 2; have c3 := cb.cell 3; have c4 := cb.cell 4; have cl := cb.lt; clear cb)
    | (go_at_call 58; (with_reducible refine (HL.out _ HC.out.b).mono ?_); rintro e w2 ⟨v, rfl, hv, hb⟩; have HV := Lib.hid (own_base hv HC.out.b.size); have HD := Lib.hid (HC.out.on hb); clear hb hv s0 s1 s2 s3 s4 s5 sl c0 c1 c2 c3 c4 cl)
    | fail)
  refine bodyPost_ret (v := .tuple #[v, .int .i64 0]) ?_ rfl ⟨v, rfl, HV.out, HD.out.b⟩
  simp [results, Try.results24, go_sem]
set_option maxRecDepth 100000 in
set_option maxHeartbeats 2000000 in
theorem rsuits_err {w : World} {p : Sp} {c : Cd} (h : ShIn w p) (he : askCE p.s c ≠ 0) :
    Calls Try.prog 27 #[.agg #[.slice p.ka p.s.ks.length p.kc, .slice p.xa p.s.xs.length p.xc, .int .i64 p.s.flo, .int .i64 p.s.fhi, .int .i64 p.s.plo, .int .i64 p.s.phi], .agg #[.int .i64 c.wax, .int .i64 c.dia, .int .i64 c.dra, .int .i64 c.clo, .int .i64 c.chi]] w fun e w' => e = .returned (.tuple #[.slice none 0 0, .int .i64 (askCE p.s c)]) ∧ Below w.heap.size w w' := by
  have hb0 := ((Bx.nil w).alloc #[.slice p.ka p.s.ks.length p.kc, .slice p.xa p.s.xs.length p.xc, .int .i64 p.s.flo, .int .i64 p.s.fhi, .int .i64 p.s.plo, .int .i64 p.s.phi] 27).alloc #[.int .i64 c.wax, .int .i64 c.dia, .int .i64 c.dra, .int .i64 c.clo, .int .i64 c.chi] 34
  simp only [World.size_alloc] at hb0
  have HB := Lib.hid hb0
  have HA := Lib.hid (fun (W : World) (hb : Below w.heap.size w W) => rcandle_any c (h.on hb))
  have hz : (askCE p.s c != 0) = true := by simpa using he
  clear h hb0 he
  generalize askCE p.s c = z at *
  go_enter Try.func27, Try.ntmps27
  go_wp2_with (first
    | (go_at_call 36; (with_reducible refine (HA.out _ HB.out.b).mono ?_); rintro e w1 ⟨rfl, hb⟩; have HC := Lib.hid (HB.out.on hb); clear hb)
    | fail)
  refine bodyPost_ret (v := .tuple #[.slice none 0 0, .int .i64 z]) ?_ rfl ⟨rfl, HC.out.b⟩
  simp [results, Try.results27, go_sem]
set_option maxRecDepth 100000 in
set_option maxHeartbeats 4000000 in
theorem rsuits_ok {w : World} {p : Sp} {c : Cd} {x : Wx} (h : ShIn w p) (ha : AskC p.s c x) (he : askCE p.s c = 0) :
    Calls Try.prog 27 #[.agg #[.slice p.ka p.s.ks.length p.kc, .slice p.xa p.s.xs.length p.xc, .int .i64 p.s.flo, .int .i64 p.s.fhi, .int .i64 p.s.plo, .int .i64 p.s.phi], .agg #[.int .i64 c.wax, .int .i64 c.dia, .int .i64 c.dra, .int .i64 c.clo, .int .i64 c.chi]] w (ListOut w ((suitN p.s x c p.s.ks.length).map Int.ofNat)) := by
  have hb0 := ((Bx.nil w).alloc #[.slice p.ka p.s.ks.length p.kc, .slice p.xa p.s.xs.length p.xc, .int .i64 p.s.flo, .int .i64 p.s.fhi, .int .i64 p.s.plo, .int .i64 p.s.phi] 27).alloc #[.int .i64 c.wax, .int .i64 c.dia, .int .i64 c.dra, .int .i64 c.clo, .int .i64 c.chi] 34
  simp only [World.size_alloc] at hb0
  have HB := Lib.hid hb0
  have HA := Lib.hid (fun (W : World) (hb : Below w.heap.size w W) => rcandle_any c (h.on hb))
  rw [he] at HA
  have HL : Hid (∀ (i : Nat) (k : Wk), p.s.ks[i]? = some k → ∀ W, Below w.heap.size w W → Calls Try.prog 58 #[.agg #[.slice p.ka p.s.ks.length p.kc, .slice p.xa p.s.xs.length p.xc, .int .i64 p.s.flo, .int .i64 p.s.fhi, .int .i64 p.s.plo, .int .i64 p.s.phi], .int .i64 (i : Int), .agg #[.int .i64 c.wax, .int .i64 c.dia, .int .i64 c.dra, .int .i64 c.clo, .int .i64 c.chi]] W fun e w' => ∃ v, e = .returned v ∧ IntsOut W.heap.size w' v (faultsL p.s k x c) ∧ Below W.heap.size W w') := Lib.hid fun i k hk W hW => rlisted_any (h.on hW) (ha.ask hk)
  have hks := ha.sh.nk.2
  have hkl := h.ks.len
  clear h hb0 ha he
  go_enter Try.func27, Try.ntmps27
  go_wp2_with (first
    | (go_at_call 36; (with_reducible refine (HA.out _ HB.out.b).mono ?_); rintro e w1 ⟨rfl, hb⟩; have HC := Lib.hid (HB.out.on hb); clear hb)
    | fail)
  go_loopw [7, 8] (fun v i W => ∃ k : Nat, k ≤ p.s.ks.length ∧ i = .int .i64 (k : Int) ∧ Hid (IntsOut w1.heap.size W v ((suitN p.s x c k).map Int.ofNat)) ∧ Hid (Below w1.heap.size w1 W)) (fun _ i _ => p.s.ks.length - (intOf i).toNat)
  case atStart => exact ⟨0, by omega, rfl, IntsOut.nil _ _, Below.refl _ _⟩
  case round =>
    obtain ⟨k, hk, rfl, HO, HWW⟩ := hrel
    have HG := Lib.hid (HC.out.on HWW.out)
    have sb : Blk _ (w.heap.size) 27 #[.slice p.ka p.s.ks.length p.kc, .slice p.xa p.s.xs.length p.xc, .int .i64 p.s.flo, .int .i64 p.s.fhi, .int .i64 p.s.plo, .int .i64 p.s.phi] := HG.out.get (by simp); have s0 := sb.cell 0; have s1 := sb.cell 1; have s2 := sb.cell 2; have s3 := sb.cell 3; have s4 := sb.cell 4; have s5 := sb.cell 5; have sl := sb.lt; clear sb; have cb : Blk _ (w.heap.size + 1) 34 #[.int .i64 c.wax, .int .i64 c.dia, .int .i64 c.dra, .int .i64 c.clo, .int .i64 c.chi] := HG.out.get (by simp); have c0 := cb.cell 0; have c1 := cb.cell 1; have c2 := cb.cell 2; have c3 := cb.cell 3; have c4 := cb.cell 4; have cl := cb.lt; clear cb
    by_cases hlt : k < p.s.ks.length
    · have hki := List.getElem?_eq_getElem hlt
      obtain ⟨kk, hkk⟩ : ∃ kk, p.s.ks[k]? = some kk := ⟨_, hki⟩
      have HF := Lib.hid (HL.out k kk hkk)
      obtain ⟨ol, hol⟩ : ∃ ol, ol = (suitN p.s x c k).map Int.ofNat := ⟨_, rfl⟩
      rw [← hol] at HO
      have hll : ol.length < 1000000 := by rw [hol, List.length_map]; have := suitN_len p.s x c k; omega
      have HK := Lib.hid hkk
      clear hki hkk
      by_cases hn : faultsL p.s kk x c = []
      · have HT := Lib.hid (show ol ++ [(k : Int)] = (suitN p.s x c (k + 1)).map Int.ofNat by rw [suitN_yes ((okW_nil HK.out).2 hn), List.map_append, hol]; rfl)
        rw [hn] at HF
        clear hol hn
        go_wp2_with (first
          | (go_at_call 58; (with_reducible refine (HF.out _ HG.out.b).mono ?_); rintro e w5 ⟨v, rfl, hv, hb⟩; obtain ⟨A5, c5, rfl, -⟩ := hv.in_; have HW5 := Lib.hid (HWW.out.trans (hb.mono HWW.out.size)); have HO5 := Lib.hid (own_below HO.out hb); clear hb hv s0 s1 s2 s3 s4 s5 sl c0 c1 c2 c3 c4 cl)
          | (at_builtin; (refine app_list rfl _ _ rfl (l := ol) rfl (own_below HO5.out ((Below.refl _ _).alloc (Nat.le_refl _) _)) (k : Int) rfl (Blk.newat rfl) hll (by have := HW5.out.size; simp; omega) ?_); intro g cp w7 r1 r2 r3 r4; have HO7 := Lib.hid r1; have HB7 := Lib.hid ((HW5.out.alloc HW5.out.size _).trans r2); clear r1 r2 r3 r4)
          | fail)
        go_roundw
        case rel => exact ⟨k + 1, by omega, by go_num, Lib.hid (by rw [← HT.out]; exact HO7.out), HB7⟩
        case measure => exact meas_one hlt
      · have ho : okW p.s x c k = false := by
          cases h : okW p.s x c k with
          | false => rfl
          | true => exact absurd ((okW_nil HK.out).1 h) hn
        have HT := Lib.hid (show (suitN p.s x c (k + 1)).map Int.ofNat = ol by rw [suitN_no ho, hol])
        obtain ⟨L, hL⟩ : ∃ L, L = faultsL p.s kk x c := ⟨_, rfl⟩
        rw [← hL] at HF hn
        have hz : ((L.length : Int) == 0) = false := by
          have : L.length ≠ 0 := fun e => hn (List.eq_nil_of_length_eq_zero e)
          simp only [beq_eq_false_iff_ne, ne_eq]; omega
        clear hol hn hL ho
        go_wp2_with (first
          | (go_at_call 58; (with_reducible refine (HF.out _ HG.out.b).mono ?_); rintro e w5 ⟨v, rfl, hv, hb⟩; obtain ⟨A5, c5, rfl, -⟩ := hv.in_; have HW5 := Lib.hid (HWW.out.trans (hb.mono HWW.out.size)); have HO5 := Lib.hid (own_below HO.out hb); clear hb hv s0 s1 s2 s3 s4 s5 sl c0 c1 c2 c3 c4 cl)
          | fail)
        go_roundw
        case rel => exact ⟨k + 1, by omega, by go_num, Lib.hid (by rw [HT.out]; exact HO5.out), HW5⟩
        case measure => exact meas_one hlt
    · have hO := HO.out
      rw [show k = p.s.ks.length by omega] at hO
      have HO5 := Lib.hid (own_base hO HC.out.b.size)
      have HWV := Lib.hid (HC.out.b.trans (HWW.out.mono HC.out.b.size))
      clear hO HO c0 c1 c2 c3 c4 cl
      go_wp2_with fail
      refine bodyPost_ret (by simp [results, Try.results27, go_sem]) rfl ⟨_, rfl, HO5.out, HWV.out⟩
end Go.Proofs.Ytkjfommdeljefaa
