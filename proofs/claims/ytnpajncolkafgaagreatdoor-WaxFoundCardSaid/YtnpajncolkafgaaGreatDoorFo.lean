/- The contract of law 9, the walk: for every table and truth that stand in memory, the call returns true, and nothing below changes. Conditions: the base of the memory. -/
import Derived.Test.YtnpajncolkafgaaGreatDoorFa
import Derived.Test.YtnpajncolkafgaaGreatDoorAw
import Derived.BigQuiet
namespace Go.Proofs.YtnpajncolkafgaaGreatDoor
open Go.ChangeShapes Go.WideShapes Go.ChangeAt Go.RowKit

theorem turns {nk : Nat} (h2 : 2 ≤ nk) {a b : Int} (ha : 0 ≤ a ∧ a ≤ 255) (hb : 0 ≤ b ∧ b ≤ 255) : ∃ k m o : Nat, k < nk ∧ m < nk - 1 ∧ o < nk ∧ o ≠ k ∧ a.tmod (nk : Int) = k ∧ b.tmod ((nk : Int) - 1) = m ∧ ((k : Int) + 1 + m).tmod (nk : Int) = o := by
  obtain ⟨a', rfl⟩ := Int.eq_ofNat_of_zero_le ha.1
  obtain ⟨b', rfl⟩ := Int.eq_ofNat_of_zero_le hb.1
  have hk : a' % nk < nk := Nat.mod_lt _ (by omega)
  have hm : b' % (nk - 1) < nk - 1 := Nat.mod_lt _ (by omega)
  refine ⟨a' % nk, b' % (nk - 1), (a' % nk + 1 + b' % (nk - 1)) % nk, hk, hm, Nat.mod_lt _ (by omega), ?_, rfl, ?_, ?_⟩
  · generalize a' % nk = k at *
    generalize b' % (nk - 1) = m at *
    by_cases hlt : k + 1 + m < nk
    · rw [Nat.mod_eq_of_lt hlt]; omega
    · rw [Nat.mod_eq_sub_mod (by omega), Nat.mod_eq_of_lt (by omega)]; omega
  · rw [show (nk : Int) - 1 = ((nk - 1 : Nat) : Int) by omega]; rfl
  · rw [show ((a' % nk : Nat) : Int) + 1 + ((b' % (nk - 1) : Nat) : Int) = ((a' % nk + 1 + b' % (nk - 1) : Nat) : Int) by omega]; rfl

/-- What holds through the rounds. -/
structure FoI (w : World) (tc mc : Array Value) (W : World) : Prop where
  tb : Blk W w.heap.size 25 tc
  mb : Blk W (w.heap.size + 1) 60 mc
  b : Below w.heap.size w W
theorem FoI.on {w W W' : World} {tc mc : Array Value} (h : FoI w tc mc W) (hb : Below W.heap.size W W') : FoI w tc mc W' :=
  ⟨h.tb.on hb, h.mb.on hb, h.b.trans (hb.mono h.b.size)⟩

theorem detect_found {t : Tab} {k o : Nat} (hv : (checkT t).2.2 = 0) (hk : k < t.ks.length) (ho : o < t.ks.length) (hok : o ≠ k) : detectV t k o = if 1000 < leastV t k o then (0, 9) else (leastV t k o, 0) := by
  unfold detectV
  rw [if_neg (by simpa using hv), if_neg (by unfold differV; rw [if_pos (by omega), if_neg (by omega)]; simp)]
  rfl

set_option maxRecDepth 100000 in
set_option maxHeartbeats 8000000 in
theorem wfound_any {w : World} (hB : Base w) {pa ka : Option Addr} {pc kc : Nat} {t : Tab} (a b n : Int) (v3 v4 v5 : Value) (ha : 0 ≤ a ∧ a ≤ 255) (hb : 0 ≤ b ∧ b ≤ 255) (hn : 0 ≤ n ∧ n ≤ 65535) (h : TabIn w pa ka pc kc t) :
    Calls Tryz.prog 11 #[.agg #[.slice pa t.ps.length pc, .slice ka t.ks.length kc, .int .i64 t.pu], .agg #[.int .u8 a, .int .u8 b, .int .u16 n, v3, v4, v5]] w fun e w' => e = .returned (.bool true) ∧ Below w.heap.size w w' := by
  have hp := h.tab.lp
  have hk := h.tab.lk
  have hA := ((Below.refl _ w).alloc (Nat.le_refl _) (.cells #[.slice pa t.ps.length pc, .slice ka t.ks.length kc, .int .i64 t.pu] 25)).alloc (by simp) (.cells #[.int .u8 a, .int .u8 b, .int .u16 n, v3, v4, v5] 60)
  have I0 : FoI w #[.slice pa t.ps.length pc, .slice ka t.ks.length kc, .int .i64 t.pu] #[.int .u8 a, .int .u8 b, .int .u16 n, v3, v4, v5] ((w.alloc (.cells #[.slice pa t.ps.length pc, .slice ka t.ks.length kc, .int .i64 t.pu] 25)).alloc (.cells #[.int .u8 a, .int .u8 b, .int .u16 n, v3, v4, v5] 60)) := ⟨(Blk.new w _ _).alloc _, Blk.new1 w _ _ _, hA⟩
  have HB := Lib.hid hB
  have HT := Lib.hid h
  have H1 := Lib.hid (lvalid_any (h.on hA))
  have HI := Lib.hid I0
  clear h hB hA I0
  go_enter Tryz.func11, Tryz.ntmps11
  go_wp2_with fail
  refine H1.out.mono ?_
  rintro e w1 ⟨rfl, hb1⟩
  have HI := Lib.hid (HI.out.on hb1)
  obtain ⟨x0, x1, x2, _, _, _, hxl⟩ := HI.out.tb.three
  have m0 : w1.cell? ⟨w.heap.size + 1, 0, none⟩ = some (.int .u8 a) := HI.out.mb.cell 0
  have m1 : w1.cell? ⟨w.heap.size + 1, 1, none⟩ = some (.int .u8 b) := HI.out.mb.cell 1
  have m2 : w1.cell? ⟨w.heap.size + 1, 2, none⟩ = some (.int .u16 n) := HI.out.mb.cell 2
  have H5 := Lib.hid (awake_any (HB.out.on HI.out.b))
  clear hb1 H1
  by_cases hc : (checkT t).2.2 = 0
  · rw [show decide ((checkT t).2.2 = 0) = true by simpa using hc]
    by_cases hn2 : t.ks.length < 2
    · go_wp2_with fail
      refine H5.out.mono ?_
      rintro e w2 ⟨rfl, hb⟩
      go_wp2_with fail
      go_ret
      exact ⟨rfl, HI.out.b.trans (hb.mono HI.out.b.size)⟩
    · have HV := Lib.hid (valid_of hc)
      have hk8 := HV.out.nk
      have hp5 := HV.out.np
      obtain ⟨k, m, o, hkl, hml, hol, hok, e1, e2, e3⟩ := turns (nk := t.ks.length) (by omega) ha hb
      obtain ⟨q, hq, hq0⟩ : ∃ q : Int, n.tmod 1000 = q ∧ (0 ≤ q ∧ q ≤ 999) := ⟨_, rfl, Int.tmod_nonneg _ hn.1, by have := Int.tmod_lt_of_pos n (show (0 : Int) < 1000 by omega); omega⟩
      obtain ⟨xk, hxk⟩ : ∃ x, t.ks[k]? = some x := ⟨t.ks[k], List.getElem?_eq_getElem hkl⟩
      obtain ⟨xo, hxo⟩ : ∃ x, t.ks[o]? = some x := ⟨t.ks[o], List.getElem?_eq_getElem hol⟩
      have hrk := HV.out.rs xk (List.mem_of_getElem? hxk)
      have hro := HV.out.rs xo (List.mem_of_getElem? hxo)
      have hlk : xk.rs.length = t.ps.length := HV.out.rl xk (List.mem_of_getElem? hxk)
      have hlo : xo.rs.length = t.ps.length := HV.out.rl xo (List.mem_of_getElem? hxo)
      have her := HV.out.er
      have hL : leastV t k o = leastK t.ps xk.rs xo.rs t.ps.length := by unfold leastV; rw [hxk, hxo]; rfl
      have hL1 : 1 ≤ leastV t k o := by
        rw [hL]
        exact leastK_pos _ _ _ (fun r hr => (hrk r hr).2.1) (fun p hp => (her p hp).1) _
      have hd : ∀ (W : World), Below w.heap.size w W → Calls Tryz.prog 23 #[.agg #[.slice pa t.ps.length pc, .slice ka t.ks.length kc, .int .i64 t.pu], .int .i64 k, .int .i64 o] W fun e w' => e = .returned (.tuple #[.int .i64 (if 1000 < leastV t k o then ((0 : Int), (9 : Int)) else (leastV t k o, 0)).1, .int .i64 (if 1000 < leastV t k o then ((0 : Int), (9 : Int)) else (leastV t k o, 0)).2]) ∧ Below W.heap.size W w' := fun W hW => by
        have h := detect_any (HT.out.on hW) k o
        rw [detect_found hc hkl hol hok] at h
        exact h
      generalize leastV t k o = L at *
      have HD := Lib.hid hd
      have HL := Lib.hid hL
      have z1 : ((t.ks.length : Int) - 1 == 0) = false := by
        have h : ¬ ((t.ks.length : Int) - 1 = 0) := by omega
        simpa using h
      have z2 : ¬ ((t.ks.length : Int) - 1 = 0) := by omega
      have HXK := Lib.hid (And.intro hxk hxo)
      have HLN := Lib.hid (And.intro hlk hlo)
      have HRS := Lib.hid (And.intro hrk (And.intro hro her))
      clear hc hd hL hxk hxo hlk hlo hrk hro her
      go_wp2_with fail
      go_quiet (fail)
      go_wp2_with fail
      refine (HD.out _ (by repeat (first | exact HI.out.b | apply below_drewN' | apply Below.drew))).mono ?_
      rintro e w2 ⟨rfl, hb2⟩
      have HI := Lib.hid (HI.out.on (Below.trans (by repeat (first | exact Below.refl _ _ | apply below_drewN' | apply Below.drew)) (hb2.mono (by simp))))
      clear hb2 HD
      obtain ⟨x0, x1, x2, _, _, _, hxl⟩ := HI.out.tb.three
      have m2 : w2.cell? ⟨w.heap.size + 1, 2, none⟩ = some (.int .u16 n) := HI.out.mb.cell 2
      have hcase : 1000 < L ∨ (L ≤ 1000 ∧ L ≤ 1 + q) ∨ (L ≤ 1000 ∧ ¬ L ≤ 1 + q) := by omega
      rcases hcase with hc1 | ⟨hc1, hc2⟩ | ⟨hc1, hc2⟩
      · rw [if_pos hc1]
        go_wp2_with fail
        go_loopw [11, 12] (fun v i wr => ∃ p : Nat, p ≤ t.ps.length ∧ i = .int .i64 p ∧ (∃ b : Bool, v = .bool b ∧ Hid (b = decide (1 + q < leastK t.ps xk.rs xo.rs p))) ∧ FoI w #[.slice pa t.ps.length pc, .slice ka t.ks.length kc, .int .i64 t.pu] #[.int .u8 a, .int .u8 b, .int .u16 n, v3, v4, v5] wr) (fun _ i _ => t.ps.length - (intOf i).toNat)
        case atStart => exact ⟨0, by omega, rfl, ⟨true, rfl, (decide_eq_true (show 1 + q < (1001 : Int) by omega)).symm⟩, HI.out⟩
        case round =>
          obtain ⟨p, hpl, rfl, ⟨bb, rfl, HBV⟩, hI⟩ := hrel
          obtain ⟨x0, x1, x2, _, _, _, hxl⟩ := hI.tb.three
          by_cases hlt : p < t.ps.length
          · obtain ⟨zk, hzk⟩ : ∃ x, xk.rs[p]? = some x := ⟨xk.rs[p]'(by rw [HLN.out.1]; exact hlt), List.getElem?_eq_getElem _⟩
            obtain ⟨zo, hzo⟩ : ∃ x, xo.rs[p]? = some x := ⟨xo.rs[p]'(by rw [HLN.out.2]; exact hlt), List.getElem?_eq_getElem _⟩
            obtain ⟨pp, hpp⟩ : ∃ x, t.ps[p]? = some x := ⟨t.ps[p], List.getElem?_eq_getElem hlt⟩
            have hT := HT.out.on hI.b
            have gk := HRS.out.1 zk (List.mem_of_getElem? hzk)
            have gz := HRS.out.2.1 zo (List.mem_of_getElem? hzo)
            have ge := HRS.out.2.2 pp (List.mem_of_getElem? hpp)
            have hstep := com_step (n := 1 + q) hzk hzo hpp ⟨gk.1, gk.2.1⟩ ⟨gz.1, gz.2.1⟩ ge.1 (by omega)
            rw [← HBV.out] at hstep
            unfold comB at hstep
            have hvl := fun (W : World) (hW : Below w.heap.size w W) => rvalue_any (HT.out.on hW) p o k (1 + q) HXK.out.2 HXK.out.1 hzo hzk (by omega) (by omega) (by omega) (by omega) (by omega)
            have b1 := mul_in (n := 1 + q) (z := zo.1) (by omega) (by omega)
            have b2 := mul_in (n := 1 + q) (z := zo.2) (by omega) (by omega)
            have b3 := mul_in (n := 1000 - (1 + q)) (z := zk.1) (by omega) (by omega)
            have b4 := mul_in (n := 1000 - (1 + q)) (z := zk.2) (by omega) (by omega)
            have b5 : 0 ≤ (1 + q) * zo.1 + (1000 - (1 + q)) * zk.1 ∧ (1 + q) * zo.1 + (1000 - (1 + q)) * zk.1 ≤ 200000000 := by omega
            have b6 : 0 ≤ (1 + q) * zo.2 + (1000 - (1 + q)) * zk.2 ∧ (1 + q) * zo.2 + (1000 - (1 + q)) * zk.2 ≤ 200000000 := by omega
            clear b1 b2 b3 b4
            generalize (1 + q) * zo.1 + (1000 - (1 + q)) * zk.1 = V1 at *
            generalize (1 + q) * zo.2 + (1000 - (1 + q)) * zk.2 = V2 at *
            have HVL := Lib.hid hvl
            have HST := Lib.hid hstep
            obtain ⟨kb, ko, rfl, hkB, _, ka2, hsk, _⟩ := kinds_at hT.tab.ks HXK.out.1
            obtain ⟨ab, ao, ea, haB, c1, c2⟩ := spans_at hsk hzk
            obtain ⟨pb, po, rfl, hpB, _, c3⟩ := props_at hT.tab.ps hpp
            rw [ea] at ka2
            have i1 : p < xk.rs.length := by rw [HLN.out.1]; exact hlt
            have kE : IntKind.i64.wrap (1000 * pp.er) = 1000 * pp.er := IntWalk.i64_in _ (by omega)
            clear hvl hstep HBV hzk hzo hpp hsk ea hT gz
            have n1 : w.heap.size ≠ wr.heap.size := by omega
            have n2 : kb ≠ wr.heap.size := by omega
            have n3 : ab ≠ wr.heap.size := by omega
            have n4 : pb ≠ wr.heap.size := by omega
            have n5 : w.heap.size ≠ wr.heap.size + 1 := by omega
            have n6 : kb ≠ wr.heap.size + 1 := by omega
            have n7 : ab ≠ wr.heap.size + 1 := by omega
            have n8 : pb ≠ wr.heap.size + 1 := by omega
            go_upto_region 16 with (fail)
            go_cut [13, 14, 15] (fun s13 s14 s15 wx => ∃ X Y : Nat, s13 = .pointer (some ⟨X, 0, none⟩) ∧ s14 = .pointer (some ⟨Y, 0, none⟩) ∧ s15 = .int .i64 (1000 * pp.er) ∧ wx.cell? ⟨X, 0, none⟩ = some (.int .i64 V1) ∧ wx.cell? ⟨X, 1, none⟩ = some (.int .i64 V2) ∧ wx.cell? ⟨Y, 0, none⟩ = some (.int .i64 zk.1) ∧ wx.cell? ⟨Y, 1, none⟩ = some (.int .i64 zk.2) ∧ Below wr.heap.size wr wx)
            case first =>
              go_region_held3 (fun w' => w'.cell? ⟨w.heap.size, 0, none⟩ = some (.slice (some ⟨pb, po, none⟩) t.ps.length pc) ∧ w'.cell? ⟨w.heap.size, 1, none⟩ = some (.slice (some ⟨kb, ko, none⟩) t.ks.length kc) ∧ w'.cell? ⟨w.heap.size, 2, none⟩ = some (.int .i64 t.pu) ∧ w'.cell? ⟨kb, ko + k * 2 + 1, none⟩ = some (.slice (some ⟨ab, ao, none⟩) xk.rs.length xk.cp) ∧
                w'.cell? ⟨ab, ao + p * 2, none⟩ = some (.int .i64 zk.1) ∧ w'.cell? ⟨ab, ao + p * 2 + 1, none⟩ = some (.int .i64 zk.2) ∧ w'.cell? ⟨pb, po + p * 2 + 1, none⟩ = some (.int .i64 pp.er))
                (first | (simp [*]; done) | (simp [go_sem, *]; done)) (first | (go_at_call 47; refine (HVL.out _ (by repeat (first | exact hI.b | apply Below.drew | refine Below.alloc ?_ (by first | omega | (simp; omega)) _))).mono ?_; rintro e w3 ⟨rfl, hb3⟩; have hk3 := kept_of hb3; have q0 : wr.heap.size ≤ w3.heap.size := (by have := hb3.size; simp at this; omega); have q1 : w.heap.size < w3.heap.size := (by have := hb3.size; simp at this; omega); have q2 : kb < w3.heap.size := (by have := hb3.size; simp at this; omega); have q3 : ab < w3.heap.size := (by have := hb3.size; simp at this; omega); have q4 : pb < w3.heap.size := (by have := hb3.size; simp at this; omega); (try (have B1 : Blk w3 wr.heap.size 35 #[.int .i64 0, .int .i64 0] := Blk.on (by first | exact Blk.new _ _ _ | exact (Blk.new _ _ _).alloc _) hb3; obtain ⟨y10, y11, fy10, fy11, ly1⟩ := B1.two)); (try (have B2 : Blk w3 (wr.heap.size + 1) 35 #[.int .i64 0, .int .i64 0] := Blk.on (by exact Blk.new1 _ _ _ _) hb3; obtain ⟨y20, y21, fy20, fy21, ly2⟩ := B2.two))) | fail)
              all_goals (go_wp2_with fail)
              all_goals go_meet
              all_goals refine ⟨_, _, rfl, rfl, rfl, ?_, ?_, ?_, ?_, ?_⟩
              all_goals first
                | (simp [*]; done)
                | (simp [go_sem, *]; done)
                | (repeat (first | exact Below.refl _ _ | apply below_drewN' | apply Below.drew | refine Below.setCell ?_ (by first | omega | (simp; done) | (simp; omega)) _ | refine Below.alloc ?_ (by first | omega | (simp; done) | (simp; omega)) _ | refine Below.trans ?_ (hb3.mono (by first | omega | (simp; done) | (simp; omega)))))
            case rest =>
              obtain ⟨X, Y, rfl, rfl, rfl, d0, d1, d2, d3, hbx⟩ := hcut
              have hI2 := hI.on hbx
              have bE : 0 ≤ 1000 * pp.er ∧ 1000 * pp.er ≤ 10000000 := by omega
              have hst := HST.out
              generalize 1000 * pp.er = E at *
              obtain ⟨r1, hr1⟩ : ∃ r, 1000 * zk.1 = r := ⟨_, rfl⟩
              obtain ⟨r2, hr2⟩ : ∃ r, 1000 * zk.2 = r := ⟨_, rfl⟩
              obtain ⟨u1, hu1⟩ : ∃ r, V1 - E = r := ⟨_, rfl⟩
              obtain ⟨u2, hu2⟩ : ∃ r, r1 - E = r := ⟨_, rfl⟩
              obtain ⟨u3, hu3⟩ : ∃ r, V2 + E = r := ⟨_, rfl⟩
              obtain ⟨u4, hu4⟩ : ∃ r, r2 + E = r := ⟨_, rfl⟩
              rw [hr1, hr2, hu1, hu2, hu3, hu4] at hst
              have k1 : IntKind.i64.wrap (V1 - E) = u1 := (IntWalk.i64_in _ (by omega)).trans hu1
              have k2 : IntKind.i64.wrap (1000 * zk.1) = r1 := (IntWalk.i64_in _ (by omega)).trans hr1
              have k3 : IntKind.i64.wrap (r1 - E) = u2 := (IntWalk.i64_in _ (by omega)).trans hu2
              have k4 : IntKind.i64.wrap (V2 + E) = u3 := (IntWalk.i64_in _ (by omega)).trans hu3
              have k5 : IntKind.i64.wrap (1000 * zk.2) = r2 := (IntWalk.i64_in _ (by omega)).trans hr2
              have k6 : IntKind.i64.wrap (r2 + E) = u4 := (IntWalk.i64_in _ (by omega)).trans hu4
              clear hr1 hr2 hu1 hu2 hu3 hu4
              have HST := Lib.hid hst
              clear hst x0 x1 x2 ka2 c1 c2 c3
              go_upto_region 17 with (fail)
              go_cut [16, 17] (fun s16 s17 wx => s16 = .int .i64 (max u1 u2) ∧ s17 = .int .i64 (min u3 u4) ∧ Below wc.heap.size wc wx)
              case first =>
                go_region_held3 (fun w' => w'.cell? ⟨X, 0, none⟩ = some (.int .i64 V1) ∧ w'.cell? ⟨X, 1, none⟩ = some (.int .i64 V2) ∧ w'.cell? ⟨Y, 0, none⟩ = some (.int .i64 zk.1) ∧ w'.cell? ⟨Y, 1, none⟩ = some (.int .i64 zk.2)) (first | (simp [*]; done) | (simp [go_sem, *]; done)) (first | fail)
                all_goals (try (go_wp2_with fail))
                all_goals go_meet
                all_goals exact ⟨by first | rfl | rw [k2, k1, k3] | simp [k1, k2, k3], by first | rfl | rw [k5, k4, k6] | simp [k4, k5, k6], by repeat (first | exact Below.refl _ _ | apply below_drewN' | apply Below.drew)⟩
              case rest =>
                obtain ⟨rfl, rfl, hby⟩ := hcut
                have hst := HST.out
                generalize max u1 u2 = lo at *
                generalize min u3 u4 = hi at *
                have hI3 := hI2.on hby
                cases bb with
                | false =>
                  have HB1 := Lib.hid (show false = decide (1 + q < leastK t.ps xk.rs xo.rs (p + 1)) by rw [hst]; rfl)
                  clear hst HST
                  go_wp2_with fail
                  go_roundw
                  case rel => exact ⟨p + 1, by omega, by go_num, ⟨false, rfl, HB1⟩, hI3⟩
                  case measure => simp [intOf]; omega
                | true =>
                  have HB1 := Lib.hid (show decide (lo ≤ hi) = decide (1 + q < leastK t.ps xk.rs xo.rs (p + 1)) by rw [hst]; simp)
                  clear hst HST
                  go_wp2_with fail
                  go_roundw
                  case rel => exact ⟨p + 1, by omega, by go_num, ⟨_, rfl, HB1⟩, hI3⟩
                  case measure => simp [intOf]; omega
          · have hpe : p = t.ps.length := by omega
            have H6 := Lib.hid (awake_any (HB.out.on hI.b))
            have hbv : bb = decide (1 + q < L) := by rw [HBV.out, HL.out, hpe]
            clear HBV hpe
            by_cases hg : 1 + q < L
            · obtain rfl : bb = true := by rw [hbv]; simpa using hg
              clear hbv
              first
                | (exfalso; omega)
                | (go_wp2_with fail
                   refine H6.out.mono ?_
                   rintro e w9 ⟨rfl, hb9⟩
                   go_wp2_with fail
                   go_ret
                   refine ⟨?_, hI.b.trans (hb9.mono hI.b.size)⟩
                   first | rfl | (simp; omega))
            · obtain rfl : bb = false := by rw [hbv]; simpa using hg
              clear hbv
              first
                | (exfalso; omega)
                | (go_wp2_with fail
                   refine H6.out.mono ?_
                   rintro e w9 ⟨rfl, hb9⟩
                   go_wp2_with fail
                   go_ret
                   refine ⟨?_, hI.b.trans (hb9.mono hI.b.size)⟩
                   first | rfl | (simp; omega))
      · rw [if_neg (by omega)]
        go_wp2_with fail
        go_loopw [11, 12] (fun v i wr => ∃ p : Nat, p ≤ t.ps.length ∧ i = .int .i64 p ∧ (∃ b : Bool, v = .bool b ∧ Hid (b = decide (1 + q < leastK t.ps xk.rs xo.rs p))) ∧ FoI w #[.slice pa t.ps.length pc, .slice ka t.ks.length kc, .int .i64 t.pu] #[.int .u8 a, .int .u8 b, .int .u16 n, v3, v4, v5] wr) (fun _ i _ => t.ps.length - (intOf i).toNat)
        case atStart => exact ⟨0, by omega, rfl, ⟨true, rfl, (decide_eq_true (show 1 + q < (1001 : Int) by omega)).symm⟩, HI.out⟩
        case round =>
          obtain ⟨p, hpl, rfl, ⟨bb, rfl, HBV⟩, hI⟩ := hrel
          obtain ⟨x0, x1, x2, _, _, _, hxl⟩ := hI.tb.three
          by_cases hlt : p < t.ps.length
          · obtain ⟨zk, hzk⟩ : ∃ x, xk.rs[p]? = some x := ⟨xk.rs[p]'(by rw [HLN.out.1]; exact hlt), List.getElem?_eq_getElem _⟩
            obtain ⟨zo, hzo⟩ : ∃ x, xo.rs[p]? = some x := ⟨xo.rs[p]'(by rw [HLN.out.2]; exact hlt), List.getElem?_eq_getElem _⟩
            obtain ⟨pp, hpp⟩ : ∃ x, t.ps[p]? = some x := ⟨t.ps[p], List.getElem?_eq_getElem hlt⟩
            have hT := HT.out.on hI.b
            have gk := HRS.out.1 zk (List.mem_of_getElem? hzk)
            have gz := HRS.out.2.1 zo (List.mem_of_getElem? hzo)
            have ge := HRS.out.2.2 pp (List.mem_of_getElem? hpp)
            have hstep := com_step (n := 1 + q) hzk hzo hpp ⟨gk.1, gk.2.1⟩ ⟨gz.1, gz.2.1⟩ ge.1 (by omega)
            rw [← HBV.out] at hstep
            unfold comB at hstep
            have hvl := fun (W : World) (hW : Below w.heap.size w W) => rvalue_any (HT.out.on hW) p o k (1 + q) HXK.out.2 HXK.out.1 hzo hzk (by omega) (by omega) (by omega) (by omega) (by omega)
            have b1 := mul_in (n := 1 + q) (z := zo.1) (by omega) (by omega)
            have b2 := mul_in (n := 1 + q) (z := zo.2) (by omega) (by omega)
            have b3 := mul_in (n := 1000 - (1 + q)) (z := zk.1) (by omega) (by omega)
            have b4 := mul_in (n := 1000 - (1 + q)) (z := zk.2) (by omega) (by omega)
            have b5 : 0 ≤ (1 + q) * zo.1 + (1000 - (1 + q)) * zk.1 ∧ (1 + q) * zo.1 + (1000 - (1 + q)) * zk.1 ≤ 200000000 := by omega
            have b6 : 0 ≤ (1 + q) * zo.2 + (1000 - (1 + q)) * zk.2 ∧ (1 + q) * zo.2 + (1000 - (1 + q)) * zk.2 ≤ 200000000 := by omega
            clear b1 b2 b3 b4
            generalize (1 + q) * zo.1 + (1000 - (1 + q)) * zk.1 = V1 at *
            generalize (1 + q) * zo.2 + (1000 - (1 + q)) * zk.2 = V2 at *
            have HVL := Lib.hid hvl
            have HST := Lib.hid hstep
            obtain ⟨kb, ko, rfl, hkB, _, ka2, hsk, _⟩ := kinds_at hT.tab.ks HXK.out.1
            obtain ⟨ab, ao, ea, haB, c1, c2⟩ := spans_at hsk hzk
            obtain ⟨pb, po, rfl, hpB, _, c3⟩ := props_at hT.tab.ps hpp
            rw [ea] at ka2
            have i1 : p < xk.rs.length := by rw [HLN.out.1]; exact hlt
            have kE : IntKind.i64.wrap (1000 * pp.er) = 1000 * pp.er := IntWalk.i64_in _ (by omega)
            clear hvl hstep HBV hzk hzo hpp hsk ea hT gz
            have n1 : w.heap.size ≠ wr.heap.size := by omega
            have n2 : kb ≠ wr.heap.size := by omega
            have n3 : ab ≠ wr.heap.size := by omega
            have n4 : pb ≠ wr.heap.size := by omega
            have n5 : w.heap.size ≠ wr.heap.size + 1 := by omega
            have n6 : kb ≠ wr.heap.size + 1 := by omega
            have n7 : ab ≠ wr.heap.size + 1 := by omega
            have n8 : pb ≠ wr.heap.size + 1 := by omega
            go_upto_region 16 with (fail)
            go_cut [13, 14, 15] (fun s13 s14 s15 wx => ∃ X Y : Nat, s13 = .pointer (some ⟨X, 0, none⟩) ∧ s14 = .pointer (some ⟨Y, 0, none⟩) ∧ s15 = .int .i64 (1000 * pp.er) ∧ wx.cell? ⟨X, 0, none⟩ = some (.int .i64 V1) ∧ wx.cell? ⟨X, 1, none⟩ = some (.int .i64 V2) ∧ wx.cell? ⟨Y, 0, none⟩ = some (.int .i64 zk.1) ∧ wx.cell? ⟨Y, 1, none⟩ = some (.int .i64 zk.2) ∧ Below wr.heap.size wr wx)
            case first =>
              go_region_held3 (fun w' => w'.cell? ⟨w.heap.size, 0, none⟩ = some (.slice (some ⟨pb, po, none⟩) t.ps.length pc) ∧ w'.cell? ⟨w.heap.size, 1, none⟩ = some (.slice (some ⟨kb, ko, none⟩) t.ks.length kc) ∧ w'.cell? ⟨w.heap.size, 2, none⟩ = some (.int .i64 t.pu) ∧ w'.cell? ⟨kb, ko + k * 2 + 1, none⟩ = some (.slice (some ⟨ab, ao, none⟩) xk.rs.length xk.cp) ∧
                w'.cell? ⟨ab, ao + p * 2, none⟩ = some (.int .i64 zk.1) ∧ w'.cell? ⟨ab, ao + p * 2 + 1, none⟩ = some (.int .i64 zk.2) ∧ w'.cell? ⟨pb, po + p * 2 + 1, none⟩ = some (.int .i64 pp.er))
                (first | (simp [*]; done) | (simp [go_sem, *]; done)) (first | (go_at_call 47; refine (HVL.out _ (by repeat (first | exact hI.b | apply Below.drew | refine Below.alloc ?_ (by first | omega | (simp; omega)) _))).mono ?_; rintro e w3 ⟨rfl, hb3⟩; have hk3 := kept_of hb3; have q0 : wr.heap.size ≤ w3.heap.size := (by have := hb3.size; simp at this; omega); have q1 : w.heap.size < w3.heap.size := (by have := hb3.size; simp at this; omega); have q2 : kb < w3.heap.size := (by have := hb3.size; simp at this; omega); have q3 : ab < w3.heap.size := (by have := hb3.size; simp at this; omega); have q4 : pb < w3.heap.size := (by have := hb3.size; simp at this; omega); (try (have B1 : Blk w3 wr.heap.size 35 #[.int .i64 0, .int .i64 0] := Blk.on (by first | exact Blk.new _ _ _ | exact (Blk.new _ _ _).alloc _) hb3; obtain ⟨y10, y11, fy10, fy11, ly1⟩ := B1.two)); (try (have B2 : Blk w3 (wr.heap.size + 1) 35 #[.int .i64 0, .int .i64 0] := Blk.on (by exact Blk.new1 _ _ _ _) hb3; obtain ⟨y20, y21, fy20, fy21, ly2⟩ := B2.two))) | fail)
              all_goals (go_wp2_with fail)
              all_goals go_meet
              all_goals refine ⟨_, _, rfl, rfl, rfl, ?_, ?_, ?_, ?_, ?_⟩
              all_goals first
                | (simp [*]; done)
                | (simp [go_sem, *]; done)
                | (repeat (first | exact Below.refl _ _ | apply below_drewN' | apply Below.drew | refine Below.setCell ?_ (by first | omega | (simp; done) | (simp; omega)) _ | refine Below.alloc ?_ (by first | omega | (simp; done) | (simp; omega)) _ | refine Below.trans ?_ (hb3.mono (by first | omega | (simp; done) | (simp; omega)))))
            case rest =>
              obtain ⟨X, Y, rfl, rfl, rfl, d0, d1, d2, d3, hbx⟩ := hcut
              have hI2 := hI.on hbx
              have bE : 0 ≤ 1000 * pp.er ∧ 1000 * pp.er ≤ 10000000 := by omega
              have hst := HST.out
              generalize 1000 * pp.er = E at *
              obtain ⟨r1, hr1⟩ : ∃ r, 1000 * zk.1 = r := ⟨_, rfl⟩
              obtain ⟨r2, hr2⟩ : ∃ r, 1000 * zk.2 = r := ⟨_, rfl⟩
              obtain ⟨u1, hu1⟩ : ∃ r, V1 - E = r := ⟨_, rfl⟩
              obtain ⟨u2, hu2⟩ : ∃ r, r1 - E = r := ⟨_, rfl⟩
              obtain ⟨u3, hu3⟩ : ∃ r, V2 + E = r := ⟨_, rfl⟩
              obtain ⟨u4, hu4⟩ : ∃ r, r2 + E = r := ⟨_, rfl⟩
              rw [hr1, hr2, hu1, hu2, hu3, hu4] at hst
              have k1 : IntKind.i64.wrap (V1 - E) = u1 := (IntWalk.i64_in _ (by omega)).trans hu1
              have k2 : IntKind.i64.wrap (1000 * zk.1) = r1 := (IntWalk.i64_in _ (by omega)).trans hr1
              have k3 : IntKind.i64.wrap (r1 - E) = u2 := (IntWalk.i64_in _ (by omega)).trans hu2
              have k4 : IntKind.i64.wrap (V2 + E) = u3 := (IntWalk.i64_in _ (by omega)).trans hu3
              have k5 : IntKind.i64.wrap (1000 * zk.2) = r2 := (IntWalk.i64_in _ (by omega)).trans hr2
              have k6 : IntKind.i64.wrap (r2 + E) = u4 := (IntWalk.i64_in _ (by omega)).trans hu4
              clear hr1 hr2 hu1 hu2 hu3 hu4
              have HST := Lib.hid hst
              clear hst x0 x1 x2 ka2 c1 c2 c3
              go_upto_region 17 with (fail)
              go_cut [16, 17] (fun s16 s17 wx => s16 = .int .i64 (max u1 u2) ∧ s17 = .int .i64 (min u3 u4) ∧ Below wc.heap.size wc wx)
              case first =>
                go_region_held3 (fun w' => w'.cell? ⟨X, 0, none⟩ = some (.int .i64 V1) ∧ w'.cell? ⟨X, 1, none⟩ = some (.int .i64 V2) ∧ w'.cell? ⟨Y, 0, none⟩ = some (.int .i64 zk.1) ∧ w'.cell? ⟨Y, 1, none⟩ = some (.int .i64 zk.2)) (first | (simp [*]; done) | (simp [go_sem, *]; done)) (first | fail)
                all_goals (try (go_wp2_with fail))
                all_goals go_meet
                all_goals exact ⟨by first | rfl | rw [k2, k1, k3] | simp [k1, k2, k3], by first | rfl | rw [k5, k4, k6] | simp [k4, k5, k6], by repeat (first | exact Below.refl _ _ | apply below_drewN' | apply Below.drew)⟩
              case rest =>
                obtain ⟨rfl, rfl, hby⟩ := hcut
                have hst := HST.out
                generalize max u1 u2 = lo at *
                generalize min u3 u4 = hi at *
                have hI3 := hI2.on hby
                cases bb with
                | false =>
                  have HB1 := Lib.hid (show false = decide (1 + q < leastK t.ps xk.rs xo.rs (p + 1)) by rw [hst]; rfl)
                  clear hst HST
                  go_wp2_with fail
                  go_roundw
                  case rel => exact ⟨p + 1, by omega, by go_num, ⟨false, rfl, HB1⟩, hI3⟩
                  case measure => simp [intOf]; omega
                | true =>
                  have HB1 := Lib.hid (show decide (lo ≤ hi) = decide (1 + q < leastK t.ps xk.rs xo.rs (p + 1)) by rw [hst]; simp)
                  clear hst HST
                  go_wp2_with fail
                  go_roundw
                  case rel => exact ⟨p + 1, by omega, by go_num, ⟨_, rfl, HB1⟩, hI3⟩
                  case measure => simp [intOf]; omega
          · have hpe : p = t.ps.length := by omega
            have H6 := Lib.hid (awake_any (HB.out.on hI.b))
            have hbv : bb = decide (1 + q < L) := by rw [HBV.out, HL.out, hpe]
            clear HBV hpe
            by_cases hg : 1 + q < L
            · obtain rfl : bb = true := by rw [hbv]; simpa using hg
              clear hbv
              first
                | (exfalso; omega)
                | (go_wp2_with fail
                   refine H6.out.mono ?_
                   rintro e w9 ⟨rfl, hb9⟩
                   go_wp2_with fail
                   go_ret
                   refine ⟨?_, hI.b.trans (hb9.mono hI.b.size)⟩
                   first | rfl | (simp; omega))
            · obtain rfl : bb = false := by rw [hbv]; simpa using hg
              clear hbv
              first
                | (exfalso; omega)
                | (go_wp2_with fail
                   refine H6.out.mono ?_
                   rintro e w9 ⟨rfl, hb9⟩
                   go_wp2_with fail
                   go_ret
                   refine ⟨?_, hI.b.trans (hb9.mono hI.b.size)⟩
                   first | rfl | (simp; omega))
      · rw [if_neg (by omega)]
        go_wp2_with fail
        go_loopw [11, 12] (fun v i wr => ∃ p : Nat, p ≤ t.ps.length ∧ i = .int .i64 p ∧ (∃ b : Bool, v = .bool b ∧ Hid (b = decide (1 + q < leastK t.ps xk.rs xo.rs p))) ∧ FoI w #[.slice pa t.ps.length pc, .slice ka t.ks.length kc, .int .i64 t.pu] #[.int .u8 a, .int .u8 b, .int .u16 n, v3, v4, v5] wr) (fun _ i _ => t.ps.length - (intOf i).toNat)
        case atStart => exact ⟨0, by omega, rfl, ⟨true, rfl, (decide_eq_true (show 1 + q < (1001 : Int) by omega)).symm⟩, HI.out⟩
        case round =>
          obtain ⟨p, hpl, rfl, ⟨bb, rfl, HBV⟩, hI⟩ := hrel
          obtain ⟨x0, x1, x2, _, _, _, hxl⟩ := hI.tb.three
          by_cases hlt : p < t.ps.length
          · obtain ⟨zk, hzk⟩ : ∃ x, xk.rs[p]? = some x := ⟨xk.rs[p]'(by rw [HLN.out.1]; exact hlt), List.getElem?_eq_getElem _⟩
            obtain ⟨zo, hzo⟩ : ∃ x, xo.rs[p]? = some x := ⟨xo.rs[p]'(by rw [HLN.out.2]; exact hlt), List.getElem?_eq_getElem _⟩
            obtain ⟨pp, hpp⟩ : ∃ x, t.ps[p]? = some x := ⟨t.ps[p], List.getElem?_eq_getElem hlt⟩
            have hT := HT.out.on hI.b
            have gk := HRS.out.1 zk (List.mem_of_getElem? hzk)
            have gz := HRS.out.2.1 zo (List.mem_of_getElem? hzo)
            have ge := HRS.out.2.2 pp (List.mem_of_getElem? hpp)
            have hstep := com_step (n := 1 + q) hzk hzo hpp ⟨gk.1, gk.2.1⟩ ⟨gz.1, gz.2.1⟩ ge.1 (by omega)
            rw [← HBV.out] at hstep
            unfold comB at hstep
            have hvl := fun (W : World) (hW : Below w.heap.size w W) => rvalue_any (HT.out.on hW) p o k (1 + q) HXK.out.2 HXK.out.1 hzo hzk (by omega) (by omega) (by omega) (by omega) (by omega)
            have b1 := mul_in (n := 1 + q) (z := zo.1) (by omega) (by omega)
            have b2 := mul_in (n := 1 + q) (z := zo.2) (by omega) (by omega)
            have b3 := mul_in (n := 1000 - (1 + q)) (z := zk.1) (by omega) (by omega)
            have b4 := mul_in (n := 1000 - (1 + q)) (z := zk.2) (by omega) (by omega)
            have b5 : 0 ≤ (1 + q) * zo.1 + (1000 - (1 + q)) * zk.1 ∧ (1 + q) * zo.1 + (1000 - (1 + q)) * zk.1 ≤ 200000000 := by omega
            have b6 : 0 ≤ (1 + q) * zo.2 + (1000 - (1 + q)) * zk.2 ∧ (1 + q) * zo.2 + (1000 - (1 + q)) * zk.2 ≤ 200000000 := by omega
            clear b1 b2 b3 b4
            generalize (1 + q) * zo.1 + (1000 - (1 + q)) * zk.1 = V1 at *
            generalize (1 + q) * zo.2 + (1000 - (1 + q)) * zk.2 = V2 at *
            have HVL := Lib.hid hvl
            have HST := Lib.hid hstep
            obtain ⟨kb, ko, rfl, hkB, _, ka2, hsk, _⟩ := kinds_at hT.tab.ks HXK.out.1
            obtain ⟨ab, ao, ea, haB, c1, c2⟩ := spans_at hsk hzk
            obtain ⟨pb, po, rfl, hpB, _, c3⟩ := props_at hT.tab.ps hpp
            rw [ea] at ka2
            have i1 : p < xk.rs.length := by rw [HLN.out.1]; exact hlt
            have kE : IntKind.i64.wrap (1000 * pp.er) = 1000 * pp.er := IntWalk.i64_in _ (by omega)
            clear hvl hstep HBV hzk hzo hpp hsk ea hT gz
            have n1 : w.heap.size ≠ wr.heap.size := by omega
            have n2 : kb ≠ wr.heap.size := by omega
            have n3 : ab ≠ wr.heap.size := by omega
            have n4 : pb ≠ wr.heap.size := by omega
            have n5 : w.heap.size ≠ wr.heap.size + 1 := by omega
            have n6 : kb ≠ wr.heap.size + 1 := by omega
            have n7 : ab ≠ wr.heap.size + 1 := by omega
            have n8 : pb ≠ wr.heap.size + 1 := by omega
            go_upto_region 16 with (fail)
            go_cut [13, 14, 15] (fun s13 s14 s15 wx => ∃ X Y : Nat, s13 = .pointer (some ⟨X, 0, none⟩) ∧ s14 = .pointer (some ⟨Y, 0, none⟩) ∧ s15 = .int .i64 (1000 * pp.er) ∧ wx.cell? ⟨X, 0, none⟩ = some (.int .i64 V1) ∧ wx.cell? ⟨X, 1, none⟩ = some (.int .i64 V2) ∧ wx.cell? ⟨Y, 0, none⟩ = some (.int .i64 zk.1) ∧ wx.cell? ⟨Y, 1, none⟩ = some (.int .i64 zk.2) ∧ Below wr.heap.size wr wx)
            case first =>
              go_region_held3 (fun w' => w'.cell? ⟨w.heap.size, 0, none⟩ = some (.slice (some ⟨pb, po, none⟩) t.ps.length pc) ∧ w'.cell? ⟨w.heap.size, 1, none⟩ = some (.slice (some ⟨kb, ko, none⟩) t.ks.length kc) ∧ w'.cell? ⟨w.heap.size, 2, none⟩ = some (.int .i64 t.pu) ∧ w'.cell? ⟨kb, ko + k * 2 + 1, none⟩ = some (.slice (some ⟨ab, ao, none⟩) xk.rs.length xk.cp) ∧
                w'.cell? ⟨ab, ao + p * 2, none⟩ = some (.int .i64 zk.1) ∧ w'.cell? ⟨ab, ao + p * 2 + 1, none⟩ = some (.int .i64 zk.2) ∧ w'.cell? ⟨pb, po + p * 2 + 1, none⟩ = some (.int .i64 pp.er))
                (first | (simp [*]; done) | (simp [go_sem, *]; done)) (first | (go_at_call 47; refine (HVL.out _ (by repeat (first | exact hI.b | apply Below.drew | refine Below.alloc ?_ (by first | omega | (simp; omega)) _))).mono ?_; rintro e w3 ⟨rfl, hb3⟩; have hk3 := kept_of hb3; have q0 : wr.heap.size ≤ w3.heap.size := (by have := hb3.size; simp at this; omega); have q1 : w.heap.size < w3.heap.size := (by have := hb3.size; simp at this; omega); have q2 : kb < w3.heap.size := (by have := hb3.size; simp at this; omega); have q3 : ab < w3.heap.size := (by have := hb3.size; simp at this; omega); have q4 : pb < w3.heap.size := (by have := hb3.size; simp at this; omega); (try (have B1 : Blk w3 wr.heap.size 35 #[.int .i64 0, .int .i64 0] := Blk.on (by first | exact Blk.new _ _ _ | exact (Blk.new _ _ _).alloc _) hb3; obtain ⟨y10, y11, fy10, fy11, ly1⟩ := B1.two)); (try (have B2 : Blk w3 (wr.heap.size + 1) 35 #[.int .i64 0, .int .i64 0] := Blk.on (by exact Blk.new1 _ _ _ _) hb3; obtain ⟨y20, y21, fy20, fy21, ly2⟩ := B2.two))) | fail)
              all_goals (go_wp2_with fail)
              all_goals go_meet
              all_goals refine ⟨_, _, rfl, rfl, rfl, ?_, ?_, ?_, ?_, ?_⟩
              all_goals first
                | (simp [*]; done)
                | (simp [go_sem, *]; done)
                | (repeat (first | exact Below.refl _ _ | apply below_drewN' | apply Below.drew | refine Below.setCell ?_ (by first | omega | (simp; done) | (simp; omega)) _ | refine Below.alloc ?_ (by first | omega | (simp; done) | (simp; omega)) _ | refine Below.trans ?_ (hb3.mono (by first | omega | (simp; done) | (simp; omega)))))
            case rest =>
              obtain ⟨X, Y, rfl, rfl, rfl, d0, d1, d2, d3, hbx⟩ := hcut
              have hI2 := hI.on hbx
              have bE : 0 ≤ 1000 * pp.er ∧ 1000 * pp.er ≤ 10000000 := by omega
              have hst := HST.out
              generalize 1000 * pp.er = E at *
              obtain ⟨r1, hr1⟩ : ∃ r, 1000 * zk.1 = r := ⟨_, rfl⟩
              obtain ⟨r2, hr2⟩ : ∃ r, 1000 * zk.2 = r := ⟨_, rfl⟩
              obtain ⟨u1, hu1⟩ : ∃ r, V1 - E = r := ⟨_, rfl⟩
              obtain ⟨u2, hu2⟩ : ∃ r, r1 - E = r := ⟨_, rfl⟩
              obtain ⟨u3, hu3⟩ : ∃ r, V2 + E = r := ⟨_, rfl⟩
              obtain ⟨u4, hu4⟩ : ∃ r, r2 + E = r := ⟨_, rfl⟩
              rw [hr1, hr2, hu1, hu2, hu3, hu4] at hst
              have k1 : IntKind.i64.wrap (V1 - E) = u1 := (IntWalk.i64_in _ (by omega)).trans hu1
              have k2 : IntKind.i64.wrap (1000 * zk.1) = r1 := (IntWalk.i64_in _ (by omega)).trans hr1
              have k3 : IntKind.i64.wrap (r1 - E) = u2 := (IntWalk.i64_in _ (by omega)).trans hu2
              have k4 : IntKind.i64.wrap (V2 + E) = u3 := (IntWalk.i64_in _ (by omega)).trans hu3
              have k5 : IntKind.i64.wrap (1000 * zk.2) = r2 := (IntWalk.i64_in _ (by omega)).trans hr2
              have k6 : IntKind.i64.wrap (r2 + E) = u4 := (IntWalk.i64_in _ (by omega)).trans hu4
              clear hr1 hr2 hu1 hu2 hu3 hu4
              have HST := Lib.hid hst
              clear hst x0 x1 x2 ka2 c1 c2 c3
              go_upto_region 17 with (fail)
              go_cut [16, 17] (fun s16 s17 wx => s16 = .int .i64 (max u1 u2) ∧ s17 = .int .i64 (min u3 u4) ∧ Below wc.heap.size wc wx)
              case first =>
                go_region_held3 (fun w' => w'.cell? ⟨X, 0, none⟩ = some (.int .i64 V1) ∧ w'.cell? ⟨X, 1, none⟩ = some (.int .i64 V2) ∧ w'.cell? ⟨Y, 0, none⟩ = some (.int .i64 zk.1) ∧ w'.cell? ⟨Y, 1, none⟩ = some (.int .i64 zk.2)) (first | (simp [*]; done) | (simp [go_sem, *]; done)) (first | fail)
                all_goals (try (go_wp2_with fail))
                all_goals go_meet
                all_goals exact ⟨by first | rfl | rw [k2, k1, k3] | simp [k1, k2, k3], by first | rfl | rw [k5, k4, k6] | simp [k4, k5, k6], by repeat (first | exact Below.refl _ _ | apply below_drewN' | apply Below.drew)⟩
              case rest =>
                obtain ⟨rfl, rfl, hby⟩ := hcut
                have hst := HST.out
                generalize max u1 u2 = lo at *
                generalize min u3 u4 = hi at *
                have hI3 := hI2.on hby
                cases bb with
                | false =>
                  have HB1 := Lib.hid (show false = decide (1 + q < leastK t.ps xk.rs xo.rs (p + 1)) by rw [hst]; rfl)
                  clear hst HST
                  go_wp2_with fail
                  go_roundw
                  case rel => exact ⟨p + 1, by omega, by go_num, ⟨false, rfl, HB1⟩, hI3⟩
                  case measure => simp [intOf]; omega
                | true =>
                  have HB1 := Lib.hid (show decide (lo ≤ hi) = decide (1 + q < leastK t.ps xk.rs xo.rs (p + 1)) by rw [hst]; simp)
                  clear hst HST
                  go_wp2_with fail
                  go_roundw
                  case rel => exact ⟨p + 1, by omega, by go_num, ⟨_, rfl, HB1⟩, hI3⟩
                  case measure => simp [intOf]; omega
          · have hpe : p = t.ps.length := by omega
            have H6 := Lib.hid (awake_any (HB.out.on hI.b))
            have hbv : bb = decide (1 + q < L) := by rw [HBV.out, HL.out, hpe]
            clear HBV hpe
            by_cases hg : 1 + q < L
            · obtain rfl : bb = true := by rw [hbv]; simpa using hg
              clear hbv
              first
                | (exfalso; omega)
                | (go_wp2_with fail
                   refine H6.out.mono ?_
                   rintro e w9 ⟨rfl, hb9⟩
                   go_wp2_with fail
                   go_ret
                   refine ⟨?_, hI.b.trans (hb9.mono hI.b.size)⟩
                   first | rfl | (simp; omega))
            · obtain rfl : bb = false := by rw [hbv]; simpa using hg
              clear hbv
              first
                | (exfalso; omega)
                | (go_wp2_with fail
                   refine H6.out.mono ?_
                   rintro e w9 ⟨rfl, hb9⟩
                   go_wp2_with fail
                   go_ret
                   refine ⟨?_, hI.b.trans (hb9.mono hI.b.size)⟩
                   first | rfl | (simp; omega))
  · rw [show decide ((checkT t).2.2 = 0) = false by simpa using hc]
    go_wp2_with fail
    refine H5.out.mono ?_
    rintro e w2 ⟨rfl, hb⟩
    go_wp2_with fail
    go_ret
    exact ⟨rfl, HI.out.b.trans (hb.mono HI.out.b.size)⟩
end Go.Proofs.YtnpajncolkafgaaGreatDoor
