/- The contract of law 9, the walk: for every table, readings and three numbers that stand in memory, the call returns true, and nothing below changes. Conditions: the base of the memory. -/
import Derived.Test.YtnpajncolkafgaaGreatDoorFc
import Derived.Test.YtnpajncolkafgaaGreatDoorAw
import Derived.BigQuiet
namespace Go.Proofs.YtnpajncolkafgaaGreatDoor
open Go.ChangeShapes Go.WideShapes Go.ChangeAt Go.RowKit

/-- What the calls read. -/
theorem TwoS.held {w W : World} {T : TypeId} {a b c d e f : Value} {X : Nat} {p q : Int} (h : TwoS w T #[a, b, c] #[d, e, f] X (p, q) W) :
    W.cell? ⟨w.heap.size, 0, none⟩ = some a ∧ W.cell? ⟨w.heap.size, 1, none⟩ = some b ∧ W.cell? ⟨w.heap.size, 2, none⟩ = some c ∧ W.cell? ⟨w.heap.size + 1, 2, none⟩ = some f ∧ W.cell? ⟨X, 0, none⟩ = some (.int .i64 p) ∧ W.cell? ⟨X, 1, none⟩ = some (.int .i64 q) ∧ TwoS w T #[a, b, c] #[d, e, f] X (p, q) W :=
  ⟨h.tb.cell 0, h.tb.cell 1, h.tb.cell 2, h.xb.cell 2, h.sb.cell 0, h.sb.cell 1, h⟩
theorem val_same {b x : Bool} (h : b = x) : Value.bool x = Value.bool (false || b) := by rw [h]; rfl
theorem kind_num {nk : Nat} (h : 0 < nk) {x : Int} (hx : 0 ≤ x) : ∃ k : Nat, k < nk ∧ x.tmod (nk : Int) = k := by
  have h1 := Int.tmod_nonneg (nk : Int) hx
  have h2 := Int.tmod_lt_of_pos x (show (0 : Int) < nk by omega)
  exact ⟨(x.tmod (nk : Int)).toNat, by omega, by omega⟩

set_option maxRecDepth 100000 in
set_option maxHeartbeats 8000000 in
theorem wreached_any {w : World} (hB : Base w) {pa ka ra : Option Addr} {pc kc rc : Nat} {t : Tab} {l : List Int} (x0 x1 x2 : Int) (hx0 : 0 ≤ x0 ∧ x0 ≤ 65535) (hx1 : 0 ≤ x1 ∧ x1 ≤ 65535) (hx2 : 0 ≤ x2 ∧ x2 ≤ 65535) (h : RdIn w pa ka ra pc kc t l) :
    Calls Tryz.prog 9 #[.agg #[.slice pa t.ps.length pc, .slice ka t.ks.length kc, .int .i64 t.pu], .slice ra l.length rc, .agg #[.int .u16 x0, .int .u16 x1, .int .u16 x2]] w fun e w' => e = .returned (.bool true) ∧ Below w.heap.size w w' := by
  have I0 := Two.new w 68 #[.slice pa t.ps.length pc, .slice ka t.ks.length kc, .int .i64 t.pu] #[.int .u16 x0, .int .u16 x1, .int .u16 x2]
  have hp := h.tab.tab.lp
  have hk := h.tab.tab.lk
  have hl := h.rds.len
  have HI := Lib.hid I0
  have HR := Lib.hid h
  have H1 := Lib.hid (rreadings_any (rc := rc) (h.on I0.b))
  have HW := Lib.hid (fun (W : World) (hW : Below w.heap.size w W) => awake_any (hB.on hW))
  clear h hB I0
  go_enter Tryz.func9, Tryz.ntmps9
  go_wp2_with fail
  refine H1.out.mono ?_
  rintro e w1 ⟨rfl, hb1⟩
  have HI := Lib.hid (HI.out.on hb1)
  obtain ⟨a0, a1, a2, -, -, -, -⟩ := HI.out.tb.three
  obtain ⟨c0, c1, c2, -, -, -, -⟩ := HI.out.xb.three
  clear hb1 H1
  by_cases h0 : lookErr t l = 0
  · have HS := Lib.hid (HR.out.sam h0)
    rw [h0]
    have hp5 := HS.out.val.np
    have hk8 := HS.out.val.nk
    obtain ⟨a, hal, ea⟩ := kind_num (nk := t.ks.length) (by omega) hx0.1
    obtain ⟨b, hbl, eb⟩ := kind_num (nk := t.ks.length) (by omega) hx1.1
    have z1 : ((t.ks.length : Int) == 0) = false := by
      have h : ¬ ((t.ks.length : Int) = 0) := by omega
      simpa using h
    have z2 : ¬ ((t.ks.length : Int) = 0) := by omega
    have HM := Lib.hid (fun (W : World) (hW : Below w.heap.size w W) => mixed_any (rc := rc) (HR.out.on hW) a b)
    have HSO := Lib.hid (fun (W : World) (hW : Below w.heap.size w W) => sold_any (rc := rc) (HR.out.on hW) a)
    have HEX := Lib.hid (fun (W : World) (hW : Below w.heap.size w W) (k : Nat) (hkl : k < t.ks.length) (n : Int) (hn : 0 ≤ n ∧ n ≤ 1000) => rexplains_any (rc := rc) (HS.out.on hW) a k hal hkl n hn)
    have HPA := Lib.hid (fun (W : World) (hW : Below w.heap.size w W) (k m : Nat) (hkl : k < t.ks.length) (hml : m < t.ks.length) => rparts_any (rc := rc) (HS.out.on hW) k m hkl hml 0 1000 (by omega) (by omega) (by omega))
    have HME := Lib.hid (fun (hab : a ≠ b) => mixed_ends h0 hal hbl hab)
    have hso : soldV t l a = ((0, 0), 0, 9) ∨ ((soldV t l a).2.2 = 0 ∧ (0 ≤ (soldV t l a).1.1 ∧ (soldV t l a).1.1 ≤ (soldV t l a).1.2 ∧ (soldV t l a).1.2 ≤ 1000) ∧ endK t l a (soldV t l a).1.1 t.ks.length = true ∧ endK t l a (soldV t l a).1.2 t.ks.length = true) := by
      have he : soldV t l a = if (partsOfV t l a).2 < (partsOfV t l a).1 then ((0, 0), 0, 9) else (partsOfV t l a, judgeV (partsOfV t l a).1 (partsOfV t l a).2 t.pu, 0) := by
        unfold soldV
        rw [if_neg (by simpa using h0), if_neg (by omega), Int.toNat_natCast]
      by_cases hc : (partsOfV t l a).2 < (partsOfV t l a).1
      · rw [if_pos hc] at he; exact .inl he
      · rw [if_neg hc] at he
        rw [he]
        have := sold_ends hc
        exact .inr ⟨rfl, ⟨this.1, this.2.1, this.2.2.1⟩, this.2.2.2.1, this.2.2.2.2⟩
    have HSE := Lib.hid hso
    clear h0 hso
    go_wp2_with fail
    go_quiet (fail)
    go_upto_if 54 with (fail)
    go_cut [12] (fun _ wx => Two w 68 #[.slice pa t.ps.length pc, .slice ka t.ks.length kc, .int .i64 t.pu] #[.int .u16 x0, .int .u16 x1, .int .u16 x2] wx)
    case first =>
      by_cases hab : a = b
      · have hab2 : ((a : Int) != (b : Int)) = false := by simp [hab]
        go_wp2_with fail
        go_meet
        exact HI.out.on (by repeat (first | exact Below.refl _ _ | apply below_drewN' | apply Below.drew))
      · have hab2 : ((a : Int) != (b : Int)) = true := by
          rw [bne_iff_ne]
          exact fun e => hab (by omega)
        have hme := HME.out hab
        have HM1 := Lib.hid (fun (W : World) (hW : Below w.heap.size w W) => HM.out W hW)
        generalize mixedV t l a b = M at *
        obtain ⟨⟨M1, M2⟩, M3⟩ := M
        dsimp only at *
        rcases hme with hme | ⟨rfl, hm1, hm2, hm3, hm4⟩
        · simp only [Prod.mk.injEq] at hme
          obtain ⟨⟨rfl, rfl⟩, rfl⟩ := hme
          go_wp2_with fail
          refine (HM1.out _ (by repeat (first | exact HI.out.b | exact Below.refl _ _ | apply below_drewN' | apply Below.drew))).mono ?_
          rintro e w2 ⟨rfl, hb2⟩
          have HI := Lib.hid ((HI.out.on (by repeat (first | exact Below.refl _ _ | apply below_drewN' | apply Below.drew))).on hb2)
          clear hb2
          go_wp2_with fail
          go_meet
          exact HI.out.on (by repeat (first | exact Below.refl _ _ | apply below_drewN' | apply Below.drew | refine Below.alloc ?_ (by first | omega | (simp; done) | (simp; omega)) _))
        · have HE1 := Lib.hid (fun (W : World) (hW : Below w.heap.size w W) (n : Int) (n1 : M1 ≤ n) (n2 : n ≤ M2) => show Calls Tryz.prog 41 #[.agg #[.slice pa t.ps.length pc, .slice ka t.ks.length kc, .int .i64 t.pu], .slice ra l.length rc, .int .i64 a, .int .i64 b, .int .i64 n] W fun e w' => e = .returned (.bool true) ∧ Below W.heap.size W w' from by
            have h := HEX.out W hW b hbl n (by omega)
            rwa [hm4 n n1 n2] at h)
          clear hm4
          go_wp2_with fail
          refine (HM1.out _ (by repeat (first | exact HI.out.b | exact Below.refl _ _ | apply below_drewN' | apply Below.drew))).mono ?_
          rintro e w2 ⟨rfl, hb2⟩
          have hI : TwoS w 68 #[.slice pa t.ps.length pc, .slice ka t.ks.length kc, .int .i64 t.pu] #[.int .u16 x0, .int .u16 x1, .int .u16 x2] w2.heap.size (M1, M2) (w2.alloc (.cells #[.int .i64 M1, .int .i64 M2] 35)).drew := TwoS.drew ⟨(HI.out.tb.on (by repeat (first | exact Below.refl _ _ | apply below_drewN' | apply Below.drew))).on hb2 |>.alloc _, (HI.out.xb.on (by repeat (first | exact Below.refl _ _ | apply below_drewN' | apply Below.drew))).on hb2 |>.alloc _, Blk.new _ _ _, ((HI.out.b.trans (Below.mono (by repeat (first | exact Below.refl _ _ | apply below_drewN' | apply Below.drew)) HI.out.b.size)).trans (hb2.mono (by have := HI.out.b.size; simp; omega))).alloc (by have := HI.out.b.size; have := hb2.size; simp at this; omega) _⟩
          clear hb2
          go_wp2_with fail
          as_aux_lemma =>
            have n1 : ¬ M1 < 0 := by omega
            have n2 : ¬ 1000 < M2 := by omega
            have n3 : ¬ M2 < M1 := by omega
            have hxw : 0 ≤ IntKind.i64.wrap x2 ∧ IntKind.i64.wrap x2 ≤ 65535 := by rw [show IntKind.i64.wrap x2 = x2 from IntWalk.i64_in _ (by omega)]; exact hx2
            try simp only [List.append]
            go_region_held3 (fun w' => w'.cell? ⟨w.heap.size, 0, none⟩ = some (.slice pa t.ps.length pc) ∧ w'.cell? ⟨w.heap.size, 1, none⟩ = some (.slice ka t.ks.length kc) ∧ w'.cell? ⟨w.heap.size, 2, none⟩ = some (.int .i64 t.pu) ∧ w'.cell? ⟨w.heap.size + 1, 2, none⟩ = some (.int .u16 x2) ∧ w'.cell? ⟨w2.heap.size, 0, none⟩ = some (.int .i64 M1) ∧ w'.cell? ⟨w2.heap.size, 1, none⟩ = some (.int .i64 M2) ∧ TwoS w 68 #[.slice pa t.ps.length pc, .slice ka t.ks.length kc, .int .i64 t.pu] #[.int .u16 x0, .int .u16 x1, .int .u16 x2] w2.heap.size (M1, M2) w')
              ((refine TwoS.held ?_; first | assumption | (go_split_ands; assumption) | (go_split_ands; refine TwoS.alloc ?_ _; assumption) | (go_split_ands; refine TwoS.on ?_ hbN; assumption)))
              (first | (go_at_call 41; go_split_ands; refine (HE1.out _ (TwoS.b (by assumption)) _ (by omega) (by omega)).mono ?_; rintro e w' ⟨rfl, hbN⟩) | (go_at_call 45; go_split_ands; refine (among_some hm1 hm2 (by omega) (by constructor <;> assumption) _).mono ?_; rintro e w' ⟨z, rfl, hz, hbN⟩) | fail)
            all_goals (go_wp2_with fail)
            all_goals go_meet
            all_goals first
              | exact ⟨TwoS.tb (by assumption), TwoS.xb (by assumption), TwoS.b (by assumption)⟩
              | (go_split_ands; exact ⟨TwoS.tb (by assumption), TwoS.xb (by assumption), TwoS.b (by assumption)⟩)
              | exact ⟨TwoS.tb (TwoS.on (by assumption) hbN), TwoS.xb (TwoS.on (by assumption) hbN), TwoS.b (TwoS.on (by assumption) hbN)⟩
              | (go_split_ands; exact ⟨TwoS.tb (TwoS.on (by assumption) hbN), TwoS.xb (TwoS.on (by assumption) hbN), TwoS.b (TwoS.on (by assumption) hbN)⟩)
    case rest =>
      have HI := Lib.hid hcut
      have HSO1 := Lib.hid (HSO.out _ hcut.b)
      have hse := HSE.out
      obtain ⟨a0, a1, a2, -, -, -, -⟩ := hcut.tb.three
      generalize soldV t l a = R at *
      obtain ⟨⟨R1, R2⟩, R3, R4⟩ := R
      dsimp only at *
      clear hcut HSO HSE HM HME
      rcases hse with hse | ⟨rfl, ⟨hr1, hr2, hr3⟩, hend1, hend2⟩
      · simp only [Prod.mk.injEq] at hse
        obtain ⟨⟨rfl, rfl⟩, rfl, rfl⟩ := hse
        have hq := span_same 0 0
        go_wp2_with fail
        refine HSO1.out.mono ?_
        rintro e w3 ⟨rfl, hb3⟩
        have hbw := HI.out.b.trans (hb3.mono HI.out.b.size)
        have H6 := Lib.hid (fun (W : World) (hW : Below w.heap.size w W) => HW.out W hW)
        clear hb3
        go_wp2_with fail
        refine (H6.out _ (by repeat (first | exact hbw | apply below_drewN' | apply Below.drew | refine Below.alloc ?_ (by have := hbw.size; first | omega | (simp; done) | (simp; omega)) _))).mono ?_
        rintro e w5 ⟨rfl, hb⟩
        go_wp2_with fail
        go_ret
        exact ⟨rfl, Below.trans (by repeat (first | exact hbw | apply below_drewN' | apply Below.drew | refine Below.alloc ?_ (by have := hbw.size; first | omega | (simp; done) | (simp; omega)) _)) (hb.mono (by have := hbw.size; simp; omega))⟩
      · have HK := Lib.hid (And.intro hend1 hend2)
        have n1 : ¬ R1 < 0 := by omega
        have n2 : ¬ 1000 < R2 := by omega
        have n3 : ¬ R2 < R1 := by omega
        clear hend1 hend2
        go_wp2_with fail
        refine HSO1.out.mono ?_
        rintro e w3 ⟨rfl, hb3⟩
        have hI : TwoS w 68 #[.slice pa t.ps.length pc, .slice ka t.ks.length kc, .int .i64 t.pu] #[.int .u16 x0, .int .u16 x1, .int .u16 x2] w3.heap.size (R1, R2) (w3.alloc (.cells #[.int .i64 R1, .int .i64 R2] 35)) := ⟨(HI.out.tb.on hb3).alloc _, (HI.out.xb.on hb3).alloc _, Blk.new _ _ _, (HI.out.b.trans (hb3.mono HI.out.b.size)).alloc (by have := HI.out.b.size; have := hb3.size; omega) _⟩
        have HJ := Lib.hid hI
        clear hb3 HSO1 hI
        go_wp2_with fail
        generalize w3.heap.size = X at *
        generalize w3.alloc (.cells #[.int .i64 R1, .int .i64 R2] 35) = w4 at *
        go_loopw [16, 17, 18] (fun v1 v2 i wr => ∃ k : Nat, k ≤ t.ks.length ∧ i = .int .i64 k ∧ (∃ b1 b2 : Bool, v1 = .bool b1 ∧ v2 = .bool b2 ∧ Hid (b1 = endK t l a R1 k ∧ b2 = endK t l a R2 k)) ∧ TwoS w 68 #[.slice pa t.ps.length pc, .slice ka t.ks.length kc, .int .i64 t.pu] #[.int .u16 x0, .int .u16 x1, .int .u16 x2] X (R1, R2) wr) (fun _ _ i _ => t.ks.length - (intOf i).toNat)
        case atStart => exact ⟨0, by omega, rfl, ⟨false, false, rfl, rfl, by show _ ∧ _; exact ⟨rfl, rfl⟩⟩, HJ.out⟩
        case round =>
          obtain ⟨k, hkl, rfl, ⟨b1, b2, rfl, rfl, HV⟩, hI⟩ := hrel
          obtain ⟨a0, a1, a2, -, -, -, -⟩ := hI.tb.three
          obtain ⟨s0, s1, -, -, -⟩ := hI.sb.two
          by_cases hlt : k < t.ks.length
          · have HE1 := Lib.hid (fun (W : World) (hW : Below w.heap.size w W) (n : Int) (hn : 0 ≤ n ∧ n ≤ 1000) => HEX.out W hW k hlt n hn)
            go_upto_region 21 with (fail)
            go_cut [16, 17] (fun s16 s17 wx => s16 = .bool (b1 || endA t l a R1 k) ∧ s17 = .bool (b2 || endA t l a R2 k) ∧ Below wr.heap.size wr wx)
            case first =>
              by_cases hka : k = a
              · subst hka
                have g0 : ((k : Int) != (k : Int)) = false := by simp
                by_cases e1 : R1 = 1000
                · have g1 : (R1 == 1000) = true := by simpa using e1
                  have hA1 : endA t l k R1 k = explB t l k k R1 := by simp [endA, e1]
                  by_cases e2 : R2 = 1000
                  · have g2 : (R2 == 1000) = true := by simpa using e2
                    have hA2 : endA t l k R2 k = explB t l k k R2 := by simp [endA, e2]
                    clear e1 e2
                    cases b1 <;> cases b2
                    all_goals
                      as_aux_lemma =>
                        go_wp2_with (first | (go_at_call 41; first | (refine (HE1.out _ hI.b _ (by omega)).mono ?_; rintro e wa ⟨rfl, hbA⟩; have hIA := hI.on hbA; obtain ⟨q0, q1, q2, -, -, -, -⟩ := hIA.tb.three; obtain ⟨v0, v1, -, -, -⟩ := hIA.sb.two) | (refine (HE1.out _ hIA.b _ (by omega)).mono ?_; rintro e wb ⟨rfl, hbB⟩)) | fail)
                        go_meet
                        first
                          | exact ⟨val_same hA1, val_same hA2, hbA.trans (hbB.mono hbA.size)⟩
                          | exact ⟨val_same hA1, rfl, hbA⟩
                          | exact ⟨rfl, val_same hA2, hbA⟩
                          | exact ⟨val_same hA1, val_same hA2, hbA⟩
                          | exact ⟨rfl, rfl, Below.refl _ _⟩
                          | exact ⟨val_same hA1, rfl, Below.refl _ _⟩
                          | exact ⟨rfl, val_same hA2, Below.refl _ _⟩
                          | exact ⟨val_same hA1, val_same hA2, Below.refl _ _⟩
                  · have g2 : (R2 == 1000) = false := by simpa using e2
                    have hA2 : endA t l k R2 k = false := by simp [endA, e2]
                    clear e1 e2
                    cases b1 <;> cases b2
                    all_goals
                      as_aux_lemma =>
                        go_wp2_with (first | (go_at_call 41; first | (refine (HE1.out _ hI.b _ (by omega)).mono ?_; rintro e wa ⟨rfl, hbA⟩; have hIA := hI.on hbA; obtain ⟨q0, q1, q2, -, -, -, -⟩ := hIA.tb.three; obtain ⟨v0, v1, -, -, -⟩ := hIA.sb.two) | (refine (HE1.out _ hIA.b _ (by omega)).mono ?_; rintro e wb ⟨rfl, hbB⟩)) | fail)
                        go_meet
                        first
                          | exact ⟨val_same hA1, val_same hA2, hbA.trans (hbB.mono hbA.size)⟩
                          | exact ⟨val_same hA1, rfl, hbA⟩
                          | exact ⟨rfl, val_same hA2, hbA⟩
                          | exact ⟨val_same hA1, val_same hA2, hbA⟩
                          | exact ⟨rfl, rfl, Below.refl _ _⟩
                          | exact ⟨val_same hA1, rfl, Below.refl _ _⟩
                          | exact ⟨rfl, val_same hA2, Below.refl _ _⟩
                          | exact ⟨val_same hA1, val_same hA2, Below.refl _ _⟩
                · have g1 : (R1 == 1000) = false := by simpa using e1
                  have hA1 : endA t l k R1 k = false := by simp [endA, e1]
                  by_cases e2 : R2 = 1000
                  · have g2 : (R2 == 1000) = true := by simpa using e2
                    have hA2 : endA t l k R2 k = explB t l k k R2 := by simp [endA, e2]
                    clear e1 e2
                    cases b1 <;> cases b2
                    all_goals
                      as_aux_lemma =>
                        go_wp2_with (first | (go_at_call 41; first | (refine (HE1.out _ hI.b _ (by omega)).mono ?_; rintro e wa ⟨rfl, hbA⟩; have hIA := hI.on hbA; obtain ⟨q0, q1, q2, -, -, -, -⟩ := hIA.tb.three; obtain ⟨v0, v1, -, -, -⟩ := hIA.sb.two) | (refine (HE1.out _ hIA.b _ (by omega)).mono ?_; rintro e wb ⟨rfl, hbB⟩)) | fail)
                        go_meet
                        first
                          | exact ⟨val_same hA1, val_same hA2, hbA.trans (hbB.mono hbA.size)⟩
                          | exact ⟨val_same hA1, rfl, hbA⟩
                          | exact ⟨rfl, val_same hA2, hbA⟩
                          | exact ⟨val_same hA1, val_same hA2, hbA⟩
                          | exact ⟨rfl, rfl, Below.refl _ _⟩
                          | exact ⟨val_same hA1, rfl, Below.refl _ _⟩
                          | exact ⟨rfl, val_same hA2, Below.refl _ _⟩
                          | exact ⟨val_same hA1, val_same hA2, Below.refl _ _⟩
                  · have g2 : (R2 == 1000) = false := by simpa using e2
                    have hA2 : endA t l k R2 k = false := by simp [endA, e2]
                    clear e1 e2
                    cases b1 <;> cases b2
                    all_goals
                      as_aux_lemma =>
                        go_wp2_with (first | (go_at_call 41; first | (refine (HE1.out _ hI.b _ (by omega)).mono ?_; rintro e wa ⟨rfl, hbA⟩; have hIA := hI.on hbA; obtain ⟨q0, q1, q2, -, -, -, -⟩ := hIA.tb.three; obtain ⟨v0, v1, -, -, -⟩ := hIA.sb.two) | (refine (HE1.out _ hIA.b _ (by omega)).mono ?_; rintro e wb ⟨rfl, hbB⟩)) | fail)
                        go_meet
                        first
                          | exact ⟨val_same hA1, val_same hA2, hbA.trans (hbB.mono hbA.size)⟩
                          | exact ⟨val_same hA1, rfl, hbA⟩
                          | exact ⟨rfl, val_same hA2, hbA⟩
                          | exact ⟨val_same hA1, val_same hA2, hbA⟩
                          | exact ⟨rfl, rfl, Below.refl _ _⟩
                          | exact ⟨val_same hA1, rfl, Below.refl _ _⟩
                          | exact ⟨rfl, val_same hA2, Below.refl _ _⟩
                          | exact ⟨val_same hA1, val_same hA2, Below.refl _ _⟩
              · have g0 : ((k : Int) != (a : Int)) = true := by
                  rw [bne_iff_ne]
                  exact fun e => hka (by omega)
                have hA1 : endA t l a R1 k = explB t l a k R1 := by simp [endA, hka]
                have hA2 : endA t l a R2 k = explB t l a k R2 := by simp [endA, hka]
                clear hka
                cases b1 <;> cases b2
                all_goals
                  as_aux_lemma =>
                    go_wp2_with (first | (go_at_call 41; first | (refine (HE1.out _ hI.b _ (by omega)).mono ?_; rintro e wa ⟨rfl, hbA⟩; have hIA := hI.on hbA; obtain ⟨q0, q1, q2, -, -, -, -⟩ := hIA.tb.three; obtain ⟨v0, v1, -, -, -⟩ := hIA.sb.two) | (refine (HE1.out _ hIA.b _ (by omega)).mono ?_; rintro e wb ⟨rfl, hbB⟩)) | fail)
                    go_meet
                    first
                      | exact ⟨val_same hA1, val_same hA2, hbA.trans (hbB.mono hbA.size)⟩
                      | exact ⟨val_same hA1, rfl, hbA⟩
                      | exact ⟨rfl, val_same hA2, hbA⟩
                      | exact ⟨val_same hA1, val_same hA2, hbA⟩
                      | exact ⟨rfl, rfl, Below.refl _ _⟩
                      | exact ⟨val_same hA1, rfl, Below.refl _ _⟩
                      | exact ⟨rfl, val_same hA2, Below.refl _ _⟩
                      | exact ⟨val_same hA1, val_same hA2, Below.refl _ _⟩
            case rest =>
              obtain ⟨rfl, rfl, hbx⟩ := hcut
              have hJ := hI.on hbx
              have HV1 := Lib.hid (show (b1 || endA t l a R1 k) = endI t l a R1 k 0 ∧ (b2 || endA t l a R2 k) = endI t l a R2 k 0 by
                rw [endI_zero, endI_zero, ← HV.out.1, ← HV.out.2]; exact ⟨rfl, rfl⟩)
              generalize (b1 || endA t l a R1 k) = d1 at *
              generalize (b2 || endA t l a R2 k) = d2 at *
              clear hbx HV s0 s1 a0 a1 a2 HE1
              have HJ := Lib.hid hJ
              go_wp2_with fail
              go_loopw [16, 17, 19] (fun v1 v2 i wq => ∃ m : Nat, m ≤ t.ks.length ∧ i = .int .i64 m ∧ (∃ b1 b2 : Bool, v1 = .bool b1 ∧ v2 = .bool b2 ∧ Hid (b1 = endI t l a R1 k m ∧ b2 = endI t l a R2 k m)) ∧ TwoS w 68 #[.slice pa t.ps.length pc, .slice ka t.ks.length kc, .int .i64 t.pu] #[.int .u16 x0, .int .u16 x1, .int .u16 x2] X (R1, R2) wq) (fun _ _ i _ => t.ks.length - (intOf i).toNat)
              case atStart => exact ⟨0, by omega, rfl, ⟨d1, d2, rfl, rfl, HV1⟩, HJ.out⟩
              case round =>
                obtain ⟨m, hml, rfl, ⟨c1, c2, rfl, rfl, HU⟩, hQ⟩ := hrel
                obtain ⟨a0, a1, a2, -, -, -, -⟩ := hQ.tb.three
                obtain ⟨s0, s1, -, -, -⟩ := hQ.sb.two
                by_cases hmt : m < t.ks.length
                · have HP := Lib.hid (HPA.out _ hQ.b k m hlt hmt)
                  have HN1 := Lib.hid (show endI t l a R1 k (m + 1) = (c1 || endM t l a R1 k m) ∧ endI t l a R2 k (m + 1) = (c2 || endM t l a R2 k m) by
                    rw [endI_succ, endI_succ, ← HU.out.1, ← HU.out.2]; exact ⟨rfl, rfl⟩)
                  have hM1 : endM t l a R1 k m = ((partsR t l k m 0 1000).2 && (decide (k ≠ a) && decide (m ≠ a)) && decide (R1 = 0)) := rfl
                  have hM2 : endM t l a R2 k m = ((partsR t l k m 0 1000).2 && (decide (k ≠ a) && decide (m ≠ a)) && decide (R2 = 0)) := rfl
                  rw [hM1, hM2] at HN1
                  generalize partsR t l k m 0 1000 = Q at *
                  obtain ⟨⟨Q1, Q2⟩, Q3⟩ := Q
                  dsimp only at *
                  clear hM1 hM2 HU
                  go_wp2_with fail
                  refine HP.out.mono ?_
                  rintro e w6 ⟨rfl, hb6⟩
                  have hQ6 := (hQ.on hb6).alloc (.cells #[.int .i64 Q1, .int .i64 Q2] 35)
                  obtain ⟨s0, s1, -, -, -⟩ := hQ6.sb.two
                  have HQ := Lib.hid hQ6
                  clear HP hb6 hQ6 a0 a1 a2
                  go_upto_region 26 with (fail)
                  go_cut [22] (fun s22 wx => s22 = .bool (Q3 && (decide (k ≠ a) && decide (m ≠ a))) ∧ wx = w6.alloc (.cells #[.int .i64 Q1, .int .i64 Q2] 35))
                  case first =>
                    clear s0 s1 HQ HN1
                    cases Q3 with
                    | false =>
                      go_wp2_with fail
                      go_meet
                      exact ⟨rfl, rfl⟩
                    | true =>
                      by_cases hka : k = a
                      · have g0 : ((k : Int) != (a : Int)) = false := by simp [hka]
                        go_wp2_with fail
                        go_meet
                        exact ⟨congrArg Value.bool (by simp [hka]), rfl⟩
                      · have g0 : ((k : Int) != (a : Int)) = true := by
                          rw [bne_iff_ne]
                          exact fun e => hka (by omega)
                        by_cases hma : m = a
                        · have g1 : ((m : Int) != (a : Int)) = false := by simp [hma]
                          go_wp2_with fail
                          go_meet
                          exact ⟨congrArg Value.bool (by simp [hma]), rfl⟩
                        · have g1 : ((m : Int) != (a : Int)) = true := by
                            rw [bne_iff_ne]
                            exact fun e => hma (by omega)
                          go_wp2_with fail
                          go_meet
                          exact ⟨congrArg Value.bool (by simp [hka, hma]), rfl⟩
                  case rest =>
                    obtain ⟨rfl, rfl⟩ := hcut
                    generalize (Q3 && (decide (k ≠ a) && decide (m ≠ a))) = o at *
                    obtain ⟨hn1, hn2⟩ := HN1.out
                    clear HN1
                    cases o with
                    | false =>
                      cases c1 <;> cases c2
                      all_goals
                        have HN2 := Lib.hid (And.intro hn1.symm hn2.symm)
                        clear hn1 hn2
                        go_wp2_with fail
                        go_quiet (fail)
                        go_wp2_with fail
                        go_roundw
                        case rel => exact ⟨m + 1, by omega, by go_num, ⟨_, _, rfl, rfl, HN2⟩, HQ.out.on (by repeat (first | exact Below.refl _ _ | apply below_drewN' | apply Below.drew))⟩
                        case measure => simp [intOf]; omega
                    | true =>
                      by_cases e1 : R1 = 0
                      · have g1 : (R1 == 0) = true := by simpa using e1
                        rw [decide_eq_true e1] at hn1
                        by_cases e2 : R2 = 0
                        · have g2 : (R2 == 0) = true := by simpa using e2
                          rw [decide_eq_true e2] at hn2
                          clear e1 e2
                          cases c1 <;> cases c2
                          all_goals
                            have HN2 := Lib.hid (And.intro hn1.symm hn2.symm)
                            clear hn1 hn2
                            go_wp2_with fail
                            go_quiet (fail)
                            go_wp2_with fail
                            go_roundw
                            case rel => exact ⟨m + 1, by omega, by go_num, ⟨_, _, rfl, rfl, HN2⟩, HQ.out.on (by repeat (first | exact Below.refl _ _ | apply below_drewN' | apply Below.drew))⟩
                            case measure => simp [intOf]; omega
                        · have g2 : (R2 == 0) = false := by simpa using e2
                          rw [decide_eq_false e2] at hn2
                          clear e1 e2
                          cases c1 <;> cases c2
                          all_goals
                            have HN2 := Lib.hid (And.intro hn1.symm hn2.symm)
                            clear hn1 hn2
                            go_wp2_with fail
                            go_quiet (fail)
                            go_wp2_with fail
                            go_roundw
                            case rel => exact ⟨m + 1, by omega, by go_num, ⟨_, _, rfl, rfl, HN2⟩, HQ.out.on (by repeat (first | exact Below.refl _ _ | apply below_drewN' | apply Below.drew))⟩
                            case measure => simp [intOf]; omega
                      · have g1 : (R1 == 0) = false := by simpa using e1
                        rw [decide_eq_false e1] at hn1
                        by_cases e2 : R2 = 0
                        · have g2 : (R2 == 0) = true := by simpa using e2
                          rw [decide_eq_true e2] at hn2
                          clear e1 e2
                          cases c1 <;> cases c2
                          all_goals
                            have HN2 := Lib.hid (And.intro hn1.symm hn2.symm)
                            clear hn1 hn2
                            go_wp2_with fail
                            go_quiet (fail)
                            go_wp2_with fail
                            go_roundw
                            case rel => exact ⟨m + 1, by omega, by go_num, ⟨_, _, rfl, rfl, HN2⟩, HQ.out.on (by repeat (first | exact Below.refl _ _ | apply below_drewN' | apply Below.drew))⟩
                            case measure => simp [intOf]; omega
                        · have g2 : (R2 == 0) = false := by simpa using e2
                          rw [decide_eq_false e2] at hn2
                          clear e1 e2
                          cases c1 <;> cases c2
                          all_goals
                            have HN2 := Lib.hid (And.intro hn1.symm hn2.symm)
                            clear hn1 hn2
                            go_wp2_with fail
                            go_quiet (fail)
                            go_wp2_with fail
                            go_roundw
                            case rel => exact ⟨m + 1, by omega, by go_num, ⟨_, _, rfl, rfl, HN2⟩, HQ.out.on (by repeat (first | exact Below.refl _ _ | apply below_drewN' | apply Below.drew))⟩
                            case measure => simp [intOf]; omega
                · have HV2 := Lib.hid (show c1 = endK t l a R1 (k + 1) ∧ c2 = endK t l a R2 (k + 1) by
                    have hme : m = t.ks.length := by omega
                    rw [← endI_end, ← endI_end, ← hme]
                    exact HU.out)
                  clear HU
                  go_wp2_with fail
                  go_roundw
                  case rel => exact ⟨k + 1, by omega, by go_num, ⟨c1, c2, rfl, rfl, HV2⟩, hQ⟩
                  case measure => simp [intOf]; omega
          · have hke : k = t.ks.length := by omega
            obtain ⟨h1, h2⟩ := HV.out
            rw [hke] at h1 h2
            replace h1 := h1.trans HK.out.1
            replace h2 := h2.trans HK.out.2
            subst h1 h2
            clear HV hke
            go_wp2_with fail
            refine (HW.out _ hI.b).mono ?_
            rintro e w5 ⟨rfl, hb⟩
            go_wp2_with fail
            go_ret
            exact ⟨rfl, hI.b.trans (hb.mono hI.b.size)⟩
  · generalize hz : lookErr t l = z at *
    have hz2 : (z != 0) = true := by simpa using h0
    have H2 := Lib.hid (setsT_any (rc := rc) (HR.out.on HI.out.b))
    have hT : setsT t l = ([], z) := by unfold setsT; rw [hz, if_pos h0]
    rw [hT] at H2
    clear hT h0 hz
    go_wp2_with fail
    refine H2.out.mono ?_
    rintro e w2 ⟨v, rfl, hI2, hb2⟩
    have HI := Lib.hid (HI.out.on hb2)
    obtain ⟨vA, vn, vc, rfl⟩ : ∃ A n c, v = .slice A n c := by
      rcases hI2.2 with ⟨hv, _⟩ | ⟨g, cap, cur, hv, _⟩
      · exact ⟨_, _, _, hv⟩
      · exact ⟨_, _, _, hv⟩
    clear hI2 hb2 H2
    go_wp2_with fail
    refine (HW.out _ HI.out.b).mono ?_
    rintro e w5 ⟨rfl, hb⟩
    go_wp2_with fail
    go_ret
    exact ⟨rfl, HI.out.b.trans (hb.mono HI.out.b.size)⟩
end Go.Proofs.YtnpajncolkafgaaGreatDoor
