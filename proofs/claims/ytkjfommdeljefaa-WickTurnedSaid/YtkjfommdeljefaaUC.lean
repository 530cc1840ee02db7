/- WickTurned: the law. -/
import Derived.Test.YtkjfommdeljefaaUE
import Derived.Test.YtkjfommdeljefaaT5
import Derived.Test.YtkjfommdeljefaaQS
import Derived.Test.YtkjfommdeljefaaQV
namespace Go.Proofs.Ytkjfommdeljefaa
open Go.RowKit Go.Shelf Go.Maps
attribute [local go_sem] Oper.semAt_some


theorem tm_nat (a b n : Nat) : ((a : Int) + (b : Int)).tmod (n : Int) = (((a + b) % n : Nat) : Int) := by
  rw [Int.tmod_eq_emod_of_nonneg (by omega), Int.natCast_emod, Int.natCast_add]
theorem rot_mem {ks : List Wk} {b : Nat} {x : Wk} (h : x ∈ rotW ks b) : x ∈ ks := by
  obtain ⟨i, hi⟩ := List.getElem?_of_mem h
  have hl : i < ks.length := by have := (List.getElem?_eq_some_iff.1 hi).1; rw [rot_len] at this; exact this
  rw [rot_get hl] at hi
  exact List.mem_of_getElem? hi
theorem WksOut.in_ {B cap : Nat} {w : World} {A : Option Addr} {ks : List Wk} {b n : Nat} (h : WksOut B w (.slice A n cap) (rotW ks b)) (hn : ∀ x ∈ ks, x.nm.size ≤ 9223372036854775807) : WksIn w A cap (rotW ks b) := by
  obtain ⟨_, r2, r3, r4⟩ := h.reads
  exact ⟨r2, by unfold maxLen at r4; omega, r3, fun x hx => hn x (rot_mem hx)⟩
theorem map_get {m : List Int} {mN : List Nat} (h : m = mN.map Int.ofNat) {t : Nat} (ht : t < m.length) : ∃ y : Nat, mN[t]? = some y ∧ m[t]? = some (y : Int) := by
  subst h
  rw [List.length_map] at ht
  exact ⟨mN[t], List.getElem?_eq_getElem ht, by rw [List.getElem?_map, List.getElem?_eq_getElem ht]; rfl⟩
theorem fil_yes {mN : List Nat} {b n K t y : Nat} (hy : mN[t]? = some y) (h : (y + b) % n = K) (bk : List Nat) : (bk ++ ((mN.take (t + 1)).filter (fun i => (i + b) % n == K)).map (fun _ => K)).map Int.ofNat = (bk ++ ((mN.take t).filter (fun i => (i + b) % n == K)).map (fun _ => K)).map Int.ofNat ++ [(K : Int)] := by
  have e : ((y + b) % n == K) = true := by simpa using h
  rw [List.take_add_one, hy]
  simp [List.filter_append, e]
theorem fil_no {mN : List Nat} {b n K t y : Nat} (hy : mN[t]? = some y) (h : (y + b) % n ≠ K) (bk : List Nat) : (bk ++ ((mN.take (t + 1)).filter (fun i => (i + b) % n == K)).map (fun _ => K)).map Int.ofNat = (bk ++ ((mN.take t).filter (fun i => (i + b) % n == K)).map (fun _ => K)).map Int.ofNat := by
  have e : ((y + b) % n == K) = false := by simpa using h
  rw [List.take_add_one, hy]
  simp [List.filter_append, e]

set_option maxRecDepth 100000 in
set_option maxHeartbeats 2000000 in
theorem lto_err {w : World} {p : Sp} {c : Cd} {bn : Nat} (h : ShIn w p) (he : askCE p.s c ≠ 0) :
    Calls Try.prog 13 #[.agg #[.slice p.ka p.s.ks.length p.kc, .slice p.xa p.s.xs.length p.xc, .int .i64 p.s.flo, .int .i64 p.s.fhi, .int .i64 p.s.plo, .int .i64 p.s.phi], .agg #[.int .i64 c.wax, .int .i64 c.dia, .int .i64 c.dra, .int .i64 c.clo, .int .i64 c.chi], .int .u8 (bn : Int)] w fun e w' => e = .returned (.bool true) ∧ Below w.heap.size w w' := by
  have hb0 := ((Bx.nil w).alloc #[.slice p.ka p.s.ks.length p.kc, .slice p.xa p.s.xs.length p.xc, .int .i64 p.s.flo, .int .i64 p.s.fhi, .int .i64 p.s.plo, .int .i64 p.s.phi] 27).alloc #[.int .i64 c.wax, .int .i64 c.dia, .int .i64 c.dra, .int .i64 c.clo, .int .i64 c.chi] 34
  simp only [World.size_alloc] at hb0
  have HB := Lib.hid hb0
  have HC := Lib.hid (fun (W : World) (hW : Below w.heap.size w W) => rcandle_any c (h.on hW))
  have HU := Lib.hid (fun (W : World) (hW : Below w.heap.size w W) => suits_err (h.on hW) he)
  have hz : (askCE p.s c != 0) = true := by simpa using he
  clear h he hb0
  generalize askCE p.s c = z at *
  go_enter Try.func13, Try.ntmps13
  go_wp2_with (first
    | (go_at_call 26; (with_reducible refine (HU.out _ HB.out.b).mono ?_); rintro e w1 ⟨rfl, hb⟩; have HD := Lib.hid (HB.out.on hb); clear hb; have sb : Blk _ (w.heap.size) 27 #[.slice p.ka p.s.ks.length p.kc, .slice p.xa p.s.xs.length p.xc, .int .i64 p.s.flo, .int .i64 p.s.fhi, .int .i64 p.s.plo, .int .i64 p.s.phi] := HD.out.get (by simp); have s0 := sb.cell 0; have s1 := sb.cell 1; have s2 := sb.cell 2; have s3 := sb.cell 3; have s4 := sb.cell 4; have s5 := sb.cell 5; have sl := sb.lt; clear sb; have cb : Blk _ (w.heap.size + 1) 34 #[.int .i64 c.wax, .int .i64 c.dia, .int .i64 c.dra, .int .i64 c.clo, .int .i64 c.chi] := HD.out.get (by simp); have c0 := cb.cell 0; have c1 := cb.cell 1; have c2 := cb.cell 2; have c3 := cb.cell 3; have c4 := cb.cell 4; have cl := cb.lt; clear cb)
    | (go_at_call 36; (with_reducible refine (HC.out _ HD.out.b).mono ?_); rintro e w2 ⟨rfl, hb⟩; have HE := Lib.hid (HD.out.on hb); clear hb s0 s1 s2 s3 s4 s5 sl c0 c1 c2 c3 c4 cl)
    | (go_at_call 16; (refine (lawake_any _).mono ?_); rintro e w9 ⟨rfl, hb⟩; have HZ := Lib.hid (HE.out.b.trans (hb.mono HE.out.b.size)); clear hb)
    | fail)
  go_ret
  exact ⟨rfl, HZ.out⟩

set_option maxRecDepth 100000 in
set_option maxHeartbeats 4000000 in
theorem lto_ok {w : World} {p : Sp} {c : Cd} {bn : Nat} {lN mN : List Nat} {l m : List Int} (h : ShIn w p) (hks : p.s.ks.length ≤ 12) (hk0 : 1 ≤ p.s.ks.length) (hbn : bn ≤ 255) (hml : m.length ≤ 12)
    (C0 : Hid (∀ W, Below w.heap.size w W → Calls Try.prog 26 #[.agg #[.slice p.ka p.s.ks.length p.kc, .slice p.xa p.s.xs.length p.xc, .int .i64 p.s.flo, .int .i64 p.s.fhi, .int .i64 p.s.plo, .int .i64 p.s.phi], .agg #[.int .i64 c.wax, .int .i64 c.dia, .int .i64 c.dra, .int .i64 c.clo, .int .i64 c.chi]] W (ListOut W l)))
    (C1 : Hid (∀ W, Below w.heap.size w W → Calls Try.prog 36 #[.agg #[.slice p.ka p.s.ks.length p.kc, .slice p.xa p.s.xs.length p.xc, .int .i64 p.s.flo, .int .i64 p.s.fhi, .int .i64 p.s.plo, .int .i64 p.s.phi], .agg #[.int .i64 c.wax, .int .i64 c.dia, .int .i64 c.dra, .int .i64 c.clo, .int .i64 c.chi]] W fun e w' => e = .returned (.int .i64 0) ∧ Below W.heap.size W w'))
    (C2 : Hid (∀ W A cap, Below w.heap.size w W → WksIn W A cap (rotW p.s.ks bn) → Calls Try.prog 26 #[.agg #[.slice A p.s.ks.length cap, .slice p.xa p.s.xs.length p.xc, .int .i64 p.s.flo, .int .i64 p.s.fhi, .int .i64 p.s.plo, .int .i64 p.s.phi], .agg #[.int .i64 c.wax, .int .i64 c.dia, .int .i64 c.dra, .int .i64 c.clo, .int .i64 c.chi]] W (ListOut W m)))
    (HL : Hid (l = lN.map Int.ofNat)) (HMN : Hid (m = mN.map Int.ofNat)) (HBK : Hid (backN mN bn p.s.ks.length p.s.ks.length = lN)) (HMB : Hid (∀ y ∈ mN, y < p.s.ks.length)) (hlm : ((l.length : Int) != (m.length : Int)) = false) :
    Calls Try.prog 13 #[.agg #[.slice p.ka p.s.ks.length p.kc, .slice p.xa p.s.xs.length p.xc, .int .i64 p.s.flo, .int .i64 p.s.fhi, .int .i64 p.s.plo, .int .i64 p.s.phi], .agg #[.int .i64 c.wax, .int .i64 c.dia, .int .i64 c.dra, .int .i64 c.clo, .int .i64 c.chi], .int .u8 (bn : Int)] w fun e w' => e = .returned (.bool true) ∧ Below w.heap.size w w' := by
  have hb0 := ((Bx.nil w).alloc #[.slice p.ka p.s.ks.length p.kc, .slice p.xa p.s.xs.length p.xc, .int .i64 p.s.flo, .int .i64 p.s.fhi, .int .i64 p.s.plo, .int .i64 p.s.phi] 27).alloc #[.int .i64 c.wax, .int .i64 c.dia, .int .i64 c.dra, .int .i64 c.clo, .int .i64 c.chi] 34
  simp only [World.size_alloc] at hb0
  have HB := Lib.hid hb0
  have H0 := Lib.hid h
  have g0 : IntKind.i64.wrap (bn : Int) = (bn : Int) := IntWalk.i64_in _ (by omega)
  have n0 : ¬ ((p.s.ks.length : Int) = 0) := by omega
  have n1 : ¬ (p.s.ks = []) := fun e => by rw [e] at hk0; exact absurd hk0 (by decide)
  clear hb0 h
  go_enter Try.func13, Try.ntmps13
  go_wp2_with (first
    | (go_at_call 26; (with_reducible refine (C0.out _ HB.out.b).mono ?_); rintro e w1 ⟨v, rfl, hv, hb⟩; obtain ⟨Al, lcap, rfl, hi1⟩ := hv.in_; have HD := Lib.hid (HB.out.on hb); have HL1 := Lib.hid hi1; clear hb hv hi1; have sb : Blk _ (w.heap.size) 27 #[.slice p.ka p.s.ks.length p.kc, .slice p.xa p.s.xs.length p.xc, .int .i64 p.s.flo, .int .i64 p.s.fhi, .int .i64 p.s.plo, .int .i64 p.s.phi] := HD.out.get (by simp); have s0 := sb.cell 0; have s1 := sb.cell 1; have s2 := sb.cell 2; have s3 := sb.cell 3; have s4 := sb.cell 4; have s5 := sb.cell 5; have sl := sb.lt; clear sb; have cb : Blk _ (w.heap.size + 1) 34 #[.int .i64 c.wax, .int .i64 c.dia, .int .i64 c.dra, .int .i64 c.clo, .int .i64 c.chi] := HD.out.get (by simp); have c0 := cb.cell 0; have c1 := cb.cell 1; have c2 := cb.cell 2; have c3 := cb.cell 3; have c4 := cb.cell 4; have cl := cb.lt; clear cb)
    | (go_at_call 36; (with_reducible refine (C1.out _ HD.out.b).mono ?_); rintro e w2 ⟨rfl, hb⟩; have HE := Lib.hid (HD.out.on hb); have HL2 := Lib.hid (HL1.out.on hb); clear hb s0 s1 s2 s3 s4 s5 sl c0 c1 c2 c3 c4 cl; have sb : Blk _ (w.heap.size) 27 #[.slice p.ka p.s.ks.length p.kc, .slice p.xa p.s.xs.length p.xc, .int .i64 p.s.flo, .int .i64 p.s.fhi, .int .i64 p.s.plo, .int .i64 p.s.phi] := HE.out.get (by simp); have s0 := sb.cell 0; have s1 := sb.cell 1; have s2 := sb.cell 2; have s3 := sb.cell 3; have s4 := sb.cell 4; have s5 := sb.cell 5; have sl := sb.lt; clear sb)
    | fail)
  clear s0 s1 s2 s3 s4 s5 sl
  go_loopw [10, 11] (fun v i W => ∃ k : Nat, k ≤ p.s.ks.length ∧ i = .int .i64 (k : Int) ∧ Hid (OtM w2 v ((rotW p.s.ks bn).take k) W)) (fun _ i _ => p.s.ks.length - (intOf i).toNat)
  case atStart => exact ⟨0, by omega, rfl, ⟨WksOut.nil _ _, Below.refl _ _⟩⟩
  case round =>
    obtain ⟨k, hk, rfl, HO⟩ := hrel
    by_cases hlt : k < p.s.ks.length
    · have hzm : (k + bn) % p.s.ks.length < p.s.ks.length := Nat.mod_lt _ (by omega)
      obtain ⟨x, hx⟩ : ∃ x, p.s.ks[(k + bn) % p.s.ks.length]? = some x := ⟨_, List.getElem?_eq_getElem hzm⟩
      obtain ⟨b, o, hka, hbb, kc0, kc1, kc2, kc3⟩ := wks_at (H0.out.on HE.out.b).ks.at_ hx
      obtain ⟨lk, hlk⟩ : ∃ lk, lk = (rotW p.s.ks bn).take k := ⟨_, rfl⟩
      rw [← hlk] at HO
      have HT := Lib.hid (show lk ++ [x] = (rotW p.s.ks bn).take (k + 1) by rw [List.take_add_one, rot_get hlt, hx, hlk]; rfl)
      have hll : lk.length < 1000000 := by rw [hlk, List.length_take]; omega
      have HLL := Lib.hid hll
      have HKA := Lib.hid hka
      have HKC := Lib.hid (And.intro hbb (And.intro kc0 (And.intro kc1 (And.intro kc2 kc3))))
      have HZM := Lib.hid hzm
      clear hlk hka hbb kc0 kc1 kc2 kc3 hx hll hzm
      go_wp2_with fail
      refine wp_of_eq (lt9_region (w1 := w2) (l := lk) (P := w.heap.size) (b := b) (o := o) (m := p.s.ks.length) (kc := p.kc) (kk := k) (z := (k + bn) % p.s.ks.length) (bz := (bn : Int)) (p := p) (x := x) HLL.out (by omega) HZM.out g0 (IntWalk.i64_in _ (by omega)) (tm_nat _ _ _) (IntWalk.i64_in _ (by have := HZM.out; omega)) (fun W h => by have hq : Blk W w.heap.size 27 #[.slice p.ka p.s.ks.length p.kc, .slice p.xa p.s.xs.length p.xc, .int .i64 p.s.flo, .int .i64 p.s.fhi, .int .i64 p.s.plo, .int .i64 p.s.phi] := (HE.out.get (by simp)).on h.b; rwa [HKA.out] at hq) (fun W h => by obtain ⟨e0, e1, e2, e3, e4⟩ := HKC.out; exact ⟨(h.b.cell (p := ⟨b, _, none⟩) e0).trans e1, (h.b.cell (p := ⟨b, _, none⟩) e0).trans e2, (h.b.cell (p := ⟨b, _, none⟩) e0).trans e3, (h.b.cell (p := ⟨b, _, none⟩) e0).trans e4⟩) HO (Lib.hid fun u g cap W ho hM => ?_)) (by kernel_rfl)
      have HO2 : Hid (OtM w2 (.slice (some ⟨g, 0, none⟩) (lk.length + 1) cap) ((rotW p.s.ks bn).take (k + 1)) W) := ⟨by rw [← HT.out]; exact ho, hM⟩
      clear ho hM
      go_wp2_with fail
      go_roundw
      case rel => exact ⟨k + 1, by omega, by go_num, HO2⟩
      case measure => exact meas_one hlt
    · have hO := HO.out
      rw [List.take_of_length_le (by rw [rot_len]; omega)] at hO
      obtain ⟨A, cap, hv⟩ := own_slice hO.own
      rw [rot_len] at hv
      subst hv
      have HIN := Lib.hid (hO.own.in_ H0.out.ks.nm)
      have HG := Lib.hid (HE.out.on hO.b)
      have HL3 := Lib.hid (HL2.out.on hO.b)
      clear hO HO
      have sb : Blk _ (w.heap.size) 27 #[.slice p.ka p.s.ks.length p.kc, .slice p.xa p.s.xs.length p.xc, .int .i64 p.s.flo, .int .i64 p.s.fhi, .int .i64 p.s.plo, .int .i64 p.s.phi] := HG.out.get (by simp); have s0 := sb.cell 0; have s1 := sb.cell 1; have s2 := sb.cell 2; have s3 := sb.cell 3; have s4 := sb.cell 4; have s5 := sb.cell 5; have sl := sb.lt; clear sb; have cb : Blk _ (w.heap.size + 1) 34 #[.int .i64 c.wax, .int .i64 c.dia, .int .i64 c.dra, .int .i64 c.clo, .int .i64 c.chi] := HG.out.get (by simp); have c0 := cb.cell 0; have c1 := cb.cell 1; have c2 := cb.cell 2; have c3 := cb.cell 3; have c4 := cb.cell 4; have cl := cb.lt; clear cb
      have HJ := Lib.hid (HG.out.alloc #[.slice A p.s.ks.length cap, .slice p.xa p.s.xs.length p.xc, .int .i64 p.s.flo, .int .i64 p.s.fhi, .int .i64 p.s.plo, .int .i64 p.s.phi] 27)
      have HBW := Lib.hid ((Below.refl wr.heap.size wr).alloc (Nat.le_refl _) (.cells #[.slice A p.s.ks.length cap, .slice p.xa p.s.xs.length p.xc, .int .i64 p.s.flo, .int .i64 p.s.fhi, .int .i64 p.s.plo, .int .i64 p.s.phi] 27))
      go_wp2_with (first
        | (go_at_call 26; (with_reducible refine (C2.out _ A cap HJ.out.b (HIN.out.on HBW.out)).mono ?_); rintro e w4 ⟨v, rfl, hv, hb⟩; obtain ⟨Am, mcap, rfl, hi1⟩ := hv.in_; have HQ := Lib.hid (HJ.out.on hb); have HL4 := Lib.hid ((HL3.out.on HBW.out).on hb); have HM4 := Lib.hid hi1; clear hb hv hi1 s0 s1 s2 s3 s4 s5 sl c0 c1 c2 c3 c4 cl)
        | fail)
      go_loopw [15, 16] (fun v i W => ∃ K : Nat, K ≤ p.s.ks.length ∧ i = .int .i64 (K : Int) ∧ Hid (IntsOut w4.heap.size W v ((backN mN bn p.s.ks.length K).map Int.ofNat)) ∧ Hid (Below w4.heap.size w4 W)) (fun _ i _ => p.s.ks.length - (intOf i).toNat)
      case atStart => exact ⟨0, by omega, rfl, IntsOut.nil _ _, Below.refl _ _⟩
      case round =>
        obtain ⟨K, hK, rfl, HO, HWW⟩ := hrel
        by_cases hlt2 : K < p.s.ks.length
        · go_wp2_with fail
          go_loopw [15, 17] (fun v i W => ∃ t : Nat, t ≤ m.length ∧ i = .int .i64 (t : Int) ∧ Hid (IntsOut w4.heap.size W v ((backN mN bn p.s.ks.length K ++ ((mN.take t).filter (fun i => (i + bn) % p.s.ks.length == K)).map (fun _ => K)).map Int.ofNat)) ∧ Hid (Below w4.heap.size w4 W)) (fun _ i _ => m.length - (intOf i).toNat)
          case atStart => exact ⟨0, by omega, rfl, Lib.hid (by simpa using HO.out), HWW⟩
          case round =>
            obtain ⟨t, ht, rfl, HO2, HW2⟩ := hrel
            by_cases hlt3 : t < m.length
            · obtain ⟨y, hy, hmy⟩ := map_get HMN.out hlt3
              obtain ⟨b0, o0, rfl, _, hc⟩ := ints_at (HM4.out.on HW2.out).at_ hmy
              have hyn := HMB.out y (List.mem_of_getElem? hy)
              have q1 : IntKind.i64.wrap ((y : Int) + (bn : Int)) = (y : Int) + (bn : Int) := IntWalk.i64_in _ (by omega)
              have q2 := tm_nat y bn p.s.ks.length
              have hzn : (y + bn) % p.s.ks.length < p.s.ks.length := Nat.mod_lt _ (by omega)
              have q3 : IntKind.i64.wrap ((((y + bn) % p.s.ks.length : Nat)) : Int) = (((y + bn) % p.s.ks.length : Nat) : Int) := IntWalk.i64_in _ (by omega)
              obtain ⟨z, hz⟩ : ∃ z, z = (y + bn) % p.s.ks.length := ⟨_, rfl⟩
              rw [← hz] at q2 q3 hzn
              have HY := Lib.hid hy
              have HZ2 := Lib.hid hz
              clear hy hmy hz hyn hzn
              obtain ⟨ol, hol⟩ : ∃ ol, ol = ((backN mN bn p.s.ks.length K ++ ((mN.take t).filter (fun i => (i + bn) % p.s.ks.length == K)).map (fun _ => K)).map Int.ofNat) := ⟨_, rfl⟩
              rw [← hol] at HO2
              have hll : ol.length < 1000000 := by
                rw [hol, List.length_map, List.length_append, List.length_map, back_len]
                have e1 := List.length_filter_le (fun i => decide ((i + bn) % p.s.ks.length < K)) mN
                have e2 := List.length_filter_le (fun i => (i + bn) % p.s.ks.length == K) (mN.take t)
                have e3 : m.length = mN.length := by rw [HMN.out, List.length_map]
                rw [List.length_take] at e2
                omega
              by_cases hzK : z = K
              · have HF := Lib.hid (fil_yes HY.out (HZ2.out.symm.trans hzK) (backN mN bn p.s.ks.length K))
                subst hzK
                rw [← hol] at HF
                clear hol
                go_wp2_with (first
                  | (at_builtin; (refine app_list rfl _ _ rfl (l := ol) rfl (own_below HO2.out ((Below.refl _ _).alloc (Nat.le_refl _) _)) (z : Int) rfl (Blk.newat rfl) hll (by have := HW2.out.size; simp; omega) ?_); intro g cp w7 r1 r2 r3 r4; have HO7 := Lib.hid r1; have HB7 := Lib.hid ((HW2.out.alloc HW2.out.size _).trans r2); clear r1 r2 r3 r4)
                  | fail)
                go_roundw
                case rel => exact ⟨t + 1, by omega, by go_num, Lib.hid (by rw [HF.out]; exact HO7.out), HB7⟩
                case measure => exact meas_one hlt3
              · have HF := Lib.hid (fil_no HY.out (fun e => hzK (HZ2.out.trans e)) (backN mN bn p.s.ks.length K))
                rw [← hol] at HF
                have q4 : ((z : Int) == (K : Int)) = false := by simp; omega
                clear hol
                go_wp2_with fail
                go_roundw
                case rel => exact ⟨t + 1, by omega, by go_num, Lib.hid (by rw [HF.out]; exact HO2.out), HW2⟩
                case measure => exact meas_one hlt3
            · have hO2 := HO2.out
              have e3 : m.length = mN.length := by rw [HMN.out, List.length_map]
              rw [List.take_of_length_le (by omega)] at hO2
              have HO3 : Hid (IntsOut w4.heap.size _ _ ((backN mN bn p.s.ks.length (K + 1)).map Int.ofNat)) := Lib.hid hO2
              clear hO2 HO2 e3
              go_wp2_with fail
              go_roundw
              case rel => exact ⟨K + 1, by omega, by go_num, HO3, HW2⟩
              case measure => exact meas_one hlt2
        · have hO := HO.out
          rw [show K = p.s.ks.length by omega, HBK.out, ← HL.out] at hO
          obtain ⟨Ab, bcap, hv, hib⟩ := hO.in_
          subst hv
          have HIB := Lib.hid hib
          have HIL := Lib.hid (HL4.out.on HWW.out)
          have HWV := Lib.hid (HQ.out.b.trans (HWW.out.mono HQ.out.b.size))
          clear hO HO hib
          go_wp2_with (first
            | (go_at_call 25; (refine (ints_yes rfl HIL.out HIB.out).mono ?_); rintro e w8 ⟨rfl, hb⟩; have HW8 := Lib.hid (HWV.out.trans (hb.mono HWV.out.size)); clear hb)
            | (go_at_call 16; (refine (lawake_any _).mono ?_); rintro e w9 ⟨rfl, hb⟩; have HZ := Lib.hid (HW8.out.trans (hb.mono HW8.out.size)); clear hb)
            | fail)
          go_ret
          exact ⟨rfl, HZ.out⟩


theorem lto_any {w : World} {p : Sp} (c : Cd) {by_ : Int} (h : ShIn w p) (hb : 0 ≤ by_ ∧ by_ ≤ 255) :
    Calls Try.prog 13 #[.agg #[.slice p.ka p.s.ks.length p.kc, .slice p.xa p.s.xs.length p.xc, .int .i64 p.s.flo, .int .i64 p.s.fhi, .int .i64 p.s.plo, .int .i64 p.s.phi], .agg #[.int .i64 c.wax, .int .i64 c.dia, .int .i64 c.dra, .int .i64 c.clo, .int .i64 c.chi], .int .u8 by_] w fun e w' => e = .returned (.bool true) ∧ Below w.heap.size w w' := by
  obtain ⟨bn, rfl⟩ := Int.eq_ofNat_of_zero_le hb.1
  by_cases he : askCE p.s c = 0
  · obtain ⟨x, ha⟩ := askC_of he
    have hk := ha.sh.nk
    have hsh : shopE p.s = 0 := by
      unfold askCE at he
      rw [orE_zero] at he
      exact he _ (by simp)
    have C1 := Lib.hid (fun (W : World) (hW : Below w.heap.size w W) => rcandle_any c (h.on hW))
    rw [he] at C1
    have ht : AskC (turnS p.s bn) c x := ⟨shopE_ok (turn_shop hsh), ha.hx, ⟨ha.cd.wax, ha.cd.dia, ha.cd.dra, ha.cd.cold⟩⟩
    have hte : askCE (turnS p.s bn) c = 0 := by
      unfold askCE
      rw [orE_zero]
      intro e hm
      simp only [List.mem_cons, List.not_mem_nil, or_false] at hm
      rcases hm with rfl | rfl
      · exact turn_shop hsh
      · exact candE_zero.2 ht.cd
    have hl := turn_len (s := p.s) (x := x) (c := c) (b := bn) (by omega)
    refine lto_ok (lN := suitN p.s x c p.s.ks.length) (mN := suitN (turnS p.s bn) x c p.s.ks.length) h hk.2 hk.1 (by omega) (by rw [List.length_map, hl]; exact Nat.le_trans (suitN_len _ _ _ _) hk.2) (Lib.hid fun W hW => suits_ok (h.on hW) ha he) C1 (Lib.hid fun W A cap hW hin => ?_) (Lib.hid rfl) (Lib.hid rfl) (Lib.hid (turn_back _ (Nat.le_refl _))) (Lib.hid fun y hy => (suitN_mem.1 hy).1) (by rw [List.length_map, List.length_map, hl]; simp)
    have hs := suits_ok (p := ⟨turnS p.s bn, A, cap, p.xa, p.xc⟩) ⟨hin, (h.on hW).xs⟩ ht hte
    have e : (turnS p.s bn).ks.length = p.s.ks.length := rot_len _ _
    simp only [e] at hs
    exact hs
  · exact lto_err h he
end Go.Proofs.Ytkjfommdeljefaa
