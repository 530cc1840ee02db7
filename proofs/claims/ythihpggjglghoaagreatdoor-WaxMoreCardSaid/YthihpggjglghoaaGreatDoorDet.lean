/- wax.Detect: contract. -/
import Derived.Test.YthihpggjglghoaaGreatDoorMixed
namespace Go.Proofs.YthihpggjglghoaaGreatDoor
open Go.RowKit Go.Shelf

/-- What property i shows. -/
def foundAt (ps : List Pr) (xa xb : List (Int × Int)) (i : Nat) : Int :=
  match xa[i]?, xb[i]?, ps[i]? with
  | some x, some y, some p => foundV x y p.er
  | _, _, _ => 1001
/-- The least part of the first k. -/
def leastK (ps : List Pr) (xa xb : List (Int × Int)) (k : Nat) : Int := (List.range k).foldl (fun m i => min m (foundAt ps xa xb i)) 1001
theorem leastK_succ (ps : List Pr) (xa xb : List (Int × Int)) (k : Nat) : leastK ps xa xb (k + 1) = min (leastK ps xa xb k) (foundAt ps xa xb k) := by
  simp [leastK, List.range_succ]
def leastV (t : Tab) (a b : Nat) : Int := leastK t.ps ((t.ks[a]?.map Kd.rs).getD []) ((t.ks[b]?.map Kd.rs).getD []) t.ps.length
/-- What Detect returns. -/
def detectV (t : Tab) (a b : Int) : Int × Int :=
  if (checkT t).2.2 ≠ 0 then (0, (checkT t).2.2) else if differV t.ks.length a b ≠ 0 then (0, differV t.ks.length a b) else
  if 1000 < leastV t a.toNat b.toNat then (0, 9) else (leastV t a.toNat b.toNat, 0)
theorem ret2 {R : Int × Int} {a b : Int} (h : R = (a, b)) : Ending.returned (.tuple #[.int .i64 a, .int .i64 b]) = .returned (.tuple #[.int .i64 R.1, .int .i64 R.2]) := by subst h; rfl

set_option maxRecDepth 100000 in
set_option maxHeartbeats 1000000 in
theorem detect_tab {w : World} {pa ka : Option Addr} {pc kc : Nat} {t : Tab} (h : TabIn w pa ka pc kc t) (a b : Int) (h0 : (checkT t).2.2 ≠ 0) :
    Calls Tryz.prog 29 #[.agg #[.slice pa t.ps.length pc, .slice ka t.ks.length kc, .int .i64 t.pu], .int .i64 a, .int .i64 b] w fun e w' => e = .returned (.tuple #[.int .i64 0, .int .i64 (checkT t).2.2]) ∧ Below w.heap.size w w' := by
  have hB0 : Below w.heap.size w (w.alloc (.cells #[.slice pa t.ps.length pc, .slice ka t.ks.length kc, .int .i64 t.pu] 25)) := (Below.refl _ w).alloc (Nat.le_refl _) _
  have HL := Lib.hid (open_err (h.on hB0) h0)
  have h1 := h.tab.lp
  have h2 := h.tab.lk
  clear h
  generalize (checkT t).2.2 = z at *
  have z1 : (z == 0) = false := by simpa using h0
  have z2 : (z != 0) = true := by simpa using h0
  go_enter Tryz.func29, Tryz.ntmps29
  go_wp2_with fail
  refine HL.out.mono ?_
  rintro e w1 ⟨rfl, hb1⟩
  have hbw := hB0.trans (hb1.mono hB0.size)
  clear HL hb1
  go_wp2_with fail
  go_ret2
  exact ⟨rfl, hbw.alloc hbw.size _⟩

set_option maxRecDepth 100000 in
set_option maxHeartbeats 1000000 in
theorem detect_diff {w : World} {pa ka : Option Addr} {pc kc : Nat} {t : Tab} (h : TabIn w pa ka pc kc t) (a b : Int) (h0 : (checkT t).2.2 = 0) (hd : differV t.ks.length a b ≠ 0) :
    Calls Tryz.prog 29 #[.agg #[.slice pa t.ps.length pc, .slice ka t.ks.length kc, .int .i64 t.pu], .int .i64 a, .int .i64 b] w fun e w' => e = .returned (.tuple #[.int .i64 0, .int .i64 (differV t.ks.length a b)]) ∧ Below w.heap.size w w' := by
  have hB0 : Below w.heap.size w (w.alloc (.cells #[.slice pa t.ps.length pc, .slice ka t.ks.length kc, .int .i64 t.pu] 25)) := (Below.refl _ w).alloc (Nat.le_refl _) _
  have HL := Lib.hid (open_ok (h.on hB0) h0)
  have h1 := h.tab.lp
  have h2 := h.tab.lk
  have HD := Lib.hid (fun (W : World) => differ_any (.slice pa t.ps.length pc) (.slice none 0 0) ka t.ks.length kc t.pu a b W h2)
  clear h h0
  generalize differV t.ks.length a b = z at *
  have z2 : (z != 0) = true := by simpa using hd
  go_enter Tryz.func29, Tryz.ntmps29
  go_wp2_with fail
  refine HL.out.mono ?_
  rintro e w1 ⟨rfl, hb1⟩
  have hbw := hB0.trans (hb1.mono hB0.size)
  clear HL hb1
  go_wp2_with fail
  refine (HD.out _).mono ?_
  rintro e w2 ⟨rfl, hb2⟩
  have hbw2 := ((hbw.alloc hbw.size _).trans (hb2.mono (by have := hbw.size; simp; omega)))
  go_wp2_with fail
  go_ret2
  exact ⟨rfl, hbw2⟩

set_option maxRecDepth 100000 in
set_option maxHeartbeats 4000000 in
theorem detect_ok {w : World} {pa ka : Option Addr} {pc kc : Nat} {t : Tab} (h : TabIn w pa ka pc kc t) (a b : Nat) (h0 : (checkT t).2.2 = 0) (hd : differV t.ks.length a b = 0) (ha : a < t.ks.length) (hb : b < t.ks.length) (R : Int × Int) (hR : R = if 1000 < leastV t a b then (0, 9) else (leastV t a b, 0)) :
    Calls Tryz.prog 29 #[.agg #[.slice pa t.ps.length pc, .slice ka t.ks.length kc, .int .i64 t.pu], .int .i64 a, .int .i64 b] w fun e w' =>
      e = .returned (.tuple #[.int .i64 R.1, .int .i64 R.2]) ∧ Below w.heap.size w w' := by
  have HR := Lib.hid hR
  clear hR
  have hB0 : Below w.heap.size w (w.alloc (.cells #[.slice pa t.ps.length pc, .slice ka t.ks.length kc, .int .i64 t.pu] 25)) := (Below.refl _ w).alloc (Nat.le_refl _) _
  have HL := Lib.hid (open_ok (h.on hB0) h0)
  have h1 := h.tab.lp
  have h2 := h.tab.lk
  have HD := Lib.hid (fun (W : World) => differ_any (.slice pa t.ps.length pc) (.slice none 0 0) ka t.ks.length kc t.pu a b W h2)
  rw [hd] at HD
  obtain ⟨xa, hxa⟩ : ∃ x, t.ks[a]? = some x := ⟨t.ks[a], List.getElem?_eq_getElem ha⟩
  obtain ⟨xb, hxb⟩ : ∃ x, t.ks[b]? = some x := ⟨t.ks[b], List.getElem?_eq_getElem hb⟩
  have hV := valid_of h0
  have HRA := Lib.hid (hV.rl xa (List.mem_of_getElem? hxa))
  have HRB := Lib.hid (hV.rl xb (List.mem_of_getElem? hxb))
  have HLE := Lib.hid (show leastV t a b = leastK t.ps xa.rs xb.rs t.ps.length by unfold leastV; rw [hxa, hxb]; rfl)
  have HA := Lib.hid hxa
  have HB := Lib.hid hxb
  have HH := Lib.hid h
  have HV := Lib.hid hV
  generalize leastV t a b = Z at *
  clear h h0 hd hxa hxb hV
  go_enter Tryz.func29, Tryz.ntmps29
  go_wp2_with fail
  refine HL.out.mono ?_
  rintro e w1 ⟨rfl, hb1⟩
  have hbw := hB0.trans (hb1.mono hB0.size)
  clear HL hb1
  go_wp2_with fail
  refine (HD.out _).mono ?_
  rintro e w2 ⟨rfl, hb2⟩
  have BS := Lib.hid (Blk.on (Blk.new w1 57 #[.slice pa t.ps.length pc, .slice ka t.ks.length kc, .int .i64 t.pu, .slice none 0 0]) hb2)
  obtain ⟨s0, s1, s2, s3, _, _, _, _, s8⟩ := BS.out.four
  have hbw2 := ((hbw.alloc hbw.size _).trans (hb2.mono (by have := hbw.size; simp; omega)))
  clear hb2 HD hB0
  go_wp2_with fail
  go_loopw [10, 31] (fun m i wr => ∃ (k : Nat) (mv : Int), k ≤ t.ps.length ∧ i = .int .i64 k ∧ m = .int .i64 mv ∧ Hid (mv = leastK t.ps xa.rs xb.rs k) ∧ mv ≤ 1001 ∧ Below w2.heap.size w2 wr) (fun _ i _ => t.ps.length - (intOf i).toNat)
  case atStart => exact ⟨0, 1001, Nat.zero_le _, rfl, rfl, rfl, by decide, Below.refl _ _⟩
  case round =>
    obtain ⟨k, mv, hk, rfl, rfl, HM, hm1, hr⟩ := hrel
    have hbr := hbw2.trans (hr.mono hbw2.size)
    have hsr := hr.size
    have s0' := (hr.cell (p := ⟨w1.heap.size, 0, none⟩) s8).trans s0
    have s1' := (hr.cell (p := ⟨w1.heap.size, 1, none⟩) s8).trans s1
    have hl1 : w1.heap.size < wr.heap.size := by omega
    clear s0 s1 s2 s3
    by_cases hlt : k < t.ps.length
    · have hT := (HH.out.on hbr).tab
      obtain ⟨kb, ko, rfl, hkB, _, hka, hsa, hla⟩ := kinds_at hT.ks HA.out
      obtain ⟨kb', ko', ek, hkB', _, hkb, hsb, hlb⟩ := kinds_at hT.ks HB.out
      obtain ⟨rfl, rfl⟩ : kb = kb' ∧ ko = ko' := by simpa using ek
      have hra := HRA.out
      have hrb := HRB.out
      obtain ⟨sa, hsa'⟩ : ∃ x, xa.rs[k]? = some x := ⟨xa.rs[k]'(by omega), List.getElem?_eq_getElem (by omega)⟩
      obtain ⟨sb, hsb'⟩ : ∃ x, xb.rs[k]? = some x := ⟨xb.rs[k]'(by omega), List.getElem?_eq_getElem (by omega)⟩
      obtain ⟨pp, hpp⟩ : ∃ x, t.ps[k]? = some x := ⟨t.ps[k]'(by omega), List.getElem?_eq_getElem (by omega)⟩
      have hsab : 0 ≤ sa.1 ∧ sa.1 ≤ sa.2 ∧ sa.2 ≤ 100000 := HV.out.rs xa (List.mem_of_getElem? HA.out) sa (List.mem_of_getElem? hsa')
      have hsbb : 0 ≤ sb.1 ∧ sb.1 ≤ sb.2 ∧ sb.2 ≤ 100000 := HV.out.rs xb (List.mem_of_getElem? HB.out) sb (List.mem_of_getElem? hsb')
      have herb : 0 ≤ pp.er ∧ pp.er ≤ 10000 := HV.out.er pp (List.mem_of_getElem? hpp)
      have HF := Lib.hid (fun (W : World) => found_any sa sb pp.er W hsab (by omega) herb)
      have hM' : Hid (min mv (foundV sa sb pp.er) = leastK t.ps xa.rs xb.rs (k + 1)) := by
        show _ = _
        rw [leastK_succ, ← HM.out]
        simp only [foundAt, hsa', hsb', hpp]
      generalize foundV sa sb pp.er = fv at *
      obtain ⟨ab, ao, ea, haB, ha0, ha1⟩ := spans_at hsa hsa'
      obtain ⟨bb, bo, eb, hbB, hb0, hb2⟩ := spans_at hsb hsb'
      obtain ⟨pb, po, rfl, hpB, hp0, hp1⟩ := props_at hT.ps hpp
      rw [ea] at hka
      rw [eb] at hkb
      have i1 : k < xa.rs.length := by omega
      have i2 : k < xb.rs.length := by omega
      clear hra hrb hsa' hsb' hpp hT ea eb ek hsab hsbb herb
      by_cases hfm : fv < mv
      · have hmin : Hid (fv = leastK t.ps xa.rs xb.rs (k + 1)) := by
          have := hM'.out
          rw [Int.min_eq_right (by omega)] at this
          exact this
        clear hM'
        go_wp2_with fail
        go_region_held3 (fun w' => w'.cell? ⟨w1.heap.size, 1, none⟩ = some (.slice (some ⟨kb, ko, none⟩) t.ks.length kc) ∧ w'.cell? ⟨kb, ko + a * 2 + 1, none⟩ = some (.slice (some ⟨ab, ao, none⟩) xa.rs.length xa.cp) ∧ w'.cell? ⟨kb, ko + b * 2 + 1, none⟩ = some (.slice (some ⟨bb, bo, none⟩) xb.rs.length xb.cp) ∧
          w'.cell? ⟨ab, ao + k * 2, none⟩ = some (.int .i64 sa.1) ∧ w'.cell? ⟨ab, ao + k * 2 + 1, none⟩ = some (.int .i64 sa.2) ∧ w'.cell? ⟨bb, bo + k * 2, none⟩ = some (.int .i64 sb.1) ∧ w'.cell? ⟨bb, bo + k * 2 + 1, none⟩ = some (.int .i64 sb.2) ∧ w'.cell? ⟨wr.heap.size, 1, none⟩ = some (.int .i64 pp.er))
          (first | (simp [*]; done) | (simp [go_sem, *]; done)) (first | (go_at_call 62; refine (HF.out _).mono ?_; rintro e w3 ⟨rfl, hb3⟩; have hk3 := kept_of hb3))
        clear hk3
        go_wp2_with fail
        go_roundw
        case rel => exact ⟨k + 1, fv, by omega, by go_num, rfl, hmin, by omega, hr.trans (((((Below.refl _ wr).alloc (Nat.le_refl _) _).drew).trans (hb3.mono (by simp))).mono hsr)⟩
        case measure => simp [intOf]; omega
      · have hmin : Hid (mv = leastK t.ps xa.rs xb.rs (k + 1)) := by
          have := hM'.out
          rw [Int.min_eq_left (by omega)] at this
          exact this
        clear hM'
        go_wp2_with fail
        go_region_held3 (fun w' => w'.cell? ⟨w1.heap.size, 1, none⟩ = some (.slice (some ⟨kb, ko, none⟩) t.ks.length kc) ∧ w'.cell? ⟨kb, ko + a * 2 + 1, none⟩ = some (.slice (some ⟨ab, ao, none⟩) xa.rs.length xa.cp) ∧ w'.cell? ⟨kb, ko + b * 2 + 1, none⟩ = some (.slice (some ⟨bb, bo, none⟩) xb.rs.length xb.cp) ∧
          w'.cell? ⟨ab, ao + k * 2, none⟩ = some (.int .i64 sa.1) ∧ w'.cell? ⟨ab, ao + k * 2 + 1, none⟩ = some (.int .i64 sa.2) ∧ w'.cell? ⟨bb, bo + k * 2, none⟩ = some (.int .i64 sb.1) ∧ w'.cell? ⟨bb, bo + k * 2 + 1, none⟩ = some (.int .i64 sb.2) ∧ w'.cell? ⟨wr.heap.size, 1, none⟩ = some (.int .i64 pp.er))
          (first | (simp [*]; done) | (simp [go_sem, *]; done)) (first | (go_at_call 62; refine (HF.out _).mono ?_; rintro e w3 ⟨rfl, hb3⟩; have hk3 := kept_of hb3))
        clear hk3
        go_wp2_with fail
        go_roundw
        case rel => exact ⟨k + 1, mv, by omega, by go_num, by rw [if_neg (by omega)], hmin, by omega, hr.trans (((((Below.refl _ wr).alloc (Nat.le_refl _) _).drew).trans (hb3.mono (by simp))).mono hsr)⟩
        case measure => simp [intOf]; omega
    · have hke : k = t.ps.length := by omega
      have HZ : Hid (mv = Z) := by show _ = _; rw [HM.out, HLE.out, hke]
      clear hke HM HLE
      by_cases hz : 1000 < mv
      · have HR2 := Lib.hid (HR.out.trans (if_pos (by rw [← HZ.out]; exact hz)))
        clear HR
        go_wp2_with fail
        go_ret2
        exact ⟨ret2 HR2.out, hbr⟩
      · have HR2 := Lib.hid (HR.out.trans (if_neg (by rw [← HZ.out]; exact hz)))
        clear HR
        go_wp2_with fail
        go_ret2
        exact ⟨ret2 (by rw [HR2.out, HZ.out]), hbr⟩

/-- **Detect returns detectV.** -/
theorem detect_any {w : World} {pa ka : Option Addr} {pc kc : Nat} {t : Tab} (h : TabIn w pa ka pc kc t) (a b : Int) :
    Calls Tryz.prog 29 #[.agg #[.slice pa t.ps.length pc, .slice ka t.ks.length kc, .int .i64 t.pu], .int .i64 a, .int .i64 b] w fun e w' =>
      e = .returned (.tuple #[.int .i64 (detectV t a b).1, .int .i64 (detectV t a b).2]) ∧ Below w.heap.size w w' := by
  unfold detectV
  by_cases h0 : (checkT t).2.2 = 0
  · rw [if_neg (by simpa using h0)]
    by_cases hd : differV t.ks.length a b = 0
    · rw [if_neg (by simpa using hd)]
      obtain ⟨x, y, rfl, rfl, hx, hy, _⟩ := differ_ok hd
      rw [Int.toNat_natCast, Int.toNat_natCast]
      exact detect_ok h x y h0 hd hx hy _ rfl
    · rw [if_pos hd]
      exact detect_diff h a b h0 hd
  · rw [if_pos h0]
    exact detect_tab h a b h0
end Go.Proofs.YthihpggjglghoaaGreatDoor
