/- wax.Write: contract. -/
import Derived.Test.YthihpggjglghoaaGreatDoorLine
namespace Go.Proofs.YthihpggjglghoaaGreatDoor
open Go.RowKit Go.Shelf

/-- A slice of strings that a call made. -/
def StrsOut (B : Nat) (w' : World) (v : Value) (l : List ByteArray) : Prop := w'.ownsRow B 9 1 v l.length (l.map Value.string)
theorem infoStr : (Tryz.prog.info? 9).map (fun i => (i.zero, i.size, i.bytes)) = some (some (.string ⟨#[]⟩), 1, 16) := by kernel_rfl
def propW (ps : List Pr) : List ByteArray := ⟨#[116, 101, 115, 116, 115]⟩ :: ps.flatMap fun p => [p.nm, itoaB p.er]
def kindW (nm : ByteArray) (rs : List (Int × Int)) : List ByteArray := nm :: rs.flatMap fun r => [itoaB r.1, itoaB r.2]
theorem propW_snoc (ps : List Pr) (p : Pr) : propW (ps ++ [p]) = propW ps ++ [p.nm, itoaB p.er] := by simp [propW]
theorem kindW_snoc (nm : ByteArray) (rs : List (Int × Int)) (r : Int × Int) : kindW nm (rs ++ [r]) = kindW nm rs ++ [itoaB r.1, itoaB r.2] := by simp [kindW]
theorem propW_len (ps : List Pr) : (propW ps).length = 1 + 2 * ps.length := by
  unfold propW
  rw [List.length_cons]
  have : ∀ l : List Pr, (l.flatMap fun p => [p.nm, itoaB p.er]).length = 2 * l.length := by
    intro l
    induction l with
    | nil => rfl
    | cons x r ih => rw [List.flatMap_cons, List.length_append, ih, List.length_cons]; simp; omega
  rw [this]; omega
theorem kindW_len (nm : ByteArray) (rs : List (Int × Int)) : (kindW nm rs).length = 1 + 2 * rs.length := by
  unfold kindW
  rw [List.length_cons]
  have : ∀ l : List (Int × Int), (l.flatMap fun r => [itoaB r.1, itoaB r.2]).length = 2 * l.length := by
    intro l
    induction l with
    | nil => rfl
    | cons x r ih => rw [List.flatMap_cons, List.length_append, ih, List.length_cons]; simp; omega
  rw [this]; omega
def headV (t : Tab) : ByteArray := lineB (propW t.ps) ++ lineB [⟨#[112, 117, 114, 101]⟩, itoaB t.pu]
def textK (t : Tab) (ks : List Kd) : ByteArray := ks.foldl (fun s k => s ++ lineB (kindW k.nm k.rs)) (headV t)
/-- The text of a table. -/
def textV (t : Tab) : ByteArray := textK t t.ks
theorem textK_snoc (t : Tab) (ks : List Kd) (k : Kd) : textK t (ks ++ [k]) = textK t ks ++ lineB (kindW k.nm k.rs) := by simp [textK]
/-- Two words more, where they lie. -/
theorem StrsOut.more {B : Nat} {w1 : World} {v1 : Value} {l : List ByteArray} {a b : ByteArray} (h : w1.ownsRow B 9 1 v1 (l.length + 2) (l.map Value.string ++ [.string a, .string b])) : StrsOut B w1 v1 (l ++ [a, b]) := by
  unfold StrsOut
  simpa using h
theorem new_two (w : World) (u v : Value) (T : TypeId) (g : Nat) (hg : g = w.heap.size) : (w.alloc (.cells #[u, v] T)).heap[g]? = some (.cells #[u, v] T (0, 0)) := by subst hg; exact heap_alloc_new w _

theorem StrsOut.line {B : Nat} {w : World} {v : Value} {l : List ByteArray} (h : StrsOut B w v l) (h0 : 0 < l.length) (hn : l.length ≤ 1000) (hs : ∀ s ∈ l, s.size ≤ 1000) :
    ∃ g cap, v = .slice (some ⟨g, 0, none⟩) l.length cap ∧ Hid (∀ w', Below w.heap.size w w' → Calls Tryz.prog 19 #[.slice (some ⟨g, 0, none⟩) l.length cap] w' fun e w'' => e = .returned (.string (lineB l)) ∧ Below w'.heap.size w' w'') := by
  obtain ⟨g, cap, rfl, hg, hlt⟩ := World.ownsRow.form h h0
  refine ⟨g, cap, rfl, ?_⟩
  intro w' hb
  refine line_any g 0 cap l w' (fun j x hx => ?_) (by have := hb.size; omega) ?_ hn hs
  · rw [Nat.zero_add, (hb.cell (p := ⟨g, j, none⟩) hlt)]
    have hj : j < l.length := (List.getElem?_eq_some_iff.1 hx).1
    rw [World.ownsRow.cellAt h j (by omega), List.getElem?_map, hx]; rfl
  · rcases h.2 with ⟨h2, _⟩ | ⟨g', cap', cur, hv, _, _, hc, _⟩
    · simp at h2
    · have : cap = cap' := by simpa using (Value.slice.inj hv).2.2
      omega
theorem propW_small {t : Tab} (h : Valid t) : ∀ s ∈ propW t.ps, s.size ≤ 1000 := by
  intro s hs
  unfold propW at hs
  rcases List.mem_cons.1 hs with rfl | hs
  · decide
  · obtain ⟨p, hp, hm⟩ := List.mem_flatMap.1 hs
    have h1 := h.pn p hp
    have h2 := h.er p hp
    rcases List.mem_cons.1 hm with rfl | hm
    · unfold nameB at h1
      simp only [Bool.and_eq_true, decide_eq_true_eq] at h1
      omega
    · rw [List.mem_singleton.1 hm]
      have := itoaB_size p.er (by omega) (by omega)
      omega
theorem kindW_small {t : Tab} (h : Valid t) {k : Kd} (hk : k ∈ t.ks) : ∀ s ∈ kindW k.nm k.rs, s.size ≤ 1000 := by
  intro s hs
  unfold kindW at hs
  rcases List.mem_cons.1 hs with rfl | hs
  · have h1 := h.kn k hk
    unfold nameB at h1
    simp only [Bool.and_eq_true, decide_eq_true_eq] at h1
    omega
  · obtain ⟨r, hr, hm⟩ := List.mem_flatMap.1 hs
    have h2 := h.rs k hk r hr
    rcases List.mem_cons.1 hm with rfl | hm
    · have := itoaB_size r.1 (by omega) (by omega)
      omega
    · rw [List.mem_singleton.1 hm]
      have := itoaB_size r.2 (by omega) (by omega)
      omega
theorem two_cells (w : World) (u v : ByteArray) (T : TypeId) (g : Nat) (hg : g = w.heap.size) : ∀ (j : Nat) x, [u, v][j]? = some x → (w.alloc (.cells #[.string u, .string v] T)).cell? ⟨g, 0 + j, none⟩ = some (.string x) := by
  subst hg
  intro j x hx
  match j, hx with
  | 0, hx => simp at hx; subst hx; simp
  | 1, hx => simp at hx; subst hx; simp

theorem lineB_size {l : List ByteArray} (hn : l.length ≤ 1000) (hs : ∀ s ∈ l, s.size ≤ 1000) : (lineB l).size ≤ 1001001 := by
  have h1 := joinB_len hs
  have h2 : (joinB l).size = (Lib.join (l.map (·.data.toList)) [32]).length := by
    show (Lib.join (l.map (·.data.toList)) [32]).toArray.size = _
    rw [List.size_toArray]
  unfold lineB
  rw [ByteArray.size_append]
  show (joinB l).size + 1 ≤ _
  omega
theorem pure_small (n : Int) (hn : (itoaB n).size ≤ 21) : ∀ s ∈ [⟨#[112, 117, 114, 101]⟩, itoaB n], s.size ≤ 1000 := by
  intro s hs
  rcases List.mem_cons.1 hs with rfl | hs
  · decide
  · rw [List.mem_singleton.1 hs]; omega
theorem line_pure (W : World) (n : Int) (hn : (itoaB n).size ≤ 21) : Calls Tryz.prog 19 #[.slice (some ⟨W.heap.size, 0, none⟩) 2 2] (W.alloc (.cells #[.string ⟨#[112, 117, 114, 101]⟩, .string (itoaB n)] 9)) fun e w' => e = .returned (.string (lineB [⟨#[112, 117, 114, 101]⟩, itoaB n])) ∧ Below (W.alloc (.cells #[.string ⟨#[112, 117, 114, 101]⟩, .string (itoaB n)] 9)).heap.size (W.alloc (.cells #[.string ⟨#[112, 117, 114, 101]⟩, .string (itoaB n)] 9)) w' := by
  refine line_any W.heap.size 0 2 [⟨#[112, 117, 114, 101]⟩, itoaB n] _ (two_cells _ _ _ _ _ rfl) (by simp) (by simp) (by simp) (pure_small n hn)

set_option maxRecDepth 100000 in
set_option maxHeartbeats 4000000 in
theorem write_ok {w : World} {pa ka : Option Addr} {pc kc : Nat} {t : Tab} (h : TabIn w pa ka pc kc t) (hBs : Base w) (hv : (checkT t).2.2 = 0) :
    Calls Tryz.prog 5 #[.agg #[.slice pa t.ps.length pc, .slice ka t.ks.length kc, .int .i64 t.pu]] w fun e w' => e = .returned (.tuple #[.string (textV t), .int .i64 0]) ∧ Below w.heap.size w w' := by
  have hB0 : Below w.heap.size w (w.alloc (.cells #[.slice pa t.ps.length pc, .slice ka t.ks.length kc, .int .i64 t.pu] 25)) := ((Below.refl _ w).alloc (Nat.le_refl _) _)
  have HL := Lib.hid (open_ok (h.on hB0) hv)
  have HV := Lib.hid (valid_of hv)
  have h1 := h.tab.lp
  have h2 := h.tab.lk
  have HT := Lib.hid h
  have HBA := Lib.hid hBs
  clear h hv hBs
  obtain ⟨i0, hi0, hz0, hz1, hz2⟩ := info_parts infoStr
  go_enter Tryz.func5, Tryz.ntmps5
  go_wp2_with fail
  refine HL.out.mono ?_
  rintro e w1 ⟨rfl, hb1⟩
  have hbw := hB0.trans (hb1.mono hB0.size)
  have hwle := hbw.size
  clear HL hb1 hB0
  go_wp2_with fail
  go_loopw [6, 28] (fun v i wr => ∃ k : Nat, k ≤ t.ps.length ∧ i = .int .i64 k ∧ Hid (StrsOut (w1.heap.size + 1) wr v (propW (t.ps.take k))) ∧ Below (w1.heap.size + 1) (w1.alloc (.cells #[.slice pa t.ps.length pc, .slice ka t.ks.length kc, .int .i64 t.pu, .slice none 0 0] 57)) wr) (fun _ i _ => t.ps.length - (intOf i).toNat)
  case atStart =>
    refine ⟨0, Nat.zero_le _, rfl, ?_, (Below.refl _ _).alloc (by simp) _⟩
    show StrsOut _ _ _ _
    have hh := World.ownsRow_lit (base := w1.heap.size + 1) (e := 9) (size := 1) (w1.alloc (.cells #[.slice pa t.ps.length pc, .slice ka t.ks.length kc, .int .i64 t.pu, .slice none 0 0] 57)) #[.string ⟨#[116, 101, 115, 116, 115]⟩] 1 (by simp) (by decide) rfl
    simpa [StrsOut, propW] using hh
  case round =>
    obtain ⟨k, hk, rfl, HO, hbr⟩ := hrel
    have hbwr : Below w.heap.size w wr := (hbw.alloc hwle _).trans (hbr.mono (by omega))
    by_cases hlt : k < t.ps.length
    · obtain ⟨p, hp⟩ : ∃ x, t.ps[k]? = some x := ⟨t.ps[k], List.getElem?_eq_getElem hlt⟩
      obtain ⟨pb, po, rfl, hpB, hp0, hp1⟩ := props_at (HT.out.on hbwr).tab.ps hp
      have hpm := List.mem_of_getElem? hp
      have her := HV.out.er p hpm
      have hlen := propW_len (t.ps.take k)
      rw [List.length_take] at hlen
      have hnp := HV.out.np
      have HP := Lib.hid hp
      have HIT := Lib.hid (fun (W : World) (hB : Below w.heap.size w W) => itoa_any (HBA.out.on hB) p.er (by omega) (by omega))
      have hsr := hbr.size
      simp only [World.size_alloc] at hsr
      clear hp hpm
      have hB2 : Below wr.heap.size wr ((wr.alloc (.cells #[.string p.nm, .int .i64 p.er] 47)).drew) := ((Below.refl _ wr).alloc (Nat.le_refl _) _).drew
      have HN := Lib.hid (⟨by unfold maxLen; omega, by omega⟩ : (propW (t.ps.take k)).length + 2 ≤ maxLen ∧ ((propW (t.ps.take k)).length + 2) * 16 ≤ 140737488355328)
      clear hlen
      have aX : some wr.heap.size ≠ u6.ownBlock := own_lt HO.out (Nat.le_refl _)
      go_wp2_with fail
      go_region_held3 (fun w' => w'.cell? ⟨wr.heap.size, 0, none⟩ = some (.string p.nm) ∧ w'.cell? ⟨wr.heap.size, 1, none⟩ = some (.int .i64 p.er)) (first | (simp [*]; done) | (simp [go_sem, *]; done) | (go_split_ands; exact ⟨(hgrow.cell_far ⟨wr.heap.size, 0, none⟩ (by simp; omega) aX).trans (by simp [*]), (hgrow.cell_far ⟨wr.heap.size, 1, none⟩ (by simp; omega) aX).trans (by simp [*])⟩))
        (first | (go_at_call 18; refine (HIT.out _ (hbwr.trans (hB2.mono hbwr.size))).mono ?_; rintro e w5 ⟨rfl, hb5⟩; have hk5 := kept_of hb5; have hlt5 : wr.heap.size < w5.heap.size := by (have hh5 := hb5.size; simp at hh5; omega)) | (refine step_append_lies _ (by rfl) _ _ _ (by rfl) (w1.heap.size + 1) 9 i0 (.string ⟨#[]⟩) 1 16 Tryz.underlying60 hi0 hz0 hz1 hz2 rfl (by omega) u6 (propW (t.ps.take k)).length ((propW (t.ps.take k)).map Value.string) (by rfl) (World.ownsRow.alloc (own_below HO.out (hB2.trans (hb5.mono hB2.size))) _) ⟨w5.heap.size, 0, none⟩ 2 2 [.string p.nm, .string (itoaB p.er)] (by rfl) (by rfl) (World.news_of_block (cs := #[.string p.nm, .string (itoaB p.er)]) (t := 9) (fr := (0, 0)) (new_two _ _ _ _ _ rfl)) (by simp [Value.oneCell']) (by omega) HN.out.1 HN.out.2 (by have := hb5.size; simp at this; simp; omega) (w5.heap.size + 1) (by simp) ?_; intro gg cap w7 hown1 hgrow hat hglt))
      go_wp2_with fail
      have ht : t.ps.take (k + 1) = t.ps.take k ++ [p] := by rw [List.take_add_one, HP.out]; rfl
      have hb17 : Below (w1.heap.size + 1) wr w7 := (((hB2.trans (hb5.mono hB2.size)).mono (by omega)).alloc (by omega) _).grown hgrow (by simp; omega) (fun r e => (World.ownsRow.lt HO.out r e).1)
      go_roundw
      case rel => exact ⟨k + 1, by omega, by go_num, by show StrsOut _ _ _ _; rw [ht, propW_snoc]; exact StrsOut.more hown1, hbr.trans hb17⟩
      case measure => simp [intOf]; omega
    · have hke : k = t.ps.length := by omega
      have HO2 := Lib.hid (show StrsOut (w1.heap.size + 1) wr u6 (propW t.ps) by have hh := HO.out; rw [hke, List.take_length] at hh; exact hh)
      have BS := Lib.hid (Blk.below (Blk.new w1 57 #[.slice pa t.ps.length pc, .slice ka t.ks.length kc, .int .i64 t.pu, .slice none 0 0]) hbr (by omega))
      obtain ⟨s0, s1, s2, s3, _, _, _, _, s8⟩ := BS.out.four
      have hnp := HV.out.np
      have hpu := HV.out.pu
      have hln := propW_len t.ps
      obtain ⟨g, cap, rfl, HLN⟩ := StrsOut.line HO2.out (by omega) (by omega) (propW_small HV.out)
      have hs1 := lineB_size (by omega) (propW_small HV.out)
      clear hke HO hln
      have hsr := hbr.size
      simp only [World.size_alloc] at hsr
      have HIT := Lib.hid (fun (W : World) (hB : Below w.heap.size w W) => itoa_any (HBA.out.on hB) t.pu (by omega) (by omega))
      have hpz := itoaB_size t.pu (by omega) (by omega)
      have hs2 := lineB_size (l := [⟨#[112, 117, 114, 101]⟩, itoaB t.pu]) (by simp) (pure_small t.pu hpz)
      have hsum : ¬ 9223372036854775807 < (lineB (propW t.ps)).size + (lineB [⟨#[112, 117, 114, 101]⟩, itoaB t.pu]).size := by omega
      have HH0 := Lib.hid (show headV t = lineB (propW t.ps) ++ lineB [⟨#[112, 117, 114, 101]⟩, itoaB t.pu] from rfl)
      have hhs : (headV t).size ≤ 2002002 := by rw [HH0.out, ByteArray.size_append]; omega
      go_wp2_with fail
      go_region_held3 (fun w' => w'.cell? ⟨w1.heap.size, 2, none⟩ = some (.int .i64 t.pu) ∧ w'.cell? ⟨w1.heap.size, 1, none⟩ = some (.slice ka t.ks.length kc)) (first | (simp [*]; done) | (simp [go_sem, *]; done))
        (first | (go_at_call 19; refine (HLN.out _ (Below.refl _ wr).drew).mono ?_; rintro e w5 ⟨rfl, hb5⟩; have hk5 := kept_of hb5; have hlt5 : w1.heap.size < w5.heap.size := by (have hh5 := hb5.size; simp at hh5; omega)) | (go_at_call 18; refine (HIT.out w5 (hbwr.trans ((Below.refl _ wr).drew.trans (hb5.mono (Nat.le_refl _)) |>.mono hbwr.size))).mono ?_; rintro e w6 ⟨rfl, hb6⟩; have hk6 := kept_of hb6; have hlt6 : w1.heap.size < w6.heap.size := by (have hh6 := hb6.size; omega)) | (go_at_call 19; refine (line_pure w6 t.pu hpz).mono ?_; rintro e w7 ⟨rfl, hb7⟩; have hk7 := kept_of hb7; have hlt7 : w1.heap.size < w7.heap.size := by (have hh7 := hb7.size; simp at hh7; omega)) | fail)
      have hw6 : wr.heap.size ≤ w5.heap.size := by have hh := hb5.size; simpa using hh
      have hb57 : Below w5.heap.size w5 w7 := (hb6.alloc hb6.size _).trans (hb7.mono (by have hh := hb6.size; simp; omega))
      have hbw7 : Below w.heap.size w w7 := (hbwr.trans ((Below.refl _ wr).drew.mono hbwr.size)).trans ((hb5.mono (show w.heap.size ≤ wr.drew.heap.size from hbwr.size)).trans (hb57.mono (by have := hbwr.size; omega)))
      clear hk5 hk6 hk7 hlt5 hlt6 hlt7 hb5 hb6 hb7 hb57 hw6 s0 s1 s2 s3 s8 HIT HLN HO2 BS hbr hbwr hsum hs1 hs2 hpz
      go_wp2_with fail
      rw [← HH0.out]
      have HH1 := Lib.hid hhs
      clear hhs HH0
      go_loopw [9, 54] (fun v i wr => ∃ q : Nat, q ≤ t.ks.length ∧ i = .int .i64 q ∧ ∃ s : ByteArray, v = .string s ∧ Hid (s = textK t (t.ks.take q)) ∧ s.size ≤ (q + 2) * 1001001 ∧ Below w.heap.size w wr) (fun _ i _ => t.ks.length - (intOf i).toNat)
      case atStart => exact ⟨0, Nat.zero_le _, rfl, _, rfl, rfl, by have := HH1.out; omega, hbw7⟩
      case round =>
        obtain ⟨q, hq, rfl, s, rfl, HSV, hssz, hbq⟩ := hrel
        obtain ⟨w8, rfl⟩ : ∃ w8, w8 = wr := ⟨wr, rfl⟩
        by_cases hlt2 : q < t.ks.length
        · obtain ⟨kd, hkd⟩ : ∃ x, t.ks[q]? = some x := ⟨t.ks[q], List.getElem?_eq_getElem hlt2⟩
          obtain ⟨kb, ko, rfl, hkB, hk0, hk1, hsp, hsl⟩ := kinds_at (HT.out.on hbq).tab.ks hkd
          have hkm := List.mem_of_getElem? hkd
          have HSP := Lib.hid hsp
          have HKD := Lib.hid hkd
          have HKM := Lib.hid hkm
          clear hsp hkd hkm
          have hsq := hbq.size
          go_wp2_with fail
          go_loopw [12, 64] (fun v i wi => ∃ j : Nat, j ≤ kd.rs.length ∧ i = .int .i64 j ∧ Hid (StrsOut (w8.heap.size + 1) wi v (kindW kd.nm (kd.rs.take j))) ∧ Below (w8.heap.size + 1) (w8.alloc (.cells #[.string kd.nm, .slice kd.ad kd.rs.length kd.cp] 51)) wi) (fun _ i _ => kd.rs.length - (intOf i).toNat)
          case atStart =>
            refine ⟨0, Nat.zero_le _, rfl, ?_, (Below.refl _ _).alloc (by simp) _⟩
            show StrsOut _ _ _ _
            have hh := World.ownsRow_lit (base := w8.heap.size + 1) (e := 9) (size := 1) (w8.alloc (.cells #[.string kd.nm, .slice kd.ad kd.rs.length kd.cp] 51)) #[.string kd.nm] 1 (by simp) (by decide) rfl
            simpa [StrsOut, kindW] using hh
          case round =>
            obtain ⟨j, hj, rfl, HO, hbi⟩ := hrel
            have hsi := hbi.size
            simp only [World.size_alloc] at hsi
            have hbwi : Below w.heap.size w wr := (hbq.alloc hsq _).trans (hbi.mono (by omega))
            have hb8 : Below w8.heap.size w8 wr := ((Below.refl _ w8).alloc (Nat.le_refl _) _).trans (hbi.mono (by omega))
            by_cases hlt3 : j < kd.rs.length
            · obtain ⟨r, hr⟩ : ∃ x, kd.rs[j]? = some x := ⟨kd.rs[j], List.getElem?_eq_getElem hlt3⟩
              have hrb := HV.out.rs kd HKM.out r (List.mem_of_getElem? hr)
              obtain ⟨sb, so, hsa, hsB, hr0, hr1⟩ := spans_at (RowAt.below HSP.out hb8 (Nat.le_refl _)) hr
              have HR := Lib.hid hr
              clear hr
              have hlen := kindW_len kd.nm (kd.rs.take j)
              rw [List.length_take] at hlen
              have hrl := HV.out.rl kd HKM.out
              have hnp := HV.out.np
              have HN := Lib.hid (⟨by unfold maxLen; omega, by omega⟩ : (kindW kd.nm (kd.rs.take j)).length + 2 ≤ maxLen ∧ ((kindW kd.nm (kd.rs.take j)).length + 2) * 16 ≤ 140737488355328)
              clear hlen hrl hnp
              have HI1 := Lib.hid (fun (W : World) (hB : Below w.heap.size w W) => itoa_any (HBA.out.on hB) r.1 (by omega) (by omega))
              have HI2 := Lib.hid (fun (W : World) (hB : Below w.heap.size w W) => itoa_any (HBA.out.on hB) r.2 (by omega) (by omega))
              have hB2 : Below wr.heap.size wr ((wr.alloc (.cells #[.int .i64 r.1, .int .i64 r.2] 43)).drew) := ((Below.refl _ wr).alloc (Nat.le_refl _) _).drew
              have aX : some wr.heap.size ≠ u12.ownBlock := own_lt HO.out (Nat.le_refl _)
              have hswi := hbwi.size
              rw [hsa]
              have HSA := Lib.hid hsa
              clear hsa
              go_wp2_with fail
              go_region_held3 (fun w' => w'.cell? ⟨wr.heap.size, 0, none⟩ = some (.int .i64 r.1) ∧ w'.cell? ⟨wr.heap.size, 1, none⟩ = some (.int .i64 r.2)) (first | (simp [*]; done) | (simp [go_sem, *]; done) | (go_split_ands; exact ⟨(hgrow.cell_far ⟨wr.heap.size, 0, none⟩ (by simp; omega) aX).trans (by simp [*]), (hgrow.cell_far ⟨wr.heap.size, 1, none⟩ (by simp; omega) aX).trans (by simp [*])⟩))
                (first | (go_at_call 18; refine (HI1.out _ (hbwi.trans (hB2.mono hswi))).mono ?_; rintro e w5 ⟨rfl, hb5⟩; have hk5 := kept_of hb5; have hlt5 : wr.heap.size < w5.heap.size := by (have hh5 := hb5.size; simp at hh5; omega)) | (go_at_call 18; refine (HI2.out w5 ((hbwi.trans (hB2.mono hswi)).trans (hb5.mono (show w.heap.size ≤ _ from Nat.le_trans hswi hB2.size)))).mono ?_; rintro e w6 ⟨rfl, hb6⟩; have hk6 := kept_of hb6; have hlt6 : wr.heap.size < w6.heap.size := by (have hh6 := hb6.size; omega)) | (refine step_append_lies _ (by rfl) _ _ _ (by rfl) (w8.heap.size + 1) 9 i0 (.string ⟨#[]⟩) 1 16 Tryz.underlying60 hi0 hz0 hz1 hz2 rfl (by omega) u12 (kindW kd.nm (kd.rs.take j)).length ((kindW kd.nm (kd.rs.take j)).map Value.string) (by rfl) (World.ownsRow.alloc (own_below HO.out ((hB2.trans (hb5.mono hB2.size)).trans (hb6.mono (by omega)))) _) ⟨w6.heap.size, 0, none⟩ 2 2 [.string (itoaB r.1), .string (itoaB r.2)] (by rfl) (by rfl) (World.news_of_block (cs := #[.string (itoaB r.1), .string (itoaB r.2)]) (t := 9) (fr := (0, 0)) (new_two _ _ _ _ _ rfl)) (by simp [Value.oneCell']) (by omega) HN.out.1 HN.out.2 (by simp; omega) (w6.heap.size + 1) (by simp) ?_; intro gg cap w7 hown1 hgrow hat hglt) | fail)
              go_wp2_with fail
              have ht : kd.rs.take (j + 1) = kd.rs.take j ++ [r] := by rw [List.take_add_one, HR.out]; rfl
              have hb17 : Below (w8.heap.size + 1) wr w7 := ((((hB2.trans (hb5.mono hB2.size)).trans (hb6.mono (by omega))).mono hsi).alloc (by omega) _).grown hgrow (by simp; omega) (fun r e => (World.ownsRow.lt HO.out r e).1)
              go_roundw
              case rel => exact ⟨j + 1, by omega, by go_num, by show StrsOut _ _ _ _; rw [ht, kindW_snoc]; exact StrsOut.more hown1, by have h5 := hbi.trans hb17; rw [HSA.out] at h5; exact h5⟩
              case measure => simp [intOf]; omega
            · have hje : j = kd.rs.length := by omega
              have HO2 := Lib.hid (show StrsOut (w8.heap.size + 1) wr u12 (kindW kd.nm kd.rs) by have hh := HO.out; rw [hje, List.take_length] at hh; exact hh)
              have hlen := kindW_len kd.nm kd.rs
              have hrl := HV.out.rl kd HKM.out
              have hnp := HV.out.np
              have hks := HV.out.nk
              obtain ⟨g2, cap2, rfl, HLN⟩ := StrsOut.line HO2.out (by omega) (by omega) (kindW_small HV.out HKM.out)
              have hls := lineB_size (by omega) (kindW_small HV.out HKM.out)
              have hsum : ¬ 9223372036854775807 < s.size + (lineB (kindW kd.nm kd.rs)).size := by omega
              have hs3 : (s ++ lineB (kindW kd.nm kd.rs)).size ≤ (q + 1 + 2) * 1001001 := by rw [ByteArray.size_append]; omega
              have HS3 := Lib.hid hs3
              clear hje HO HO2 hlen hrl hnp hks hls hs3
              go_wp2_with fail
              refine (HLN.out _ (Below.refl _ wr)).mono ?_
              rintro e w9 ⟨rfl, hb9⟩
              have hbw9 := hbwi.trans (hb9.mono hbwi.size)
              go_wp2_with fail
              go_roundw
              case rel => exact ⟨q + 1, by omega, by go_num, _, rfl, by show _ = _; rw [HSV.out, List.take_add_one, HKD.out]; exact (textK_snoc t (t.ks.take q) kd).symm, HS3.out, hbw9⟩
              case measure => simp [intOf]; omega
        · have hqe : q = t.ks.length := by omega
          have HE := Lib.hid (show s = textV t by have hh := HSV.out; rw [hqe, List.take_length] at hh; exact hh)
          clear hqe HSV
          go_wp2_with fail
          refine bodyPost_ret (v := .tuple #[.string s, .int .i64 0]) ?_ rfl ⟨by rw [HE.out], hbq⟩
          simp [results, Tryz.results5, go_sem, *]
end Go.Proofs.YthihpggjglghoaaGreatDoor
