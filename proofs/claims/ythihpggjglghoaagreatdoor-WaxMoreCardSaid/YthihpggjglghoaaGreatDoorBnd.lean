/- wax.bounds: contract. -/
import Derived.Test.YthihpggjglghoaaGreatDoorBndA
namespace Go.Proofs.YthihpggjglghoaaGreatDoor
open Go.RowKit Go.Shelf

theorem reads_ok {l : List Int} {np : Int} (h : readsErr l np = 0) : ∀ r ∈ l, r = -1 ∨ 0 ≤ r ∧ r ≤ 100000 := by
  unfold readsErr at h
  by_cases hh : (l.length : Int) ≠ np
  · rw [if_pos hh] at h; simp at h
  · rw [if_neg hh] at h
    cases hA : l.any (fun n => decide (n ≠ -1 ∧ ¬ (0 ≤ n ∧ n ≤ 100000))) with
    | true => rw [hA] at h; simp at h
    | false =>
      intro r hr
      have := List.any_eq_false.1 hA r hr
      simp at this
      omega

set_option maxRecDepth 100000 in
set_option maxHeartbeats 4000000 in
theorem bounds_any {w : World} {pa ka ra : Option Addr} {pc kc rc : Nat} {t : Tab} {l : List Int} (h : TabIn w pa ka pc kc t) (hr : IntsIn w ra l) (hV : Valid t) (hl : readsErr l t.ps.length = 0)
    (a b : Nat) (xa xb : Kd) (hxa : t.ks[a]? = some xa) (hxb : t.ks[b]? = some xb) :
    Calls Tryz.prog 59 #[.agg #[.slice pa t.ps.length pc, .slice ka t.ks.length kc, .int .i64 t.pu, .slice ra l.length rc], .int .i64 a, .int .i64 b] w (BndsPost w (boundsK t.ps xa.rs xb.rs l l.length)) := by
  have hp := h.tab.lp
  have hk := h.tab.lk
  have hln := hr.len
  have ha : a < t.ks.length := (List.getElem?_eq_some_iff.1 hxa).1
  have hb : b < t.ks.length := (List.getElem?_eq_some_iff.1 hxb).1
  have hlenE : l.length = t.ps.length := by
    unfold readsErr at hl
    by_cases hh : (l.length : Int) ≠ t.ps.length
    · rw [if_pos hh] at hl; simp at hl
    · omega
  have hrdA : ∀ r ∈ l, r = -1 ∨ 0 ≤ r ∧ r ≤ 100000 := reads_ok hl
  have hraE : xa.rs.length = t.ps.length := hV.rl xa (List.mem_of_getElem? hxa)
  have hrbE : xb.rs.length = t.ps.length := hV.rl xb (List.mem_of_getElem? hxb)
  have HLEN := Lib.hid hlenE
  have HRA := Lib.hid hraE
  have HRB := Lib.hid hrbE
  have HRD := Lib.hid hrdA
  clear hlenE hraE hrbE hrdA
  have HA := Lib.hid hxa
  have HB := Lib.hid hxb
  have HH := Lib.hid h
  have HR := Lib.hid hr
  have HV := Lib.hid hV
  have HL := Lib.hid hl
  clear h hr hV hl hxa hxb
  go_enter Tryz.func59, Tryz.ntmps59
  go_wp2_with fail
  go_loopw [7, 17] (fun v i wr => ∃ k : Nat, k ≤ l.length ∧ i = .int .i64 k ∧ ∃ bs, Bnds wr (w.heap.size + 1) v bs ∧ Hid (bs = boundsK t.ps xa.rs xb.rs l k) ∧ bs.length ≤ 2 * k ∧ Below (w.heap.size + 1) (w.alloc (.cells #[.slice pa t.ps.length pc, .slice ka t.ks.length kc, .int .i64 t.pu, .slice ra l.length rc] 57)) wr) (fun _ i _ => l.length - (intOf i).toNat)
  case atStart => exact ⟨0, Nat.zero_le _, rfl, [], ⟨[], World.ownsRow_nil _ _ _ _, fun i y hy => by simp at hy⟩, rfl, by simp, Below.refl _ _⟩
  case round =>
    obtain ⟨k, hk2, rfl, bs, ⟨xs, hown, hcap⟩, HBS, hbl, hb1⟩ := hrel
    have HCAP := Lib.hid hcap
    clear hcap
    by_cases hlt : k < l.length
    · have hbw : Below w.heap.size w wr := ((Below.refl _ w).alloc (Nat.le_refl _) _).trans (hb1.mono (by omega))
      obtain ⟨rd, hrd⟩ : ∃ x, l[k]? = some x := ⟨l[k], List.getElem?_eq_getElem hlt⟩
      obtain ⟨rb, ro, era, hrB, hc1⟩ := ints_at (HR.out.on hbw).at_ hrd
      have b0 : wr.cell? ⟨w.heap.size, 0, none⟩ = some (.slice pa t.ps.length pc) := (hb1.cell (p := ⟨w.heap.size, 0, none⟩) (by simp)).trans (by simp)
      have b1 : wr.cell? ⟨w.heap.size, 1, none⟩ = some (.slice ka t.ks.length kc) := (hb1.cell (p := ⟨w.heap.size, 1, none⟩) (by simp)).trans (by simp)
      have hT := (HH.out.on hbw).tab
      have hsw : w.heap.size < wr.heap.size := by have := hb1.size; simp at this; omega
      obtain ⟨kb, ko, rfl, hkB, _, hka, hsa, hla⟩ := kinds_at hT.ks HA.out
      obtain ⟨kb', ko', ek, hkB', _, hkb, hsb, hlb⟩ := kinds_at hT.ks HB.out
      obtain ⟨rfl, rfl⟩ : kb = kb' ∧ ko = ko' := by simpa using ek
      subst era
      by_cases hun : rd = -1
      · subst hun
        have hat : boundsAt t.ps xa.rs xb.rs l k = [] := by
          simp only [boundsAt, hrd]
          split
          · rename_i r x y p h1 _ _ _
            obtain rfl : -1 = r := by simpa using h1
            simp
          · rfl
        have HAT := Lib.hid hat
        have H1 := Lib.hid hrd
        have HT := Lib.hid hT
        have hk3 : k + 1 ≤ l.length := hlt
        clear hat hrd hT hka hkb hsa hsb hla hlb ek
        go_wp2_with fail
        go_roundw
        case rel => exact ⟨k + 1, by omega, by go_num, bs, ⟨xs, hown, HCAP.out⟩, by show bs = _; rw [boundsK_succ, HAT.out, List.append_nil]; exact HBS.out, by omega, hb1⟩
        case measure => simp [intOf]; omega
      · have hlen := HLEN.out
        have hra := HRA.out
        have hrb := HRB.out
        have hrdb : 0 ≤ rd ∧ rd ≤ 100000 := by rcases HRD.out rd (List.mem_of_getElem? hrd) with h | h; exact absurd h hun; exact h
        obtain ⟨sa, hsa'⟩ : ∃ x, xa.rs[k]? = some x := ⟨xa.rs[k]'(by omega), List.getElem?_eq_getElem (by omega)⟩
        obtain ⟨sb, hsb'⟩ : ∃ x, xb.rs[k]? = some x := ⟨xb.rs[k]'(by omega), List.getElem?_eq_getElem (by omega)⟩
        obtain ⟨pp, hpp⟩ : ∃ x, t.ps[k]? = some x := ⟨t.ps[k]'(by omega), List.getElem?_eq_getElem (by omega)⟩
        have hsab : 0 ≤ sa.1 ∧ sa.1 ≤ sa.2 ∧ sa.2 ≤ 100000 := HV.out.rs xa (List.mem_of_getElem? HA.out) sa (List.mem_of_getElem? hsa')
        have hsbb : 0 ≤ sb.1 ∧ sb.1 ≤ sb.2 ∧ sb.2 ≤ 100000 := HV.out.rs xb (List.mem_of_getElem? HB.out) sb (List.mem_of_getElem? hsb')
        have herb : 0 ≤ pp.er ∧ pp.er ≤ 10000 := HV.out.er pp (List.mem_of_getElem? hpp)
        obtain ⟨ab, ao, ea, haB, ha0, ha1⟩ := spans_at hsa hsa'
        obtain ⟨bb, bo, eb, hbB, hb0, hb2⟩ := spans_at hsb hsb'
        obtain ⟨pb, po, rfl, hpB, hp0, hp1⟩ := props_at hT.ps hpp
        have hun' : (rd == -1) = false := by simp [hun]
        have hat : boundsAt t.ps xa.rs xb.rs l k = [(sa.1 - sb.1, 1000 * (rd + pp.er - sb.1)), (sb.2 - sa.2, 1000 * (sb.2 - (rd - pp.er)))] := by simp only [boundsAt, hrd, hsa', hsb', hpp, if_neg hun, bound2]
        have HAT := Lib.hid hat
        clear hat
        rw [ea] at hka
        rw [eb] at hkb
        have i1 : k < xa.rs.length := by omega
        have i2 : k < xb.rs.length := by omega
        have i3 : k < t.ps.length := by omega
        have H1 := Lib.hid hrd
        have H2 := Lib.hid hsa'
        have H3 := Lib.hid hsb'
        have H4 := Lib.hid hpp
        have H5 := Lib.hid hT
        have E1 := Lib.hid ea
        have E2 := Lib.hid eb
        clear hlen hra hrb hrd hsa' hsb' hpp hT ea eb ek hun
        go_upto_region 6 with (fail)
        go_cut [10, 11] (fun s10 s11 wx => ∃ X Y : Nat, s10 = .pointer (some ⟨X, 0, none⟩) ∧ s11 = .pointer (some ⟨Y, 0, none⟩) ∧ X < wx.heap.size ∧ Y < wx.heap.size ∧ wr.heap.size ≤ X ∧ wr.heap.size ≤ Y ∧ wx.cell? ⟨X, 0, none⟩ = some (.int .i64 sa.1) ∧ wx.cell? ⟨X, 1, none⟩ = some (.int .i64 sa.2) ∧ wx.cell? ⟨Y, 0, none⟩ = some (.int .i64 sb.1) ∧ wx.cell? ⟨Y, 1, none⟩ = some (.int .i64 sb.2) ∧ Below wr.heap.size wr wx)
        case first =>
          go_region_held3 (fun w' => w'.cell? ⟨w.heap.size, 1, none⟩ = some (.slice (some ⟨kb, ko, none⟩) t.ks.length kc) ∧ w'.cell? ⟨kb, ko + a * 2 + 1, none⟩ = some (.slice (some ⟨ab, ao, none⟩) xa.rs.length xa.cp) ∧ w'.cell? ⟨kb, ko + b * 2 + 1, none⟩ = some (.slice (some ⟨bb, bo, none⟩) xb.rs.length xb.cp) ∧
            w'.cell? ⟨ab, ao + k * 2, none⟩ = some (.int .i64 sa.1) ∧ w'.cell? ⟨ab, ao + k * 2 + 1, none⟩ = some (.int .i64 sa.2) ∧ w'.cell? ⟨bb, bo + k * 2, none⟩ = some (.int .i64 sb.1) ∧ w'.cell? ⟨bb, bo + k * 2 + 1, none⟩ = some (.int .i64 sb.2))
            (first | (simp [*]; done) | (simp [go_sem, *]; done)) (first | fail)
          · go_wp2_with fail
            go_meet
            exact ⟨wr.heap.size, wr.heap.size + 1, rfl, rfl, by simp <;> omega, by simp <;> omega, by omega, by omega, by simp, by simp, by simp, by simp, (((Below.refl _ wr).alloc (Nat.le_refl _) _).alloc (by simp) _).drew⟩
          · go_wp2_with fail
            go_meet
            exact ⟨wr.heap.size + 1, wr.heap.size, rfl, rfl, by simp <;> omega, by simp <;> omega, by omega, by omega, by simp, by simp, by simp, by simp, (((Below.refl _ wr).alloc (Nat.le_refl _) _).alloc (by simp) _).drew⟩
        case rest =>
          obtain ⟨X, Y, rfl, rfl, hX, hY, hXw, hYw, x0, x1, y0, y1, hbx⟩ := hcut
          have d0 := (hbx.cell (p := ⟨w.heap.size, 0, none⟩) hsw).trans b0
          have hX1 : X < wc.heap.size + 1 := by omega
          have hX2 : X < wc.heap.size + 1 + 1 := by omega
          have hX3 : X < wc.heap.size + 1 + 1 + 1 := by omega
          have hX4 : X < wc.heap.size + 1 + 1 + 1 + 1 := by omega
          have hY1 : Y < wc.heap.size + 1 := by omega
          have hY2 : Y < wc.heap.size + 1 + 1 := by omega
          have hY3 : Y < wc.heap.size + 1 + 1 + 1 := by omega
          have hY4 : Y < wc.heap.size + 1 + 1 + 1 + 1 := by omega
          have d1 := (hbx.cell (p := ⟨pb, po + k * 2 + 1, none⟩) hpB).trans hp1
          have k1 : IntKind.i64.wrap (rd - pp.er) = rd - pp.er := IntWalk.i64_in _ (by omega)
          have k2 : IntKind.i64.wrap (rd + pp.er) = rd + pp.er := IntWalk.i64_in _ (by omega)
          go_wp2_with fail
          go_region_held3 (fun w' => w'.cell? ⟨w.heap.size, 0, none⟩ = some (.slice (some ⟨pb, po, none⟩) t.ps.length pc) ∧ w'.cell? ⟨pb, po + k * 2 + 1, none⟩ = some (.int .i64 pp.er))
            (first | (simp [*]; done) | (simp [go_sem, *]; done)) (first | fail)
          have hownc := own_below hown hbx
          have HO := Lib.hid hownc
          have aX := own_lt hown hXw
          have aY := own_lt hown hYw
          obtain ⟨i0, hi0, hz0, hz1, hz2⟩ := info_parts Tryz.infoBound
          have hl5 := HV.out.np
          have hlenE := HLEN.out
          have hn63 : bs.length + 2 ≤ maxLen := by unfold maxLen; omega
          have hby : (bs.length + 2) * 8 ≤ 140737488355328 := by omega
          have hbase : w.heap.size + 1 ≤ wc.heap.size := by have := hbx.size; omega
          have HN0 := Lib.hid (⟨hn63, hby⟩ : bs.length + 2 ≤ maxLen ∧ (bs.length + 2) * 8 ≤ 140737488355328)
          clear hlenE hl5 hownc
          have k3 : IntKind.i64.wrap (sa.1 - sb.1) = sa.1 - sb.1 := IntWalk.i64_in _ (by omega)
          have k4 : IntKind.i64.wrap (rd + pp.er - sb.1) = rd + pp.er - sb.1 := IntWalk.i64_in _ (by omega)
          have k5 : IntKind.i64.wrap (1000 * (rd + pp.er - sb.1)) = 1000 * (rd + pp.er - sb.1) := IntWalk.i64_in _ (by omega)
          have k6 : IntKind.i64.wrap (sb.2 - sa.2) = sb.2 - sa.2 := IntWalk.i64_in _ (by omega)
          have k7 : IntKind.i64.wrap (sb.2 - (rd - pp.er)) = sb.2 - (rd - pp.er) := IntWalk.i64_in _ (by omega)
          have k8 : IntKind.i64.wrap (1000 * (sb.2 - (rd - pp.er))) = 1000 * (sb.2 - (rd - pp.er)) := IntWalk.i64_in _ (by omega)
          go_wp2_with fail
          clear hn63 hby
          have HN := Lib.hid (show bs.length + 2 ≤ maxLen ∧ (bs.length + 2) * 8 ≤ 140737488355328 from HN0.out)
          go_region_held3 (fun w' => w'.cell? ⟨X, 0, none⟩ = some (.int .i64 sa.1) ∧ w'.cell? ⟨X, 1, none⟩ = some (.int .i64 sa.2) ∧ w'.cell? ⟨Y, 0, none⟩ = some (.int .i64 sb.1) ∧ w'.cell? ⟨Y, 1, none⟩ = some (.int .i64 sb.2))
            (first | (simp [*]; done) | (simp [go_sem, *]; done) | (go_split_ands; exact ⟨(hgrow.cell_far ⟨X, 0, none⟩ (by simp; omega) aX).trans (by assumption), (hgrow.cell_far ⟨X, 1, none⟩ (by simp; omega) aX).trans (by assumption), (hgrow.cell_far ⟨Y, 0, none⟩ (by simp; omega) aY).trans (by assumption), (hgrow.cell_far ⟨Y, 1, none⟩ (by simp; omega) aY).trans (by assumption)⟩))
            (first | (go_at_call 87; refine (atMost_any _ _ _).mono ?_; rintro e w' ⟨rfl, rfl⟩) | (refine step_append_lies _ (by rfl) _ _ _ (by rfl) (w.heap.size + 1) 137 i0 .nilFunc 1 8 Tryz.underlying109 hi0 hz0 hz1 hz2 rfl (by omega) u7 bs.length xs (by rfl) (((((((HO.out.alloc _).alloc _).alloc _).alloc _).alloc _).drew).drew) ⟨wc.heap.size + 1 + 1 + 1 + 1, 0, none⟩ 2 2 [.func (.func 104) #[] #[.pointer (some ⟨wc.heap.size, 0, none⟩), .pointer (some ⟨wc.heap.size + 1, 0, none⟩)], .func (.func 104) #[] #[.pointer (some ⟨wc.heap.size + 1 + 1, 0, none⟩), .pointer (some ⟨wc.heap.size + 1 + 1 + 1, 0, none⟩)]] (by rfl) (by rfl) (World.news_of_block (cs := #[.func (.func 104) #[] #[.pointer (some ⟨wc.heap.size, 0, none⟩), .pointer (some ⟨wc.heap.size + 1, 0, none⟩)], .func (.func 104) #[] #[.pointer (some ⟨wc.heap.size + 1 + 1, 0, none⟩), .pointer (some ⟨wc.heap.size + 1 + 1 + 1, 0, none⟩)]]) (t := 137) (fr := (0, 0)) (new_at2 _ _ _ (by simp))) (by simp [Value.oneCell']) (by omega) HN.out.1 HN.out.2 (by simp; omega) (wc.heap.size + 1 + 1 + 1 + 1 + 1) (by simp) ?_; intro gg cap w1 hown1 hgrow hat hlt))
          go_wp2_with fail
          have hbnd := Bnds.more hown HCAP.out hbx hbase rfl rfl hgrow hown1
          have hbw1 : Below (w.heap.size + 1) wr w1 := (hbx.mono (by omega)).trans ((((((((Below.refl _ wc).alloc hbase _).alloc (by simp; omega) _).alloc (by simp; omega) _).alloc (by simp; omega) _).alloc (by simp; omega) _).drew.drew).grown hgrow (by simp; omega) (fun g e => by
            rcases hown.2 with ⟨h2, _⟩ | ⟨g', cap', cur', hv', hg', r'⟩
            · rw [h2] at e; cases e
            · rw [hv'] at e
              have e2 : g' = g := by simpa [Value.ownBlock] using e
              omega))
          go_roundw
          case rel => exact ⟨k + 1, by omega, by go_num, bs ++ [(sa.1 - sb.1, 1000 * (rd + pp.er - sb.1)), (sb.2 - sa.2, 1000 * (sb.2 - (rd - pp.er)))], by simpa using hbnd, by show _ = _; rw [boundsK_succ, HAT.out, ← HBS.out], by simp; omega, hb1.trans hbw1⟩
          case measure => simp [intOf]; omega
    · have hke : k = l.length := by omega
      have HKE := Lib.hid hke
      clear hke
      go_wp2_with fail
      go_ret
      exact ⟨_, rfl, Bnds.base (B := w.heap.size + 1) ⟨xs, by rw [show boundsK t.ps xa.rs xb.rs l l.length = bs from by rw [HBS.out, HKE.out]]; exact hown, by rw [show boundsK t.ps xa.rs xb.rs l l.length = bs from by rw [HBS.out, HKE.out]]; exact HCAP.out⟩ (by omega), ((Below.refl _ w).alloc (Nat.le_refl _) _).trans (hb1.mono (by omega))⟩
end Go.Proofs.YthihpggjglghoaaGreatDoor
