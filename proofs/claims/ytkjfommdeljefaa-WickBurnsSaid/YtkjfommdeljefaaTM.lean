/- ref03.True: its contract. -/
import Derived.Test.YtkjfommdeljefaaTL
namespace Go.Proofs.Ytkjfommdeljefaa
open Go.RowKit Go.Shelf Go.Maps
attribute [local go_sem] Oper.semAt_some


set_option maxRecDepth 100000 in
set_option maxHeartbeats 4000000 in
theorem rtrue_any {w : World} {p : Sp} {c : Cd} {q : Int} {k : Wk} {x : Wx} (t : Tu) (h : ShIn w p) (h0 : 0 ≤ q) (hkk : p.s.ks[q.toNat]? = some k) (hc0 : 0 ≤ c.wax) (hxx : p.s.xs[c.wax.toNat]? = some x) (hd : 0 ≤ c.dra ∧ c.dra ≤ 90) :
    Calls Try.prog 53 #[.agg #[.slice p.ka p.s.ks.length p.kc, .slice p.xa p.s.xs.length p.xc, .int .i64 p.s.flo, .int .i64 p.s.fhi, .int .i64 p.s.plo, .int .i64 p.s.phi], .int .i64 q, .agg #[.int .i64 c.wax, .int .i64 c.dia, .int .i64 c.dra, .int .i64 c.clo, .int .i64 c.chi], .agg #[.int .i64 t.pull, .int .i64 t.flow, .int .i64 t.rise, .int .i64 t.spr, .int .i64 t.dra, .int .i64 t.cold]] w fun e w' => e = .returned (.bool (tuB k x c t)) ∧ Below w.heap.size w w' := by
  obtain ⟨b, o, hka, hbb, kc0, kc1, kc2, kc3⟩ := wks_at h.ks.at_ hkk
  obtain ⟨vb, vo, hxa, hxb, d0, d1, d2, d3, d4, d5, d6, d7⟩ := wxs_at h.xs.at_ hxx
  have hwl : c.wax < p.s.xs.length := by have := (List.getElem?_eq_some_iff.1 hxx).1; omega
  have HK := Lib.hid (And.intro hbb (And.intro kc2 kc3))
  have HQ := Lib.hid (And.intro h0 (show q < p.s.ks.length by have := (List.getElem?_eq_some_iff.1 hkk).1; omega))
  have HWR := Lib.hid (show IntKind.i64.wrap (-c.dra) = -c.dra from IntWalk.i64_in _ (by omega))
  have hb0 := (((Bx.nil w).alloc #[.slice p.ka p.s.ks.length p.kc, .slice p.xa p.s.xs.length p.xc, .int .i64 p.s.flo, .int .i64 p.s.fhi, .int .i64 p.s.plo, .int .i64 p.s.phi] 27).alloc #[.int .i64 c.wax, .int .i64 c.dia, .int .i64 c.dra, .int .i64 c.clo, .int .i64 c.chi] 34).alloc #[.int .i64 t.pull, .int .i64 t.flow, .int .i64 t.rise, .int .i64 t.spr, .int .i64 t.dra, .int .i64 t.cold] 36
  simp only [World.size_alloc] at hb0
  have HB := Lib.hid hb0
  replace d0 := (HB.out.b.cell (p := ⟨vb, vo + c.wax.toNat * 8, none⟩) hxb).trans d0
  replace d1 := (HB.out.b.cell (p := ⟨vb, vo + c.wax.toNat * 8 + 1, none⟩) hxb).trans d1
  replace d2 := (HB.out.b.cell (p := ⟨vb, vo + c.wax.toNat * 8 + 2, none⟩) hxb).trans d2
  replace d3 := (HB.out.b.cell (p := ⟨vb, vo + c.wax.toNat * 8 + 3, none⟩) hxb).trans d3
  replace d4 := (HB.out.b.cell (p := ⟨vb, vo + c.wax.toNat * 8 + 4, none⟩) hxb).trans d4
  replace d5 := (HB.out.b.cell (p := ⟨vb, vo + c.wax.toNat * 8 + 5, none⟩) hxb).trans d5
  replace d6 := (HB.out.b.cell (p := ⟨vb, vo + c.wax.toNat * 8 + 6, none⟩) hxb).trans d6
  replace d7 := (HB.out.b.cell (p := ⟨vb, vo + c.wax.toNat * 8 + 7, none⟩) hxb).trans d7
  obtain ⟨s, ka, kc, xa, xc⟩ := p
  simp only at hka hxa hwl HQ HB d0 d1 d2 d3 d4 d5 d6 d7
  subst hka hxa
  have hd0 := HB.out.alloc #[.string x.nm, .int .i64 x.flo, .int .i64 x.fhi, .int .i64 x.rlo, .int .i64 x.rhi, .int .i64 x.slo, .int .i64 x.shi, .int .i64 x.ch] 80
  simp only [World.size_alloc] at hd0
  have HD := Lib.hid hd0
  clear h h0 hkk hxx hd hbb kc0 kc1 kc2 kc3 hb0 hd0
  go_enter Try.func53, Try.ntmps53
  go_wp2_with fail
  clear d0 d1 d2 d3 d4 d5 d6 d7
  have HT : Hid (tuB k x c t = (inB t.pull k.plo k.phi && inB t.flow x.flo x.fhi && inB t.rise x.rlo x.rhi && inB t.spr x.slo x.shi && inB t.dra (-c.dra) c.dra && inB t.cold c.clo c.chi)) := Lib.hid rfl
  cases hb0 : inB t.pull k.plo k.phi with
  | false =>
    have HV := Lib.hid (show tuB k x c t = false by rw [HT.out]; simp [hb0])
    clear HT
    refine wp_of_eq (rt0_region (S := Bx w [(w.heap.size + 1 + 1 + 1, 80, #[.string x.nm, .int .i64 x.flo, .int .i64 x.fhi, .int .i64 x.rlo, .int .i64 x.rhi, .int .i64 x.slo, .int .i64 x.shi, .int .i64 x.ch]), (w.heap.size + 1 + 1, 36, #[.int .i64 t.pull, .int .i64 t.flow, .int .i64 t.rise, .int .i64 t.spr, .int .i64 t.dra, .int .i64 t.cold]), (w.heap.size + 1, 34, #[.int .i64 c.wax, .int .i64 c.dia, .int .i64 c.dra, .int .i64 c.clo, .int .i64 c.chi]), (w.heap.size, 27, #[.slice (some ⟨b, o, none⟩) s.ks.length kc, .slice (some ⟨vb, vo, none⟩) s.xs.length xc, .int .i64 s.flo, .int .i64 s.fhi, .int .i64 s.plo, .int .i64 s.phi])]) (fun W W' h hb => h.on hb) (P := w.heap.size) (C := w.heap.size + 1) (T0 := w.heap.size + 1 + 1) (Gw := w.heap.size + 1 + 1 + 1) (b := b) (o := o) (xb := vb) (xo := vo) (qk := q) (p := ⟨s, some ⟨b, o, none⟩, kc, some ⟨vb, vo, none⟩, xc⟩) (c := c) (k := k) (x := x) (t := t) HQ.out.1 HQ.out.2 HWR.out (fun W h => h.get (by simp)) (fun W h => h.get (by simp)) (fun W h => h.get (by simp)) (fun W h => h.get (by simp)) (fun W h => ⟨(h.b.cell (p := ⟨b, o + q.toNat * 4 + 2, none⟩) HK.out.1).trans HK.out.2.1, (h.b.cell (p := ⟨b, o + q.toNat * 4 + 3, none⟩) HK.out.1).trans HK.out.2.2⟩) hb0 HD (Lib.hid fun u W h => ?_)) (by kernel_rfl)
    have HG := Lib.hid h.b
    clear h
    go_wp2_with fail
    go_ret
    exact ⟨ret_bool HV.out.symm, HG.out⟩
  | true =>
    cases hb1 : inB t.flow x.flo x.fhi with
    | false =>
      have HV := Lib.hid (show tuB k x c t = false by rw [HT.out]; simp [hb0, hb1])
      clear HT
      refine wp_of_eq (rt1_region (S := Bx w [(w.heap.size + 1 + 1 + 1, 80, #[.string x.nm, .int .i64 x.flo, .int .i64 x.fhi, .int .i64 x.rlo, .int .i64 x.rhi, .int .i64 x.slo, .int .i64 x.shi, .int .i64 x.ch]), (w.heap.size + 1 + 1, 36, #[.int .i64 t.pull, .int .i64 t.flow, .int .i64 t.rise, .int .i64 t.spr, .int .i64 t.dra, .int .i64 t.cold]), (w.heap.size + 1, 34, #[.int .i64 c.wax, .int .i64 c.dia, .int .i64 c.dra, .int .i64 c.clo, .int .i64 c.chi]), (w.heap.size, 27, #[.slice (some ⟨b, o, none⟩) s.ks.length kc, .slice (some ⟨vb, vo, none⟩) s.xs.length xc, .int .i64 s.flo, .int .i64 s.fhi, .int .i64 s.plo, .int .i64 s.phi])]) (fun W W' h hb => h.on hb) (P := w.heap.size) (C := w.heap.size + 1) (T0 := w.heap.size + 1 + 1) (Gw := w.heap.size + 1 + 1 + 1) (b := b) (o := o) (xb := vb) (xo := vo) (qk := q) (p := ⟨s, some ⟨b, o, none⟩, kc, some ⟨vb, vo, none⟩, xc⟩) (c := c) (k := k) (x := x) (t := t) HQ.out.1 HQ.out.2 HWR.out (fun W h => h.get (by simp)) (fun W h => h.get (by simp)) (fun W h => h.get (by simp)) (fun W h => h.get (by simp)) (fun W h => ⟨(h.b.cell (p := ⟨b, o + q.toNat * 4 + 2, none⟩) HK.out.1).trans HK.out.2.1, (h.b.cell (p := ⟨b, o + q.toNat * 4 + 3, none⟩) HK.out.1).trans HK.out.2.2⟩) hb0 hb1 HD (Lib.hid fun u W h => ?_)) (by kernel_rfl)
      have HG := Lib.hid h.b
      clear h
      go_wp2_with fail
      go_ret
      exact ⟨ret_bool HV.out.symm, HG.out⟩
    | true =>
      cases hb2 : inB t.rise x.rlo x.rhi with
      | false =>
        have HV := Lib.hid (show tuB k x c t = false by rw [HT.out]; simp [hb0, hb1, hb2])
        clear HT
        refine wp_of_eq (rt2_region (S := Bx w [(w.heap.size + 1 + 1 + 1, 80, #[.string x.nm, .int .i64 x.flo, .int .i64 x.fhi, .int .i64 x.rlo, .int .i64 x.rhi, .int .i64 x.slo, .int .i64 x.shi, .int .i64 x.ch]), (w.heap.size + 1 + 1, 36, #[.int .i64 t.pull, .int .i64 t.flow, .int .i64 t.rise, .int .i64 t.spr, .int .i64 t.dra, .int .i64 t.cold]), (w.heap.size + 1, 34, #[.int .i64 c.wax, .int .i64 c.dia, .int .i64 c.dra, .int .i64 c.clo, .int .i64 c.chi]), (w.heap.size, 27, #[.slice (some ⟨b, o, none⟩) s.ks.length kc, .slice (some ⟨vb, vo, none⟩) s.xs.length xc, .int .i64 s.flo, .int .i64 s.fhi, .int .i64 s.plo, .int .i64 s.phi])]) (fun W W' h hb => h.on hb) (P := w.heap.size) (C := w.heap.size + 1) (T0 := w.heap.size + 1 + 1) (Gw := w.heap.size + 1 + 1 + 1) (b := b) (o := o) (xb := vb) (xo := vo) (qk := q) (p := ⟨s, some ⟨b, o, none⟩, kc, some ⟨vb, vo, none⟩, xc⟩) (c := c) (k := k) (x := x) (t := t) HQ.out.1 HQ.out.2 HWR.out (fun W h => h.get (by simp)) (fun W h => h.get (by simp)) (fun W h => h.get (by simp)) (fun W h => h.get (by simp)) (fun W h => ⟨(h.b.cell (p := ⟨b, o + q.toNat * 4 + 2, none⟩) HK.out.1).trans HK.out.2.1, (h.b.cell (p := ⟨b, o + q.toNat * 4 + 3, none⟩) HK.out.1).trans HK.out.2.2⟩) hb0 hb1 hb2 HD (Lib.hid fun u W h => ?_)) (by kernel_rfl)
        have HG := Lib.hid h.b
        clear h
        go_wp2_with fail
        go_ret
        exact ⟨ret_bool HV.out.symm, HG.out⟩
      | true =>
        cases hb3 : inB t.spr x.slo x.shi with
        | false =>
          have HV := Lib.hid (show tuB k x c t = false by rw [HT.out]; simp [hb0, hb1, hb2, hb3])
          clear HT
          refine wp_of_eq (rt3_region (S := Bx w [(w.heap.size + 1 + 1 + 1, 80, #[.string x.nm, .int .i64 x.flo, .int .i64 x.fhi, .int .i64 x.rlo, .int .i64 x.rhi, .int .i64 x.slo, .int .i64 x.shi, .int .i64 x.ch]), (w.heap.size + 1 + 1, 36, #[.int .i64 t.pull, .int .i64 t.flow, .int .i64 t.rise, .int .i64 t.spr, .int .i64 t.dra, .int .i64 t.cold]), (w.heap.size + 1, 34, #[.int .i64 c.wax, .int .i64 c.dia, .int .i64 c.dra, .int .i64 c.clo, .int .i64 c.chi]), (w.heap.size, 27, #[.slice (some ⟨b, o, none⟩) s.ks.length kc, .slice (some ⟨vb, vo, none⟩) s.xs.length xc, .int .i64 s.flo, .int .i64 s.fhi, .int .i64 s.plo, .int .i64 s.phi])]) (fun W W' h hb => h.on hb) (P := w.heap.size) (C := w.heap.size + 1) (T0 := w.heap.size + 1 + 1) (Gw := w.heap.size + 1 + 1 + 1) (b := b) (o := o) (xb := vb) (xo := vo) (qk := q) (p := ⟨s, some ⟨b, o, none⟩, kc, some ⟨vb, vo, none⟩, xc⟩) (c := c) (k := k) (x := x) (t := t) HQ.out.1 HQ.out.2 HWR.out (fun W h => h.get (by simp)) (fun W h => h.get (by simp)) (fun W h => h.get (by simp)) (fun W h => h.get (by simp)) (fun W h => ⟨(h.b.cell (p := ⟨b, o + q.toNat * 4 + 2, none⟩) HK.out.1).trans HK.out.2.1, (h.b.cell (p := ⟨b, o + q.toNat * 4 + 3, none⟩) HK.out.1).trans HK.out.2.2⟩) hb0 hb1 hb2 hb3 HD (Lib.hid fun u W h => ?_)) (by kernel_rfl)
          have HG := Lib.hid h.b
          clear h
          go_wp2_with fail
          go_ret
          exact ⟨ret_bool HV.out.symm, HG.out⟩
        | true =>
          cases hb4 : inB t.dra (-c.dra) c.dra with
          | false =>
            have HV := Lib.hid (show tuB k x c t = false by rw [HT.out]; simp [hb0, hb1, hb2, hb3, hb4])
            clear HT
            refine wp_of_eq (rt4_region (S := Bx w [(w.heap.size + 1 + 1 + 1, 80, #[.string x.nm, .int .i64 x.flo, .int .i64 x.fhi, .int .i64 x.rlo, .int .i64 x.rhi, .int .i64 x.slo, .int .i64 x.shi, .int .i64 x.ch]), (w.heap.size + 1 + 1, 36, #[.int .i64 t.pull, .int .i64 t.flow, .int .i64 t.rise, .int .i64 t.spr, .int .i64 t.dra, .int .i64 t.cold]), (w.heap.size + 1, 34, #[.int .i64 c.wax, .int .i64 c.dia, .int .i64 c.dra, .int .i64 c.clo, .int .i64 c.chi]), (w.heap.size, 27, #[.slice (some ⟨b, o, none⟩) s.ks.length kc, .slice (some ⟨vb, vo, none⟩) s.xs.length xc, .int .i64 s.flo, .int .i64 s.fhi, .int .i64 s.plo, .int .i64 s.phi])]) (fun W W' h hb => h.on hb) (P := w.heap.size) (C := w.heap.size + 1) (T0 := w.heap.size + 1 + 1) (Gw := w.heap.size + 1 + 1 + 1) (b := b) (o := o) (xb := vb) (xo := vo) (qk := q) (p := ⟨s, some ⟨b, o, none⟩, kc, some ⟨vb, vo, none⟩, xc⟩) (c := c) (k := k) (x := x) (t := t) HQ.out.1 HQ.out.2 HWR.out (fun W h => h.get (by simp)) (fun W h => h.get (by simp)) (fun W h => h.get (by simp)) (fun W h => h.get (by simp)) (fun W h => ⟨(h.b.cell (p := ⟨b, o + q.toNat * 4 + 2, none⟩) HK.out.1).trans HK.out.2.1, (h.b.cell (p := ⟨b, o + q.toNat * 4 + 3, none⟩) HK.out.1).trans HK.out.2.2⟩) hb0 hb1 hb2 hb3 hb4 HD (Lib.hid fun u W h => ?_)) (by kernel_rfl)
            have HG := Lib.hid h.b
            clear h
            go_wp2_with fail
            go_ret
            exact ⟨ret_bool HV.out.symm, HG.out⟩
          | true =>
            cases hb5 : inB t.cold c.clo c.chi with
            | false =>
              have HV := Lib.hid (show tuB k x c t = false by rw [HT.out]; simp [hb0, hb1, hb2, hb3, hb4, hb5])
              clear HT
              refine wp_of_eq (rt5_region (S := Bx w [(w.heap.size + 1 + 1 + 1, 80, #[.string x.nm, .int .i64 x.flo, .int .i64 x.fhi, .int .i64 x.rlo, .int .i64 x.rhi, .int .i64 x.slo, .int .i64 x.shi, .int .i64 x.ch]), (w.heap.size + 1 + 1, 36, #[.int .i64 t.pull, .int .i64 t.flow, .int .i64 t.rise, .int .i64 t.spr, .int .i64 t.dra, .int .i64 t.cold]), (w.heap.size + 1, 34, #[.int .i64 c.wax, .int .i64 c.dia, .int .i64 c.dra, .int .i64 c.clo, .int .i64 c.chi]), (w.heap.size, 27, #[.slice (some ⟨b, o, none⟩) s.ks.length kc, .slice (some ⟨vb, vo, none⟩) s.xs.length xc, .int .i64 s.flo, .int .i64 s.fhi, .int .i64 s.plo, .int .i64 s.phi])]) (fun W W' h hb => h.on hb) (P := w.heap.size) (C := w.heap.size + 1) (T0 := w.heap.size + 1 + 1) (Gw := w.heap.size + 1 + 1 + 1) (b := b) (o := o) (xb := vb) (xo := vo) (qk := q) (p := ⟨s, some ⟨b, o, none⟩, kc, some ⟨vb, vo, none⟩, xc⟩) (c := c) (k := k) (x := x) (t := t) HQ.out.1 HQ.out.2 HWR.out (fun W h => h.get (by simp)) (fun W h => h.get (by simp)) (fun W h => h.get (by simp)) (fun W h => h.get (by simp)) (fun W h => ⟨(h.b.cell (p := ⟨b, o + q.toNat * 4 + 2, none⟩) HK.out.1).trans HK.out.2.1, (h.b.cell (p := ⟨b, o + q.toNat * 4 + 3, none⟩) HK.out.1).trans HK.out.2.2⟩) hb0 hb1 hb2 hb3 hb4 hb5 HD (Lib.hid fun u W h => ?_)) (by kernel_rfl)
              have HG := Lib.hid h.b
              clear h
              go_wp2_with fail
              go_ret
              exact ⟨ret_bool HV.out.symm, HG.out⟩
            | true =>
              have HV := Lib.hid (show tuB k x c t = true by rw [HT.out]; simp [hb0, hb1, hb2, hb3, hb4, hb5])
              clear HT
              refine wp_of_eq (rt6_region (S := Bx w [(w.heap.size + 1 + 1 + 1, 80, #[.string x.nm, .int .i64 x.flo, .int .i64 x.fhi, .int .i64 x.rlo, .int .i64 x.rhi, .int .i64 x.slo, .int .i64 x.shi, .int .i64 x.ch]), (w.heap.size + 1 + 1, 36, #[.int .i64 t.pull, .int .i64 t.flow, .int .i64 t.rise, .int .i64 t.spr, .int .i64 t.dra, .int .i64 t.cold]), (w.heap.size + 1, 34, #[.int .i64 c.wax, .int .i64 c.dia, .int .i64 c.dra, .int .i64 c.clo, .int .i64 c.chi]), (w.heap.size, 27, #[.slice (some ⟨b, o, none⟩) s.ks.length kc, .slice (some ⟨vb, vo, none⟩) s.xs.length xc, .int .i64 s.flo, .int .i64 s.fhi, .int .i64 s.plo, .int .i64 s.phi])]) (fun W W' h hb => h.on hb) (P := w.heap.size) (C := w.heap.size + 1) (T0 := w.heap.size + 1 + 1) (Gw := w.heap.size + 1 + 1 + 1) (b := b) (o := o) (xb := vb) (xo := vo) (qk := q) (p := ⟨s, some ⟨b, o, none⟩, kc, some ⟨vb, vo, none⟩, xc⟩) (c := c) (k := k) (x := x) (t := t) HQ.out.1 HQ.out.2 HWR.out (fun W h => h.get (by simp)) (fun W h => h.get (by simp)) (fun W h => h.get (by simp)) (fun W h => h.get (by simp)) (fun W h => ⟨(h.b.cell (p := ⟨b, o + q.toNat * 4 + 2, none⟩) HK.out.1).trans HK.out.2.1, (h.b.cell (p := ⟨b, o + q.toNat * 4 + 3, none⟩) HK.out.1).trans HK.out.2.2⟩) hb0 hb1 hb2 hb3 hb4 hb5 HD (Lib.hid fun u W h => ?_)) (by kernel_rfl)
              have HG := Lib.hid h.b
              clear h
              go_wp2_with fail
              go_ret
              exact ⟨ret_bool HV.out.symm, HG.out⟩
end Go.Proofs.Ytkjfommdeljefaa
