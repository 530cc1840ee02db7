/- Layer blend, a part: Raise. No statement is proved here. -/
import Derived.Test.YtalghiecjhfflaaGg
namespace Go.Proofs.Ytalghiecjhfflaa
open Go.RowKit Go.Shelf Go.Maps
attribute [local go_sem] Oper.semAt_some

set_option maxRecDepth 100000 in
set_option maxHeartbeats 4000000 in
theorem raises_any {w : World} {b o : Nat} {m : Int} {x : Bw} (h : WxP w b o x) (ok : BwOk x) (hm : 0 ≤ m ∧ m ≤ 20) :
    Calls Try.prog 57 #[poV b o m] w fun e w' => e = .returned (.int .i64 (addV m x.cv)) ∧ Below w.heap.size w w' := by
  have hlen := ok.len
  have HX := Lib.hid h
  have HOK := Lib.hid ok
  have HM := Lib.hid hm
  have HSr := Lib.hid (fun (W : World) (hW : Below w.heap.size w W) => search_any (w := W) (V := poV b o m) (h := upQ x.cv m) (n := x.cv.length) (by omega) (upQ_mono ok.up) (fun W' hb k hk => by
    have hq : x.cv[k]? = some x.cv[k] := List.getElem?_eq_getElem hk
    rw [upQ_at hq]
    exact upTo_any (h.on (hW.trans (hb.mono hW.size))) hq))
  have hle := splitAt_le (upQ x.cv m) x.cv.length
  have HS0 := Lib.hid ((Bx.nil w).alloc #[.pointer (some ⟨b, o, none⟩), .int .i64 m] 98)
  have HZ : Hid (∃ s, splitAt (upQ x.cv m) x.cv.length = s) := ⟨_, rfl⟩
  obtain ⟨s, HZ⟩ := HZ.out
  rw [HZ] at HSr hle
  have HZ := Lib.hid HZ
  clear h ok hm
  go_enter Try.func57, Try.ntmps57
  go_wp2_with fail
  refine wp_of_eq (ra1_region (S := Bx w [(w.heap.size, 98, #[.pointer (some ⟨b, o, none⟩), .int .i64 m])]) (fun _ _ h hb => h.on hb) (P := w.heap.size) (bb := b) (oo := o) (m := m) (z := (s : Int)) (x := x) (fun W h => h.get (by simp)) (fun W h => HX.out.on h.b) (Lib.hid fun W h => HSr.out W h.b) HS0 (Lib.hid fun u W hS => ?_)) (by kernel_rfl)
  have HS := Lib.hid hS
  have hk := hS.get (g := w.heap.size) (cs := #[.pointer (some ⟨b, o, none⟩), .int .i64 m]) (T := 98) (by simp)
  have k0 := hk.cell 0
  have k1 := hk.cell 1
  have h2 := HX.out.on hS.b
  have hlt := h2.lt
  have c6 := h2.c6
  clear hk hS h2 HSr HS0
  rcases Nat.eq_zero_or_pos x.cv.length with h0 | h0
  · have H := Lib.hid (addV_none (n := m) h0)
    rw [h0] at c6
    go_wp2_with fail
    go_ret
    exact ⟨ret_i64 H.out.symm, HS.out.b⟩
  · have h0i : ¬ (x.cv.length : Int) = 0 := by omega
    have h0p : (0 : Int) < (x.cv.length : Int) := by omega
    rcases Nat.eq_zero_or_pos s with h1 | h1
    · obtain ⟨a, ha⟩ : ∃ a, x.cv[0]? = some a := ⟨x.cv[0], List.getElem?_eq_getElem h0⟩
      have H := Lib.hid (addV_first (n := m) ha (by rw [HZ.out, h1]))
      obtain ⟨cb, co, e, hcb, p0, p1⟩ := pts_at (HX.out.on HS.out.b).cv.at_ ha
      rw [e] at c6
      have q0 : W.cell? ⟨cb, co, none⟩ = some (.int .i64 a.p) := by simpa using p0
      have q1 : W.cell? ⟨cb, co + 1, none⟩ = some (.int .i64 a.a) := by simpa using p1
      subst h1
      clear ha e HZ
      go_wp2_with fail
      go_ret
      exact ⟨ret_i64 H.out.symm, HS.out.b⟩
    · obtain ⟨e, he⟩ : ∃ e, s = e + 1 := ⟨s - 1, by omega⟩
      have h1i : ¬ (s : Int) = 0 := by omega
      have hel : e < x.cv.length := by omega
      obtain ⟨a, ha⟩ : ∃ a, x.cv[e]? = some a := ⟨x.cv[e], List.getElem?_eq_getElem hel⟩
      obtain ⟨cb, co, ec, hcb, p0, p1⟩ := pts_at HX.out.cv.at_ ha
      have hw : IntKind.i64.wrap ((s : Int) - 1) = (e : Int) := by rw [IntWalk.i64_in _ (by omega)]; omega
      have heli : (e : Int) < (x.cv.length : Int) := by omega
      by_cases h2 : s = x.cv.length
      · have H := Lib.hid (addV_last (n := m) ha (by rw [HZ.out, he]) (by omega))
        have h2i : (s : Int) = (x.cv.length : Int) := by omega
        rw [ec] at c6
        have q0 := (HS.out.b.cell (p := ⟨cb, co + e * 2, none⟩) hcb).trans p0
        have q1 := (HS.out.b.cell (p := ⟨cb, co + e * 2 + 1, none⟩) hcb).trans p1
        have q2 : W.cell? ⟨cb, co + (x.cv.length - 1) * 2 + 1, none⟩ = some (.int .i64 a.a) := by rw [show x.cv.length - 1 = e by omega]; exact q1
        clear ha ec HZ he h2 p0 p1
        go_wp2_with fail
        go_ret
        exact ⟨ret_i64 H.out.symm, HS.out.b⟩
      · obtain ⟨d, hd⟩ : ∃ d, x.cv[e + 1]? = some d := ⟨x.cv[e + 1], List.getElem?_eq_getElem (by omega)⟩
        obtain ⟨cb2, co2, ec2, _, r0, r1⟩ := pts_at HX.out.cv.at_ hd
        obtain ⟨rfl, rfl⟩ : cb = cb2 ∧ co = co2 := by rw [ec] at ec2; simpa using ec2
        have H := Lib.hid (addV_mid (n := m) ha hd (by rw [HZ.out, he]))
        have h2i : ¬ (s : Int) = (x.cv.length : Int) := by omega
        have hsl : (s : Int) < (x.cv.length : Int) := by omega
        have hse : s = e + 1 := he
        rw [ec] at c6
        have HXc := Lib.hid (fun (W : World) (hb : Below w.heap.size w W) => (HX.out.on hb).c6)
        rw [ec] at HXc
        have HP := Lib.hid (And.intro p0 p1)
        rw [← hse] at r0 r1
        have HR := Lib.hid (And.intro r0 r1)
        have HCB := Lib.hid hcb
        have hia := HOK.out.cv a (List.mem_of_getElem? ha)
        have hid := HOK.out.cv d (List.mem_of_getElem? hd)
        have hup : a.p < d.p := by
          have := List.pairwise_iff_getElem.1 HOK.out.up e (e + 1) hel (by omega) (by omega)
          rw [← (List.getElem?_eq_some_iff.1 ha).2, ← (List.getElem?_eq_some_iff.1 hd).2]; exact this
        have HI := Lib.hid (mid_in hia.2 hid.2 HM.out hia.1)
        have HF := Lib.hid (floor_any (a := (d.a - a.a) * (m - a.p)) (b := d.p - a.p) (by omega) (by have := HI.out.1; omega))
        have w1 : IntKind.i64.wrap (d.a - a.a) = d.a - a.a := IntWalk.i64_in _ (by omega)
        have w2 : IntKind.i64.wrap (m - a.p) = m - a.p := IntWalk.i64_in _ (by have := HM.out; omega)
        have w3 : IntKind.i64.wrap ((d.a - a.a) * (m - a.p)) = (d.a - a.a) * (m - a.p) := IntWalk.i64_in _ (by have := HI.out.1; omega)
        have w4 : IntKind.i64.wrap (d.p - a.p) = d.p - a.p := IntWalk.i64_in _ (by omega)
        have w5 : IntKind.i64.wrap (a.a + flo ((d.a - a.a) * (m - a.p)) (d.p - a.p)) = midV a d m := IntWalk.i64_in _ (by have := HI.out.2.2; unfold midV at this; omega)
        clear ha hd ec ec2 HZ he h2 p0 p1 r0 r1 hcb hia hid hup hse
        go_wp2_with fail
        refine wp_of_eq (ra8_region (S := Bx w [(w.heap.size, 98, #[.pointer (some ⟨b, o, none⟩), .int .i64 m])]) (P := w.heap.size) (bb := b) (oo := o) (cb := cb) (co := co) (cn := x.cv.length) (cc := x.cc) (e := e) (f := s) (N := w.heap.size + 1) (m := m) (y1 := a) (y2 := d) hw heli hsl (fun W h => h.get (by simp)) (fun W h => HXc.out W h.b) (fun W h => ⟨(h.b.cell (p := ⟨cb, co + e * 2, none⟩) HCB.out).trans HP.out.1, (h.b.cell (p := ⟨cb, co + e * 2 + 1, none⟩) HCB.out).trans HP.out.2⟩) (fun W h => ⟨(h.b.cell (p := ⟨cb, co + s * 2, none⟩) HCB.out).trans HR.out.1, (h.b.cell (p := ⟨cb, co + s * 2 + 1, none⟩) HCB.out).trans HR.out.2⟩)
          (fun _ _ h hb => h.on hb) (fun W W' G h hg hG => h.put hg (by omega) (fun q hq => by simp only [List.mem_cons, List.not_mem_nil, or_false] at hq; subst hq; show w.heap.size ≠ G; omega)) (fun W h => (h.at_ _ List.mem_cons_self).2.lt) HS (Lib.hid fun u2 G0 G1 W2 hS2 hG0 hG1 hB0 hB1 => ?_)) (by kernel_rfl)
        have HS2 := Lib.hid hS2
        have hk := hS2.get (g := w.heap.size) (cs := #[.pointer (some ⟨b, o, none⟩), .int .i64 m]) (T := 98) (by simp)
        have z1 := hk.cell 1
        have a0 := hB0.cell 0
        have a1 := hB0.cell 1
        have d0 := hB1.cell 0
        have d1 := hB1.cell 1
        clear hk hS2 hB0 hB1 k0 k1 c6 hG0 hG1 hw
        go_wp2_with fail
        go_quiet ((go_at_call 75; exact Calls.quiet_of_same (HF.out _)))
        go_wp2_with fail
        go_ret
        exact ⟨ret_i64 H.out.symm, below_drewN' HS2.out.b _⟩
end Go.Proofs.Ytalghiecjhfflaa

namespace Go.Proofs.Ytalghiecjhfflaa
open Go.RowKit Go.Shelf Go.Maps
attribute [local go_sem] Oper.semAt_some


theorem addW_in {m : Int} (hm : 0 ≤ m ∧ m ≤ 20) : ∀ (l : List Pt) (f : Pt), CvIn (f :: l) → ((f :: l).Pairwise fun a b => a.p < b.p) → -12300 ≤ addW m f l ∧ addW m f l ≤ 12300
  | [], f, h, _ => by
    have := (h f List.mem_cons_self).2
    rw [addW]; omega
  | t :: l, f, h, hp => by
    rw [addW]
    split
    · exact (mid_in (h f List.mem_cons_self).2 (h t (List.mem_cons_of_mem _ List.mem_cons_self)).2 hm (h f List.mem_cons_self).1).2.2
    · exact addW_in hm l t (fun q hq => h q (List.mem_cons_of_mem _ hq)) (List.pairwise_cons.1 hp).2
theorem addV_in {m : Int} {x : Bw} (hm : 0 ≤ m ∧ m ≤ 20) (ok : BwOk x) : -12300 ≤ addV m x.cv ∧ addV m x.cv ≤ 12300 := by
  have h1 := ok.cv
  have h2 := ok.up
  generalize x.cv = l at *
  match l with
  | [] => rw [addV]; omega
  | f :: l =>
    rw [addV]
    split
    · have := (h1 f List.mem_cons_self).2
      omega
    · exact addW_in hm l f h1 h2

/-- What each operation leaves. -/
def sofR (P bb oo : Nat) (m y z : Int) : Nat → Value → World → Prop
  | 0, v, _ => v = .pointer (some ⟨P, 1, none⟩)
  | 1, v, _ => v = .int .i64 m
  | 2, v, _ => v = .pointer (some ⟨P, 0, none⟩)
  | 3, v, _ => v = .pointer (some ⟨bb, oo, none⟩)
  | 4, v, _ => v = .pointer (some ⟨bb, oo, none⟩)
  | 5, v, _ => v = .pointer (some ⟨bb, oo + 2, none⟩)
  | 6, v, _ => v = .pointer (some ⟨bb, oo + 2, none⟩)
  | 7, v, _ => v = .int .i64 y
  | 8, v, _ => v = .int .i64 (m * y)
  | 9, v, _ => v = .agg #[.pointer (some ⟨bb, oo, none⟩), .int .i64 m]
  | 10, v, _ => v = .int .i64 z
  | 11, v, _ => v = .int .i64 (20 * z)
  | 12, v, _ => v = .int .i64 (m * y + 20 * z)
  | 13, v, _ => v = .int .i64 (m * y + 20 * z)
  | _, _, _ => True
theorem sofR_on (P bb oo : Nat) (m y z : Int) : ∀ i, i < 14 → ∀ v W W', sofR P bb oo m y z i v W → Below W.heap.size W W' → sofR P bb oo m y z i v W' := by
  iterate 14 (refine all_succ ?_ ?_)
  · exact all_zero
  · exact fun _ _ _ h _ => h
  · exact fun _ _ _ h _ => h
  · exact fun _ _ _ h _ => h
  · exact fun _ _ _ h _ => h
  · exact fun _ _ _ h _ => h
  · exact fun _ _ _ h _ => h
  · exact fun _ _ _ h _ => h
  · exact fun _ _ _ h _ => h
  · exact fun _ _ _ h _ => h
  · exact fun _ _ _ h _ => h
  · exact fun _ _ _ h _ => h
  · exact fun _ _ _ h _ => h
  · exact fun _ _ _ h _ => h
  · exact fun _ _ _ h _ => h
set_option maxRecDepth 100000 in
set_option maxHeartbeats 8000000 in
theorem sof_region {S : World → Prop} (hon : ∀ W W', S W → Below W.heap.size W W' → S W') {P bb oo : Nat} {m y z : Int} (hw1 : IntKind.i64.wrap (m * y) = m * y) (hw2 : IntKind.i64.wrap (20 * z) = 20 * z) (hw3 : IntKind.i64.wrap (m * y + 20 * z) = m * y + 20 * z) (hP : ∀ W, S W → Blk W P 98 #[.pointer (some ⟨bb, oo, none⟩), .int .i64 m]) (hX : ∀ W, S W → W.cell? ⟨bb, oo + 2, none⟩ = some (.int .i64 y)) (HC : Hid (∀ (W : World), S W → Calls Try.prog 57 #[.agg #[.pointer (some ⟨bb, oo, none⟩), .int .i64 m]] W fun e w' => e = .returned (.int .i64 z) ∧ Below W.heap.size W w')) {Q : Exit → Act → World → Prop} {s0 : Value} {W0 : World} (HL : Hid (S W0))
    (HQ : Hid (∀ (u : Nat → Value) (W : World), S W → Q .normal ⟨#[s0, .pointer (some ⟨P, 0, none⟩), .int .i64 (m * y + 20 * z), u 0, u 1, u 2, u 3, u 4, u 5, u 6, u 7, u 8, u 9, u 10, u 11, u 12], []⟩ W)) :
    Code.wp Try.prog ((Try.f89.body.bind (regionAt 1)).getD .skip) Q ⟨#[s0, .pointer (some ⟨P, 0, none⟩), .int .i64 0, undef, undef, undef, undef, undef, undef, undef, undef, undef, undef, undef, undef, undef], []⟩ W0 := by
  conv => arg 2; whnf
  refine wp_region_spec (by kernel_rfl) 14 (by kernel_rfl) (fun u => ⟨#[s0, .pointer (some ⟨P, 0, none⟩), u 13, u 0, u 1, u 2, u 3, u 4, u 5, u 6, u 7, u 8, u 9, u 10, u 11, u 12], []⟩) (fun i => if i = 13 then .int .i64 0 else undef) (fun W => Hid (S W)) (sofR P bb oo m y z) (by kernel_rfl) (hon _ _ HL.out (Below.refl _ _).drew) (fun i v W W2 hi h hb => sofR_on P bb oo m y z i hi v W W2 h hb) (by decide +kernel) ?_ ?_
  · iterate 14 (refine all_succ ?_ ?_)
    · exact all_zero
    · intro u W hB _ hd _ K hK
      have HK := Lib.hid hK; clear hK
      refine wpOp_of rfl (by rfl) ?_
      go_simp
      exact k_of (HK.out (.pointer (some ⟨P, 1, none⟩)) _ rfl hB (Below.refl _ _)) (by kernel_rfl)
    · intro u W hB _ hd _ K hK
      have HK := Lib.hid hK; clear hK
      have e0 : u 0 = .pointer (some ⟨P, 1, none⟩) := hd 0 (by decide +kernel)
      refine wpOp_of rfl (by rfl) ?_
      have z1 := (hP W hB.out).cell 1
      go_simp
      exact k_of (HK.out (.int .i64 m) _ rfl hB (Below.refl _ _)) (by rw [← u1_eq e0]; kernel_rfl)
    · intro u W hB _ hd _ K hK
      have HK := Lib.hid hK; clear hK
      refine wpOp_of rfl (by rfl) ?_
      go_simp
      exact k_of (HK.out (.pointer (some ⟨P, 0, none⟩)) _ rfl hB (Below.refl _ _)) (by kernel_rfl)
    · intro u W hB _ hd _ K hK
      have HK := Lib.hid hK; clear hK
      have e2 : u 2 = .pointer (some ⟨P, 0, none⟩) := hd 2 (by decide +kernel)
      refine wpOp_of rfl (by rfl) ?_
      have z0 := (hP W hB.out).cell 0
      go_simp
      exact k_of (HK.out (.pointer (some ⟨bb, oo, none⟩)) _ rfl hB (Below.refl _ _)) (by rw [← u1_eq e2]; kernel_rfl)
    · intro u W hB _ hd _ K hK
      have HK := Lib.hid hK; clear hK
      have e3 : u 3 = .pointer (some ⟨bb, oo, none⟩) := hd 3 (by decide +kernel)
      refine wpOp_of rfl (by rfl) ?_
      go_simp
      exact k_of (HK.out (.pointer (some ⟨bb, oo, none⟩)) _ rfl hB (Below.refl _ _)) (by rw [← u1_eq e3]; kernel_rfl)
    · intro u W hB _ hd _ K hK
      have HK := Lib.hid hK; clear hK
      have e4 : u 4 = .pointer (some ⟨bb, oo, none⟩) := hd 4 (by decide +kernel)
      refine wpOp_of rfl (by rfl) ?_
      go_simp
      exact k_of (HK.out (.pointer (some ⟨bb, oo + 2, none⟩)) _ rfl hB (Below.refl _ _)) (by rw [← u1_eq e4]; kernel_rfl)
    · intro u W hB _ hd _ K hK
      have HK := Lib.hid hK; clear hK
      have e5 : u 5 = .pointer (some ⟨bb, oo + 2, none⟩) := hd 5 (by decide +kernel)
      refine wpOp_of rfl (by rfl) ?_
      go_simp
      exact k_of (HK.out (.pointer (some ⟨bb, oo + 2, none⟩)) _ rfl hB (Below.refl _ _)) (by rw [← u1_eq e5]; kernel_rfl)
    · intro u W hB _ hd _ K hK
      have HK := Lib.hid hK; clear hK
      have e6 : u 6 = .pointer (some ⟨bb, oo + 2, none⟩) := hd 6 (by decide +kernel)
      refine wpOp_of rfl (by rfl) ?_
      have z6 := hX W hB.out
      go_simp
      exact k_of (HK.out (.int .i64 y) _ rfl hB (Below.refl _ _)) (by rw [← u1_eq e6]; kernel_rfl)
    · intro u W hB _ hd _ K hK
      have HK := Lib.hid hK; clear hK
      have e1 : u 1 = .int .i64 m := hd 1 (by decide +kernel)
      have e7 : u 7 = .int .i64 y := hd 7 (by decide +kernel)
      refine wpOp_of rfl (by rfl) ?_
      go_simp
      exact k_of (HK.out (.int .i64 (m * y)) _ rfl hB (Below.refl _ _)) (by rw [← u1_eq e1, ← u1_eq e7]; kernel_rfl)
    · intro u W hB _ hd _ K hK
      have HK := Lib.hid hK; clear hK
      refine wpOp_of rfl (by rfl) ?_
      have z0 := (hP W hB.out).cell 0; have z1 := (hP W hB.out).cell 1
      go_simp
      exact k_of (HK.out (.agg #[.pointer (some ⟨bb, oo, none⟩), .int .i64 m]) _ rfl hB (Below.refl _ _)) (by kernel_rfl)
    · intro u W hB _ hd _ K hK
      have HK := Lib.hid hK; clear hK
      have e9 : u 9 = .agg #[.pointer (some ⟨bb, oo, none⟩), .int .i64 m] := hd 9 (by decide +kernel)
      refine wpOp_of rfl (by rfl) ?_
      go_simp
      refine (HC.out W hB.out).mono ?_
      rintro e w' ⟨rfl, hb⟩
      exact k_of (HK.out (.int .i64 z) _ rfl (hon _ _ hB.out hb) hb) (by rw [← u1_eq e9]; kernel_rfl)
    · intro u W hB _ hd _ K hK
      have HK := Lib.hid hK; clear hK
      have e10 : u 10 = .int .i64 z := hd 10 (by decide +kernel)
      refine wpOp_of rfl (by rfl) ?_
      go_simp
      exact k_of (HK.out (.int .i64 (20 * z)) _ rfl hB (Below.refl _ _)) (by rw [← u1_eq e10]; kernel_rfl)
    · intro u W hB _ hd _ K hK
      have HK := Lib.hid hK; clear hK
      have e8 : u 8 = .int .i64 (m * y) := hd 8 (by decide +kernel)
      have e11 : u 11 = .int .i64 (20 * z) := hd 11 (by decide +kernel)
      refine wpOp_of rfl (by rfl) ?_
      go_simp
      exact k_of (HK.out (.int .i64 (m * y + 20 * z)) _ rfl hB (Below.refl _ _)) (by rw [← u1_eq e8, ← u1_eq e11]; kernel_rfl)
    · intro u W hB _ hd _ K hK
      have HK := Lib.hid hK; clear hK
      have e12 : u 12 = .int .i64 (m * y + 20 * z) := hd 12 (by decide +kernel)
      refine wpOp_of rfl (by rfl) ?_
      go_simp
      exact k_of (HK.out (.int .i64 (m * y + 20 * z)) _ rfl hB (Below.refl _ _)) (by rw [← u1_eq e12]; kernel_rfl)
  · intro u W hB hd
    have e13 : u 13 = .int .i64 (m * y + 20 * z) := hd 13 (by decide)
    exact k_of (HQ.out u W hB.out) (by simp only [e13])


set_option maxRecDepth 100000 in
set_option maxHeartbeats 1000000 in
theorem soft_any {w : World} {b o : Nat} {m : Int} {x : Bw} (h : WxP w b o x) (ok : BwOk x) (hm : 0 ≤ m ∧ m ≤ 20) :
    Calls Try.prog 89 #[poV b o m] w fun e w' => e = .returned (.int .i64 (softV x m)) ∧ Below w.heap.size w w' := by
  have HX := Lib.hid h
  have HOK := Lib.hid ok
  have HM := Lib.hid hm
  have h1 := mul_in (p := x.mlo) (m := 2000) hm (by have := ok.m; omega)
  have h2 := addV_in hm ok
  have w1 : IntKind.i64.wrap (m * x.mlo) = m * x.mlo := IntWalk.i64_in _ (by omega)
  have w2 : IntKind.i64.wrap (20 * addV m x.cv) = 20 * addV m x.cv := IntWalk.i64_in _ (by omega)
  have w3 : IntKind.i64.wrap (m * x.mlo + 20 * addV m x.cv) = m * x.mlo + 20 * addV m x.cv := IntWalk.i64_in _ (by omega)
  have HS0 := Lib.hid ((Bx.nil w).alloc #[.pointer (some ⟨b, o, none⟩), .int .i64 m] 98)
  clear h ok hm h1 h2
  go_enter Try.func89, Try.ntmps89
  go_wp2_with fail
  refine wp_of_eq (sof_region (S := Bx w [(w.heap.size, 98, #[.pointer (some ⟨b, o, none⟩), .int .i64 m])]) (fun _ _ h hb => h.on hb) (P := w.heap.size) (bb := b) (oo := o) (m := m) (y := x.mlo) (z := addV m x.cv) w1 w2 w3 (fun W h => h.get (by simp)) (fun W h => (HX.out.on h.b).c2) (Lib.hid fun W h => raises_any (HX.out.on h.b) HOK.out HM.out) HS0 (Lib.hid fun u W hS => ?_)) (by kernel_rfl)
  have HS := Lib.hid hS
  clear hS
  go_wp2_with fail
  go_ret
  exact ⟨rfl, HS.out.b⟩

/-- What each operation leaves. -/
def harR (P bb oo : Nat) (m y z : Int) : Nat → Value → World → Prop
  | 0, v, _ => v = .pointer (some ⟨P, 1, none⟩)
  | 1, v, _ => v = .int .i64 m
  | 2, v, _ => v = .pointer (some ⟨P, 0, none⟩)
  | 3, v, _ => v = .pointer (some ⟨bb, oo, none⟩)
  | 4, v, _ => v = .pointer (some ⟨bb, oo, none⟩)
  | 5, v, _ => v = .pointer (some ⟨bb, oo + 2, none⟩)
  | 6, v, _ => v = .pointer (some ⟨bb, oo + 2 + 1, none⟩)
  | 7, v, _ => v = .int .i64 y
  | 8, v, _ => v = .int .i64 (m * y)
  | 9, v, _ => v = .agg #[.pointer (some ⟨bb, oo, none⟩), .int .i64 m]
  | 10, v, _ => v = .int .i64 z
  | 11, v, _ => v = .int .i64 (20 * z)
  | 12, v, _ => v = .int .i64 (m * y + 20 * z)
  | 13, v, _ => v = .int .i64 (m * y + 20 * z)
  | _, _, _ => True
theorem harR_on (P bb oo : Nat) (m y z : Int) : ∀ i, i < 14 → ∀ v W W', harR P bb oo m y z i v W → Below W.heap.size W W' → harR P bb oo m y z i v W' := by
  iterate 14 (refine all_succ ?_ ?_)
  · exact all_zero
  · exact fun _ _ _ h _ => h
  · exact fun _ _ _ h _ => h
  · exact fun _ _ _ h _ => h
  · exact fun _ _ _ h _ => h
  · exact fun _ _ _ h _ => h
  · exact fun _ _ _ h _ => h
  · exact fun _ _ _ h _ => h
  · exact fun _ _ _ h _ => h
  · exact fun _ _ _ h _ => h
  · exact fun _ _ _ h _ => h
  · exact fun _ _ _ h _ => h
  · exact fun _ _ _ h _ => h
  · exact fun _ _ _ h _ => h
  · exact fun _ _ _ h _ => h
set_option maxRecDepth 100000 in
set_option maxHeartbeats 8000000 in
theorem har_region {S : World → Prop} (hon : ∀ W W', S W → Below W.heap.size W W' → S W') {P bb oo : Nat} {m y z : Int} (hw1 : IntKind.i64.wrap (m * y) = m * y) (hw2 : IntKind.i64.wrap (20 * z) = 20 * z) (hw3 : IntKind.i64.wrap (m * y + 20 * z) = m * y + 20 * z) (hP : ∀ W, S W → Blk W P 98 #[.pointer (some ⟨bb, oo, none⟩), .int .i64 m]) (hX : ∀ W, S W → W.cell? ⟨bb, oo + 3, none⟩ = some (.int .i64 y)) (HC : Hid (∀ (W : World), S W → Calls Try.prog 57 #[.agg #[.pointer (some ⟨bb, oo, none⟩), .int .i64 m]] W fun e w' => e = .returned (.int .i64 z) ∧ Below W.heap.size W w')) {Q : Exit → Act → World → Prop} {s0 : Value} {W0 : World} (HL : Hid (S W0))
    (HQ : Hid (∀ (u : Nat → Value) (W : World), S W → Q .normal ⟨#[s0, .pointer (some ⟨P, 0, none⟩), .int .i64 (m * y + 20 * z), u 0, u 1, u 2, u 3, u 4, u 5, u 6, u 7, u 8, u 9, u 10, u 11, u 12], []⟩ W)) :
    Code.wp Try.prog ((Try.f90.body.bind (regionAt 1)).getD .skip) Q ⟨#[s0, .pointer (some ⟨P, 0, none⟩), .int .i64 0, undef, undef, undef, undef, undef, undef, undef, undef, undef, undef, undef, undef, undef], []⟩ W0 := by
  conv => arg 2; whnf
  refine wp_region_spec (by kernel_rfl) 14 (by kernel_rfl) (fun u => ⟨#[s0, .pointer (some ⟨P, 0, none⟩), u 13, u 0, u 1, u 2, u 3, u 4, u 5, u 6, u 7, u 8, u 9, u 10, u 11, u 12], []⟩) (fun i => if i = 13 then .int .i64 0 else undef) (fun W => Hid (S W)) (harR P bb oo m y z) (by kernel_rfl) (hon _ _ HL.out (Below.refl _ _).drew) (fun i v W W2 hi h hb => harR_on P bb oo m y z i hi v W W2 h hb) (by decide +kernel) ?_ ?_
  · iterate 14 (refine all_succ ?_ ?_)
    · exact all_zero
    · intro u W hB _ hd _ K hK
      have HK := Lib.hid hK; clear hK
      refine wpOp_of rfl (by rfl) ?_
      go_simp
      exact k_of (HK.out (.pointer (some ⟨P, 1, none⟩)) _ rfl hB (Below.refl _ _)) (by kernel_rfl)
    · intro u W hB _ hd _ K hK
      have HK := Lib.hid hK; clear hK
      have e0 : u 0 = .pointer (some ⟨P, 1, none⟩) := hd 0 (by decide +kernel)
      refine wpOp_of rfl (by rfl) ?_
      have z1 := (hP W hB.out).cell 1
      go_simp
      exact k_of (HK.out (.int .i64 m) _ rfl hB (Below.refl _ _)) (by rw [← u1_eq e0]; kernel_rfl)
    · intro u W hB _ hd _ K hK
      have HK := Lib.hid hK; clear hK
      refine wpOp_of rfl (by rfl) ?_
      go_simp
      exact k_of (HK.out (.pointer (some ⟨P, 0, none⟩)) _ rfl hB (Below.refl _ _)) (by kernel_rfl)
    · intro u W hB _ hd _ K hK
      have HK := Lib.hid hK; clear hK
      have e2 : u 2 = .pointer (some ⟨P, 0, none⟩) := hd 2 (by decide +kernel)
      refine wpOp_of rfl (by rfl) ?_
      have z0 := (hP W hB.out).cell 0
      go_simp
      exact k_of (HK.out (.pointer (some ⟨bb, oo, none⟩)) _ rfl hB (Below.refl _ _)) (by rw [← u1_eq e2]; kernel_rfl)
    · intro u W hB _ hd _ K hK
      have HK := Lib.hid hK; clear hK
      have e3 : u 3 = .pointer (some ⟨bb, oo, none⟩) := hd 3 (by decide +kernel)
      refine wpOp_of rfl (by rfl) ?_
      go_simp
      exact k_of (HK.out (.pointer (some ⟨bb, oo, none⟩)) _ rfl hB (Below.refl _ _)) (by rw [← u1_eq e3]; kernel_rfl)
    · intro u W hB _ hd _ K hK
      have HK := Lib.hid hK; clear hK
      have e4 : u 4 = .pointer (some ⟨bb, oo, none⟩) := hd 4 (by decide +kernel)
      refine wpOp_of rfl (by rfl) ?_
      go_simp
      exact k_of (HK.out (.pointer (some ⟨bb, oo + 2, none⟩)) _ rfl hB (Below.refl _ _)) (by rw [← u1_eq e4]; kernel_rfl)
    · intro u W hB _ hd _ K hK
      have HK := Lib.hid hK; clear hK
      have e5 : u 5 = .pointer (some ⟨bb, oo + 2, none⟩) := hd 5 (by decide +kernel)
      refine wpOp_of rfl (by rfl) ?_
      go_simp
      exact k_of (HK.out (.pointer (some ⟨bb, oo + 2 + 1, none⟩)) _ rfl hB (Below.refl _ _)) (by rw [← u1_eq e5]; kernel_rfl)
    · intro u W hB _ hd _ K hK
      have HK := Lib.hid hK; clear hK
      have e6 : u 6 = .pointer (some ⟨bb, oo + 2 + 1, none⟩) := hd 6 (by decide +kernel)
      refine wpOp_of rfl (by rfl) ?_
      have z6 := hX W hB.out
      go_simp
      exact k_of (HK.out (.int .i64 y) _ rfl hB (Below.refl _ _)) (by rw [← u1_eq e6]; kernel_rfl)
    · intro u W hB _ hd _ K hK
      have HK := Lib.hid hK; clear hK
      have e1 : u 1 = .int .i64 m := hd 1 (by decide +kernel)
      have e7 : u 7 = .int .i64 y := hd 7 (by decide +kernel)
      refine wpOp_of rfl (by rfl) ?_
      go_simp
      exact k_of (HK.out (.int .i64 (m * y)) _ rfl hB (Below.refl _ _)) (by rw [← u1_eq e1, ← u1_eq e7]; kernel_rfl)
    · intro u W hB _ hd _ K hK
      have HK := Lib.hid hK; clear hK
      refine wpOp_of rfl (by rfl) ?_
      have z0 := (hP W hB.out).cell 0; have z1 := (hP W hB.out).cell 1
      go_simp
      exact k_of (HK.out (.agg #[.pointer (some ⟨bb, oo, none⟩), .int .i64 m]) _ rfl hB (Below.refl _ _)) (by kernel_rfl)
    · intro u W hB _ hd _ K hK
      have HK := Lib.hid hK; clear hK
      have e9 : u 9 = .agg #[.pointer (some ⟨bb, oo, none⟩), .int .i64 m] := hd 9 (by decide +kernel)
      refine wpOp_of rfl (by rfl) ?_
      go_simp
      refine (HC.out W hB.out).mono ?_
      rintro e w' ⟨rfl, hb⟩
      exact k_of (HK.out (.int .i64 z) _ rfl (hon _ _ hB.out hb) hb) (by rw [← u1_eq e9]; kernel_rfl)
    · intro u W hB _ hd _ K hK
      have HK := Lib.hid hK; clear hK
      have e10 : u 10 = .int .i64 z := hd 10 (by decide +kernel)
      refine wpOp_of rfl (by rfl) ?_
      go_simp
      exact k_of (HK.out (.int .i64 (20 * z)) _ rfl hB (Below.refl _ _)) (by rw [← u1_eq e10]; kernel_rfl)
    · intro u W hB _ hd _ K hK
      have HK := Lib.hid hK; clear hK
      have e8 : u 8 = .int .i64 (m * y) := hd 8 (by decide +kernel)
      have e11 : u 11 = .int .i64 (20 * z) := hd 11 (by decide +kernel)
      refine wpOp_of rfl (by rfl) ?_
      go_simp
      exact k_of (HK.out (.int .i64 (m * y + 20 * z)) _ rfl hB (Below.refl _ _)) (by rw [← u1_eq e8, ← u1_eq e11]; kernel_rfl)
    · intro u W hB _ hd _ K hK
      have HK := Lib.hid hK; clear hK
      have e12 : u 12 = .int .i64 (m * y + 20 * z) := hd 12 (by decide +kernel)
      refine wpOp_of rfl (by rfl) ?_
      go_simp
      exact k_of (HK.out (.int .i64 (m * y + 20 * z)) _ rfl hB (Below.refl _ _)) (by rw [← u1_eq e12]; kernel_rfl)
  · intro u W hB hd
    have e13 : u 13 = .int .i64 (m * y + 20 * z) := hd 13 (by decide)
    exact k_of (HQ.out u W hB.out) (by simp only [e13])


set_option maxRecDepth 100000 in
set_option maxHeartbeats 1000000 in
theorem hard_any {w : World} {b o : Nat} {m : Int} {x : Bw} (h : WxP w b o x) (ok : BwOk x) (hm : 0 ≤ m ∧ m ≤ 20) :
    Calls Try.prog 90 #[poV b o m] w fun e w' => e = .returned (.int .i64 (hardV x m)) ∧ Below w.heap.size w w' := by
  have HX := Lib.hid h
  have HOK := Lib.hid ok
  have HM := Lib.hid hm
  have h1 := mul_in (p := x.mhi) (m := 2000) hm (by have := ok.m; omega)
  have h2 := addV_in hm ok
  have w1 : IntKind.i64.wrap (m * x.mhi) = m * x.mhi := IntWalk.i64_in _ (by omega)
  have w2 : IntKind.i64.wrap (20 * addV m x.cv) = 20 * addV m x.cv := IntWalk.i64_in _ (by omega)
  have w3 : IntKind.i64.wrap (m * x.mhi + 20 * addV m x.cv) = m * x.mhi + 20 * addV m x.cv := IntWalk.i64_in _ (by omega)
  have HS0 := Lib.hid ((Bx.nil w).alloc #[.pointer (some ⟨b, o, none⟩), .int .i64 m] 98)
  clear h ok hm h1 h2
  go_enter Try.func90, Try.ntmps90
  go_wp2_with fail
  refine wp_of_eq (har_region (S := Bx w [(w.heap.size, 98, #[.pointer (some ⟨b, o, none⟩), .int .i64 m])]) (fun _ _ h hb => h.on hb) (P := w.heap.size) (bb := b) (oo := o) (m := m) (y := x.mhi) (z := addV m x.cv) w1 w2 w3 (fun W h => h.get (by simp)) (fun W h => (HX.out.on h.b).c3) (Lib.hid fun W h => raises_any (HX.out.on h.b) HOK.out HM.out) HS0 (Lib.hid fun u W hS => ?_)) (by kernel_rfl)
  have HS := Lib.hid hS
  clear hS
  go_wp2_with fail
  go_ret
  exact ⟨rfl, HS.out.b⟩
end Go.Proofs.Ytalghiecjhfflaa

namespace Go.Proofs.Ytalghiecjhfflaa
open Go.RowKit Go.Shelf Go.Maps
attribute [local go_sem] Oper.semAt_some

/-- What Raise answers. -/
def raiseV (l : List Bw) (i n : Int) : Int × Int := if orE [bdE l, idxE l.length i] ≠ 0 then (0, orE [bdE l, idxE l.length i]) else if inB n 0 20 = false then (0, 7) else match l[i.toNat]? with
  | some x => (addV n x.cv, 0)
  | none => (0, 0)
theorem ret_raise {l : List Bw} {i n a b : Int} (h : raiseV l i n = (a, b)) : Ending.returned (.tuple #[.int .i64 a, .int .i64 b]) = .returned (.tuple #[.int .i64 (raiseV l i n).1, .int .i64 (raiseV l i n).2]) := by rw [h]
set_option maxRecDepth 100000 in
set_option maxHeartbeats 4000000 in
theorem praise_any {w : World} {A : Option Addr} {c : Nat} {l : List Bw} {i n : Int} (h : BwsIn w A l) (hc : l.length ≤ c) :
    Calls Try.prog 17 #[.slice A l.length c, .int .i64 i, .int .i64 n] w fun e w' => e = .returned (.tuple #[.int .i64 (raiseV l i n).1, .int .i64 (raiseV l i n).2]) ∧ Below w.heap.size w w' := by
  have hl := h.len
  have HH := Lib.hid h
  have HE1 := Lib.hid (waxes_any h hc)
  have HE2 := Lib.hid (fun W => indexE_any (w := W) (A := A) (c := c) (n := l.length) i hl)
  by_cases hz : orE [bdE l, idxE l.length i] = 0
  · have HZ := Lib.hid hz
    have hok := bd_ok (orE_zero.1 hz (bdE l) (by simp))
    have hix := orE_zero.1 hz (idxE l.length i) (by simp)
    have hib : 0 ≤ i ∧ i ≤ (l.length : Int) - 1 := by
      unfold idxE at hix
      split at hix
      · rename_i hb; exact inB_iff.1 hb
      · cases hix
    obtain ⟨k, rfl⟩ : ∃ k : Nat, i = (k : Int) := ⟨i.toNat, by omega⟩
    have hkl : k < l.length := by omega
    obtain ⟨x, hx⟩ : ∃ x, l[k]? = some x := ⟨l[k], List.getElem?_eq_getElem hkl⟩
    obtain ⟨b, o, rfl, he⟩ := h.elem hx
    have HX := Lib.hid he
    have HOK := Lib.hid (hok.2 x (List.mem_of_getElem? hx))
    have hki : (k : Int) < (l.length : Int) := by omega
    have HV := Lib.hid (show raiseV l k n = if inB n 0 20 = false then (0, 7) else (addV n x.cv, 0) by unfold raiseV; rw [if_neg (by simpa using hz)]; simp [hx])
    clear h hz hok hix hib hx he
    cases hn : inB n 0 20 with
    | false =>
      rw [hn] at HV
      have HN := Lib.hid hn
      clear hn
      go_enter Try.func17, Try.ntmps17
      go_wp2_with (first
        | (go_at_call 55; refine HE1.out.mono ?_; rintro e w1 ⟨rfl, hb⟩; have HB1 := Lib.hid hb; clear hb)
        | (go_at_call 56; refine (HE2.out _).mono ?_; rintro e w2 ⟨rfl, hb⟩; have HB2 := Lib.hid (HB1.out.trans (hb.mono HB1.out.size)); clear hb)
        | (go_at_call 54; refine (or_any (c := 2) (l := [bdE l, idxE l.length (k : Int)]) (ints_blk (Blk.newat (by simp)) rfl (by simp))).mono ?_; rintro e w3 ⟨rfl, rfl⟩; rw [HZ.out])
        | (go_at_call 48; refine (within_oneB 0 20 n (c := 1) (ints1_at (by simp))).mono ?_; rintro e w4 ⟨rfl, hb⟩; rw [HN.out]; have HB3 := Lib.hid ((two_allocs HB2.out _ _).trans (hb.mono (two_allocs HB2.out _ _).size)); clear hb)
        | fail)
      go_ret2
      exact ⟨ret_raise (by rw [HV.out]; rfl), HB3.out⟩
    | true =>
      rw [hn] at HV
      have HN := Lib.hid hn
      have hn2 := inB_iff.1 hn
      have HR := Lib.hid (fun (W : World) (hb : Below w.heap.size w W) => raises_any (HX.out.on hb) HOK.out hn2)
      clear hn hn2
      go_enter Try.func17, Try.ntmps17
      go_wp2_with (first
        | (go_at_call 55; refine HE1.out.mono ?_; rintro e w1 ⟨rfl, hb⟩; have HB1 := Lib.hid hb; clear hb)
        | (go_at_call 56; refine (HE2.out _).mono ?_; rintro e w2 ⟨rfl, hb⟩; have HB2 := Lib.hid (HB1.out.trans (hb.mono HB1.out.size)); clear hb)
        | (go_at_call 54; refine (or_any (c := 2) (l := [bdE l, idxE l.length (k : Int)]) (ints_blk (Blk.newat (by simp)) rfl (by simp))).mono ?_; rintro e w3 ⟨rfl, rfl⟩; rw [HZ.out])
        | (go_at_call 48; refine (within_oneB 0 20 n (c := 1) (ints1_at (by simp))).mono ?_; rintro e w4 ⟨rfl, hb⟩; rw [HN.out]; have HB3 := Lib.hid ((two_allocs HB2.out _ _).trans (hb.mono (two_allocs HB2.out _ _).size)); clear hb)
        | (go_at_call 57; refine (HR.out _ HB3.out).mono ?_; rintro e w5 ⟨rfl, hb⟩; have HB4 := Lib.hid (HB3.out.trans (hb.mono HB3.out.size)); clear hb)
        | fail)
      go_ret2
      exact ⟨ret_raise (by rw [HV.out]; rfl), HB4.out⟩
  · have HV := Lib.hid (show raiseV l i n = (0, orE [bdE l, idxE l.length i]) by unfold raiseV; rw [if_pos hz])
    have hz2 : (orE [bdE l, idxE l.length i] != 0) = true := by simpa using hz
    obtain ⟨z, hq⟩ : ∃ z, orE [bdE l, idxE l.length i] = z := ⟨_, rfl⟩
    rw [hq] at HV hz2
    have HO := Lib.hid hq
    clear h hz hq
    go_enter Try.func17, Try.ntmps17
    go_wp2_with (first
      | (go_at_call 55; refine HE1.out.mono ?_; rintro e w1 ⟨rfl, hb⟩; have HB1 := Lib.hid hb; clear hb)
      | (go_at_call 56; refine (HE2.out _).mono ?_; rintro e w2 ⟨rfl, hb⟩; have HB2 := Lib.hid (HB1.out.trans (hb.mono HB1.out.size)); clear hb)
      | (go_at_call 54; refine (or_any (c := 2) (l := [bdE l, idxE l.length i]) (ints_blk (Blk.newat (by simp)) rfl (by simp))).mono ?_; rintro e w3 ⟨rfl, rfl⟩; rw [HO.out])
      | fail)
    go_ret2
    exact ⟨ret_raise HV.out, HB2.out.alloc HB2.out.size _⟩
end Go.Proofs.Ytalghiecjhfflaa
