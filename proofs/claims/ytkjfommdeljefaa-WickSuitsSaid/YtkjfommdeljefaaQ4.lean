/- ref03.in, spans: contracts. -/
import Derived.Test.YtkjfommdeljefaaQ3
import Derived.Test.YtkjfommdeljefaaGb
import Derived.Test.YtkjfommdeljefaaQM
namespace Go.Proofs.Ytkjfommdeljefaa
open Go.RowKit Go.Shelf Go.Maps
attribute [local go_sem] Oper.semAt_some

theorem rin3_any (n lo hi : Int) (w : World) :
    Calls Try.prog 45 #[.int .i64 n, .int .i64 lo, .int .i64 hi] w fun e w' => e = .returned (.bool (inB n lo hi)) ∧ w' = w := by
  by_cases h1 : lo ≤ n
  · by_cases h2 : n ≤ hi
    · have H := Lib.hid (inB_t h1 h2)
      go_enter Try.func45, Try.ntmps45
      go_wp2
      go_ret
      exact ⟨ret_bool H.out.symm, rfl⟩
    · have H := Lib.hid (inB_f (n := n) (lo := lo) (hi := hi) (by omega))
      go_enter Try.func45, Try.ntmps45
      go_wp2
      go_ret
      exact ⟨ret_bool H.out.symm, rfl⟩
  · have H := Lib.hid (inB_f (n := n) (lo := lo) (hi := hi) (by omega))
    go_enter Try.func45, Try.ntmps45
    go_wp2
    go_ret
    exact ⟨ret_bool H.out.symm, rfl⟩


/-- The error of ranges, one after the other. -/
def spStep (w e : Int) : Int := if e = 7 ∨ w = 0 then e else w
def spW (E : Nat → Int) : Nat → Int
  | 0 => 0
  | k + 1 => spStep (spW E k) (E k)

/-- What each operation leaves. -/
def rspsR (b0 o0 c0 b1 o1 c1 b2 o2 c2 k rl : Nat) (x y lo up : Int) : Nat → Value → World → Prop
  | 0, v, _ => v = .slice (some ⟨b0, o0, none⟩) rl c0
  | 1, v, _ => v = .int .i64 (k : Int)
  | 2, v, _ => v = .pointer (some ⟨b0, o0 + k * 2, none⟩)
  | 3, v, _ => v = .agg #[.int .i64 x, .int .i64 y]
  | 4, v, _ => v = .slice (some ⟨b1, o1, none⟩) rl c1
  | 5, v, _ => v = .int .i64 (k : Int)
  | 6, v, _ => v = .pointer (some ⟨b1, o1 + k, none⟩)
  | 7, v, _ => v = .int .i64 lo
  | 8, v, _ => v = .slice (some ⟨b2, o2, none⟩) rl c2
  | 9, v, _ => v = .int .i64 (k : Int)
  | 10, v, _ => v = .pointer (some ⟨b2, o2 + k, none⟩)
  | 11, v, _ => v = .int .i64 up
  | 12, v, _ => v = .int .i64 (spanErr (x, y) lo up)
  | 13, v, _ => v = .int .i64 (spanErr (x, y) lo up)
  | _, _, _ => True
theorem rspsR_on (b0 o0 c0 b1 o1 c1 b2 o2 c2 k rl : Nat) (x y lo up : Int) : ∀ i, i < 14 → ∀ v W W', rspsR b0 o0 c0 b1 o1 c1 b2 o2 c2 k rl x y lo up i v W → Below W.heap.size W W' → rspsR b0 o0 c0 b1 o1 c1 b2 o2 c2 k rl x y lo up i v W' := by
  iterate 14 (refine all_succ ?_ ?_)
  · exact all_zero
  · exact fun _ _ _ h _ => h
  · exact fun _ _ _ h _ => h
  · exact fun _ _ _ h _ => h
  · exact fun _ _ _ h _ => h
  · exact fun _ _ _ h _ => h
  · exact fun _ _ _ h _ => h
  · exact fun _ _ _ h _ => h
  · exact fun _ _ _ h _ => h
  · exact fun _ _ _ h _ => h
  · exact fun _ _ _ h _ => h
  · exact fun _ _ _ h _ => h
  · exact fun _ _ _ h _ => h
  · exact fun _ _ _ h _ => h
  · exact fun _ _ _ h _ => h
set_option maxRecDepth 100000 in
set_option maxHeartbeats 8000000 in
theorem rsps_region {S : World → Prop} (hon : ∀ W W', S W → Below W.heap.size W W' → S W') {b0 o0 c0 b1 o1 c1 b2 o2 c2 k rl : Nat} {x y lo up : Int} (hk : (k : Int) < rl) (h0 : ∀ W, S W → W.cell? ⟨b0, o0 + k * 2, none⟩ = some (.int .i64 x) ∧ W.cell? ⟨b0, o0 + k * 2 + 1, none⟩ = some (.int .i64 y)) (h1 : ∀ W, S W → W.cell? ⟨b1, o1 + k, none⟩ = some (.int .i64 lo)) (h2 : ∀ W, S W → W.cell? ⟨b2, o2 + k, none⟩ = some (.int .i64 up)) {Q : Exit → Act → World → Prop} {s3 s4 s5 s6 s7 s10 s11 s12 s13 s14 s15 s29 s30 s31 s32 s33 s34 s35 s36 s9 s16 s17 s18 s19 s20 s21 s22 s23 s24 s25 s26 s27 s28 : Value} {W0 : World} (HL : Hid (S W0))
    (HQ : Hid (∀ (u : Nat → Value) (W : World), S W → Q .normal ⟨#[.slice (some ⟨b0, o0, none⟩) rl c0, .slice (some ⟨b1, o1, none⟩) rl c1, .slice (some ⟨b2, o2, none⟩) rl c2, s3, s4, s5, s6, s7, .int .i64 (k : Int), .int .i64 (spanErr (x, y) lo up), s10, s11, s12, s13, s14, s15, u 0, u 1, u 2, u 3, u 4, u 5, u 6, u 7, u 8, u 9, u 10, u 11, u 12, s29, s30, s31, s32, s33, s34, s35, s36], []⟩ W)) :
    Code.wp Try.prog ((Try.f46.body.bind (regionAt 5)).getD .skip) Q ⟨#[.slice (some ⟨b0, o0, none⟩) rl c0, .slice (some ⟨b1, o1, none⟩) rl c1, .slice (some ⟨b2, o2, none⟩) rl c2, s3, s4, s5, s6, s7, .int .i64 (k : Int), s9, s10, s11, s12, s13, s14, s15, s16, s17, s18, s19, s20, s21, s22, s23, s24, s25, s26, s27, s28, s29, s30, s31, s32, s33, s34, s35, s36], []⟩ W0 := by
  conv => arg 2; whnf
  refine wp_region_spec (by kernel_rfl) 14 (by kernel_rfl) (fun u => ⟨#[.slice (some ⟨b0, o0, none⟩) rl c0, .slice (some ⟨b1, o1, none⟩) rl c1, .slice (some ⟨b2, o2, none⟩) rl c2, s3, s4, s5, s6, s7, .int .i64 (k : Int), u 13, s10, s11, s12, s13, s14, s15, u 0, u 1, u 2, u 3, u 4, u 5, u 6, u 7, u 8, u 9, u 10, u 11, u 12, s29, s30, s31, s32, s33, s34, s35, s36], []⟩) (fun i => if i = 0 then s16 else if i = 1 then s17 else if i = 2 then s18 else if i = 3 then s19 else if i = 4 then s20 else if i = 5 then s21 else if i = 6 then s22 else if i = 7 then s23 else if i = 8 then s24 else if i = 9 then s25 else if i = 10 then s26 else if i = 11 then s27 else if i = 12 then s28 else if i = 13 then s9 else undef) (fun W => Hid (S W)) (rspsR b0 o0 c0 b1 o1 c1 b2 o2 c2 k rl x y lo up) (by kernel_rfl) (hon _ _ HL.out (Below.refl _ _).drew) (fun i v W W2 hi h hb => rspsR_on b0 o0 c0 b1 o1 c1 b2 o2 c2 k rl x y lo up i hi v W W2 h hb) (by decide +kernel) ?_ ?_
  · iterate 14 (refine all_succ ?_ ?_)
    · exact all_zero
    · intro u W hB _ hd _ K hK
      have HK := Lib.hid hK; clear hK
      refine wpOp_of rfl (by rfl) ?_
      go_simp
      exact k_of (HK.out (.slice (some ⟨b0, o0, none⟩) rl c0) _ rfl hB (Below.refl _ _)) (by kernel_rfl)
    · intro u W hB _ hd _ K hK
      have HK := Lib.hid hK; clear hK
      refine wpOp_of rfl (by rfl) ?_
      go_simp
      exact k_of (HK.out (.int .i64 (k : Int)) _ rfl hB (Below.refl _ _)) (by kernel_rfl)
    · intro u W hB _ hd _ K hK
      have HK := Lib.hid hK; clear hK
      have e0 : u 0 = .slice (some ⟨b0, o0, none⟩) rl c0 := hd 0 (by decide +kernel)
      have e1 : u 1 = .int .i64 (k : Int) := hd 1 (by decide +kernel)
      refine wpOp_of rfl (by rfl) ?_
      go_simp
      exact k_of (HK.out (.pointer (some ⟨b0, o0 + k * 2, none⟩)) _ rfl hB (Below.refl _ _)) (by rw [← u1_eq e0, ← u1_eq e1]; kernel_rfl)
    · intro u W hB _ hd _ K hK
      have HK := Lib.hid hK; clear hK
      have e2 : u 2 = .pointer (some ⟨b0, o0 + k * 2, none⟩) := hd 2 (by decide +kernel)
      refine wpOp_of rfl (by rfl) ?_
      obtain ⟨d0, d1⟩ := h0 W hB.out
      go_simp
      exact k_of (HK.out (.agg #[.int .i64 x, .int .i64 y]) _ rfl hB (Below.refl _ _)) (by rw [← u1_eq e2]; kernel_rfl)
    · intro u W hB _ hd _ K hK
      have HK := Lib.hid hK; clear hK
      refine wpOp_of rfl (by rfl) ?_
      go_simp
      exact k_of (HK.out (.slice (some ⟨b1, o1, none⟩) rl c1) _ rfl hB (Below.refl _ _)) (by kernel_rfl)
    · intro u W hB _ hd _ K hK
      have HK := Lib.hid hK; clear hK
      refine wpOp_of rfl (by rfl) ?_
      go_simp
      exact k_of (HK.out (.int .i64 (k : Int)) _ rfl hB (Below.refl _ _)) (by kernel_rfl)
    · intro u W hB _ hd _ K hK
      have HK := Lib.hid hK; clear hK
      have e4 : u 4 = .slice (some ⟨b1, o1, none⟩) rl c1 := hd 4 (by decide +kernel)
      have e5 : u 5 = .int .i64 (k : Int) := hd 5 (by decide +kernel)
      refine wpOp_of rfl (by rfl) ?_
      go_simp
      exact k_of (HK.out (.pointer (some ⟨b1, o1 + k, none⟩)) _ rfl hB (Below.refl _ _)) (by rw [← u1_eq e4, ← u1_eq e5]; kernel_rfl)
    · intro u W hB _ hd _ K hK
      have HK := Lib.hid hK; clear hK
      have e6 : u 6 = .pointer (some ⟨b1, o1 + k, none⟩) := hd 6 (by decide +kernel)
      refine wpOp_of rfl (by rfl) ?_
      have d0 := h1 W hB.out
      go_simp
      exact k_of (HK.out (.int .i64 lo) _ rfl hB (Below.refl _ _)) (by rw [← u1_eq e6]; kernel_rfl)
    · intro u W hB _ hd _ K hK
      have HK := Lib.hid hK; clear hK
      refine wpOp_of rfl (by rfl) ?_
      go_simp
      exact k_of (HK.out (.slice (some ⟨b2, o2, none⟩) rl c2) _ rfl hB (Below.refl _ _)) (by kernel_rfl)
    · intro u W hB _ hd _ K hK
      have HK := Lib.hid hK; clear hK
      refine wpOp_of rfl (by rfl) ?_
      go_simp
      exact k_of (HK.out (.int .i64 (k : Int)) _ rfl hB (Below.refl _ _)) (by kernel_rfl)
    · intro u W hB _ hd _ K hK
      have HK := Lib.hid hK; clear hK
      have e8 : u 8 = .slice (some ⟨b2, o2, none⟩) rl c2 := hd 8 (by decide +kernel)
      have e9 : u 9 = .int .i64 (k : Int) := hd 9 (by decide +kernel)
      refine wpOp_of rfl (by rfl) ?_
      go_simp
      exact k_of (HK.out (.pointer (some ⟨b2, o2 + k, none⟩)) _ rfl hB (Below.refl _ _)) (by rw [← u1_eq e8, ← u1_eq e9]; kernel_rfl)
    · intro u W hB _ hd _ K hK
      have HK := Lib.hid hK; clear hK
      have e10 : u 10 = .pointer (some ⟨b2, o2 + k, none⟩) := hd 10 (by decide +kernel)
      refine wpOp_of rfl (by rfl) ?_
      have d0 := h2 W hB.out
      go_simp
      exact k_of (HK.out (.int .i64 up) _ rfl hB (Below.refl _ _)) (by rw [← u1_eq e10]; kernel_rfl)
    · intro u W hB _ hd _ K hK
      have HK := Lib.hid hK; clear hK
      have e3 : u 3 = .agg #[.int .i64 x, .int .i64 y] := hd 3 (by decide +kernel)
      have e7 : u 7 = .int .i64 lo := hd 7 (by decide +kernel)
      have e11 : u 11 = .int .i64 up := hd 11 (by decide +kernel)
      refine wpOp_of rfl (by rfl) ?_
      go_simp
      refine (rspan_any (x, y) lo up W).mono ?_
      rintro e w' ⟨rfl, hb⟩
      exact k_of (HK.out (.int .i64 (spanErr (x, y) lo up)) _ rfl (hon _ _ hB.out hb) hb) (by rw [← u1_eq e3, ← u1_eq e7, ← u1_eq e11]; kernel_rfl)
    · intro u W hB _ hd _ K hK
      have HK := Lib.hid hK; clear hK
      have e12 : u 12 = .int .i64 (spanErr (x, y) lo up) := hd 12 (by decide +kernel)
      refine wpOp_of rfl (by rfl) ?_
      go_simp
      exact k_of (HK.out (.int .i64 (spanErr (x, y) lo up)) _ rfl hB (Below.refl _ _)) (by rw [← u1_eq e12]; kernel_rfl)
  · intro u W hB hd
    have e13 : u 13 = .int .i64 (spanErr (x, y) lo up) := hd 13 (by decide)
    exact k_of (HQ.out u W hB.out) (by simp only [e13])


set_option maxRecDepth 100000 in
set_option maxHeartbeats 2000000 in
theorem rspans_any {w : World} {A0 A1 A2 : Option Addr} {c0 c1 c2 n : Nat} {l : List (Int × Int)} {lo hi : List Int} {E : Nat → Int} (hl : SpansIn w A0 l) (h1 : IntsIn w A1 lo) (h2 : IntsIn w A2 hi) (n0 : l.length = n) (n1 : lo.length = n) (n2 : hi.length = n)
    (hE : ∀ (k : Nat) (x : Int × Int) (a b : Int), l[k]? = some x → lo[k]? = some a → hi[k]? = some b → E k = spanErr x a b) :
    Calls Try.prog 46 #[.slice A0 n c0, .slice A1 n c1, .slice A2 n c2] w fun e w' => e = .returned (.int .i64 (spW E n)) ∧ Below w.heap.size w w' := by
  have hn : n ≤ 9223372036854775807 := n0 ▸ hl.len
  have HE := Lib.hid hE
  have N := Lib.hid (And.intro n0 (And.intro n1 n2))
  clear hE n0 n1 n2
  go_enter Try.func46, Try.ntmps46
  go_wp2_with fail
  go_loopw [7, 8] (fun v i W => ∃ k : Nat, k ≤ n ∧ i = .int .i64 (k : Int) ∧ v = .int .i64 (spW E k) ∧ Hid (Below w.heap.size w W)) (fun _ i _ => n - (intOf i).toNat)
  case atStart => exact ⟨0, by omega, rfl, rfl, Below.refl _ _⟩
  case round =>
    obtain ⟨k, hk, rfl, rfl, HB⟩ := hrel
    by_cases hlt : k < n
    · obtain ⟨x, hx⟩ : ∃ x, l[k]? = some x := ⟨l[k]'(by rw [N.out.1]; exact hlt), List.getElem?_eq_getElem _⟩
      obtain ⟨a, ha⟩ : ∃ x, lo[k]? = some x := ⟨lo[k]'(by rw [N.out.2.1]; exact hlt), List.getElem?_eq_getElem _⟩
      obtain ⟨b, hb⟩ : ∃ x, hi[k]? = some x := ⟨hi[k]'(by rw [N.out.2.2]; exact hlt), List.getElem?_eq_getElem _⟩
      obtain ⟨b0, o0, rfl, _, q0, q1⟩ := spans_at hl.at_ hx
      obtain ⟨b1, o1, rfl, _, q2⟩ := ints_at h1.at_ ha
      obtain ⟨b2, o2, rfl, _, q3⟩ := ints_at h2.at_ hb
      have Q0 := Lib.hid q0
      have Q1 := Lib.hid q1
      have Q2 := Lib.hid q2
      have Q3 := Lib.hid q3
      have HX := Lib.hid (HE.out k x a b hx ha hb)
      have HS := Lib.hid (show spW E (k + 1) = spStep (spW E k) (E k) from rfl)
      rw [HX.out] at HS
      clear hx ha hb q0 q1 q2 q3 HX
      have hki : (k : Int) < n := by omega
      go_wp2_with fail
      refine wp_of_eq (rsps_region (S := fun W => Below w.heap.size w W) (fun W W' h hb => h.trans (hb.mono h.size)) (x := x.1) (y := x.2) (lo := a) (up := b) hki (fun W hW => ⟨kept_of hW _ _ Q0.out, kept_of hW _ _ Q1.out⟩) (fun W hW => kept_of hW _ _ Q2.out) (fun W hW => kept_of hW _ _ Q3.out) HB (Lib.hid fun u W h => ?_)) (by kernel_rfl)
      have HC := Lib.hid h
      clear h HB Q0 Q1 Q2 Q3
      generalize spanErr (x.1, x.2) a b = e at *
      have HS2 : Hid (spW E (k + 1) = spStep (spW E k) e) := HS
      generalize spW E k = v at *
      by_cases h7 : e = 7
      · subst h7
        have HT : Hid (spW E (k + 1) = 7) := by show _ = _; rw [HS2.out]; rfl
        clear HS HS2
        go_wp2_with fail
        go_roundw
        case rel => exact ⟨k + 1, by omega, by go_num, by rw [HT.out], HC⟩
        case measure => simp [intOf]; omega
      · have e7 : (e == 7) = false := by simpa using h7
        by_cases h0 : v = 0
        · subst h0
          have HT : Hid (spW E (k + 1) = e) := by show _ = _; rw [HS2.out]; simp [spStep]
          clear HS HS2 h7
          go_wp2_with fail
          go_roundw
          case rel => exact ⟨k + 1, by omega, by go_num, by rw [HT.out], HC⟩
          case measure => simp [intOf]; omega
        · have e0 : (v == 0) = false := by simpa using h0
          have HT : Hid (spW E (k + 1) = v) := by show _ = _; rw [HS2.out]; simp [spStep, h7, h0]
          clear HS HS2 h7 h0
          go_wp2_with fail
          go_roundw
          case rel => exact ⟨k + 1, by omega, by go_num, by rw [HT.out], HC⟩
          case measure => simp [intOf]; omega
    · obtain rfl : k = n := by omega
      go_wp2_with fail
      go_ret
      exact ⟨ret_i64 rfl, HB.out⟩
end Go.Proofs.Ytkjfommdeljefaa
