/- ref02.in, spans: contracts. -/
import Derived.Test.YtalghiecjhfflaaZ4
import Derived.Test.YtalghiecjhfflaaGd
import Derived.Test.YtalghiecjhfflaaGa
namespace Go.Proofs.Ytalghiecjhfflaa
open Go.RowKit Go.Shelf Go.Maps
attribute [local go_sem] Oper.semAt_some

theorem rinB_any (n lo hi : Int) (w : World) :
    Calls Try.prog 50 #[.int .i64 n, .int .i64 lo, .int .i64 hi] w fun e w' => e = .returned (.bool (inB n lo hi)) ∧ w' = w := by
  by_cases h1 : lo ≤ n
  · by_cases h2 : n ≤ hi
    · have H := Lib.hid (inB_t h1 h2)
      go_enter Try.func50, Try.ntmps50
      go_wp2
      go_ret
      exact ⟨ret_bool H.out.symm, rfl⟩
    · have H := Lib.hid (inB_f (n := n) (lo := lo) (hi := hi) (by omega))
      go_enter Try.func50, Try.ntmps50
      go_wp2
      go_ret
      exact ⟨ret_bool H.out.symm, rfl⟩
  · have H := Lib.hid (inB_f (n := n) (lo := lo) (hi := hi) (by omega))
    go_enter Try.func50, Try.ntmps50
    go_wp2
    go_ret
    exact ⟨ret_bool H.out.symm, rfl⟩



theorem spanErr_in (x : Int × Int) (a b : Int) : spanErr x a b = 0 ∨ spanErr x a b = 2 ∨ spanErr x a b = 7 := by
  unfold spanErr
  split
  · exact .inr (.inr rfl)
  · split
    · exact .inr (.inl rfl)
    · exact .inl rfl

/-- What each operation leaves. -/
def rs1R (_M _N : Nat) (x1 x2 y1 y2 ea eb : Int) : Nat → Value → World → Prop
  | 0, v, _ => v = .agg #[.int .i64 x1, .int .i64 x2]
  | 1, v, _ => v = .int .i64 ea
  | 2, v, _ => v = .agg #[.int .i64 y1, .int .i64 y2]
  | 3, v, _ => v = .int .i64 eb
  | 4, v, _ => v = .int .i64 ea
  | 5, v, _ => v = .int .i64 eb
  | _, _, _ => True
theorem rs1R_on (M N : Nat) (x1 x2 y1 y2 ea eb : Int) : ∀ i, i < 6 → ∀ v W W', rs1R M N x1 x2 y1 y2 ea eb i v W → Below W.heap.size W W' → rs1R M N x1 x2 y1 y2 ea eb i v W' := by
  iterate 6 (refine all_succ ?_ ?_)
  · exact all_zero
  · exact fun _ _ _ h _ => h
  · exact fun _ _ _ h _ => h
  · exact fun _ _ _ h _ => h
  · exact fun _ _ _ h _ => h
  · exact fun _ _ _ h _ => h
  · exact fun _ _ _ h _ => h
set_option maxRecDepth 100000 in
set_option maxHeartbeats 8000000 in
theorem rs1_region {S : World → Prop} (hon : ∀ W W', S W → Below W.heap.size W W' → S W') {M N : Nat} {x1 x2 y1 y2 ea eb : Int} (hM : ∀ W, S W → Blk W M 36 #[.int .i64 x1, .int .i64 x2]) (hN : ∀ W, S W → Blk W N 36 #[.int .i64 y1, .int .i64 y2]) (HA : Hid (∀ W, Calls Try.prog 78 #[.agg #[.int .i64 x1, .int .i64 x2], .int .i64 0, .int .i64 2000] W fun e w' => e = .returned (.int .i64 ea) ∧ Below W.heap.size W w')) (HC : Hid (∀ W, Calls Try.prog 78 #[.agg #[.int .i64 y1, .int .i64 y2], .int .i64 0, .int .i64 1000] W fun e w' => e = .returned (.int .i64 eb) ∧ Below W.heap.size W w')) {Q : Exit → Act → World → Prop} {s0 s1 s4 s11 s12 s13 s14 s15 s16 s17 s18 s19 s20 : Value} {W0 : World} (HL : Hid (S W0))
    (HQ : Hid (∀ (u : Nat → Value) (W : World), S W → Q .normal ⟨#[s0, s1, .pointer (some ⟨M, 0, none⟩), .pointer (some ⟨N, 0, none⟩), s4, .int .i64 ea, .int .i64 eb, u 0, u 1, u 2, u 3, s11, s12, s13, s14, s15, s16, s17, s18, s19, s20], []⟩ W)) :
    Code.wp Try.prog ((Try.f52.body.bind (regionAt 1)).getD .skip) Q ⟨#[s0, s1, .pointer (some ⟨M, 0, none⟩), .pointer (some ⟨N, 0, none⟩), s4, undef, undef, undef, undef, undef, undef, s11, s12, s13, s14, s15, s16, s17, s18, s19, s20], []⟩ W0 := by
  conv => arg 2; whnf
  refine wp_region_spec (by kernel_rfl) 6 (by kernel_rfl) (fun u => ⟨#[s0, s1, .pointer (some ⟨M, 0, none⟩), .pointer (some ⟨N, 0, none⟩), s4, u 4, u 5, u 0, u 1, u 2, u 3, s11, s12, s13, s14, s15, s16, s17, s18, s19, s20], []⟩) (fun i => undef) (fun W => Hid (S W)) (rs1R M N x1 x2 y1 y2 ea eb) (by kernel_rfl) (hon _ _ HL.out (Below.refl _ _).drew) (fun i v W W2 hi h hb => rs1R_on M N x1 x2 y1 y2 ea eb i hi v W W2 h hb) (by decide +kernel) ?_ ?_
  · iterate 6 (refine all_succ ?_ ?_)
    · exact all_zero
    · intro u W hB _ hd _ K hK
      have HK := Lib.hid hK; clear hK
      refine wpOp_of rfl (by rfl) ?_
      have z0 := (hM W hB.out).cell 0; have z1 := (hM W hB.out).cell 1
      go_simp
      exact k_of (HK.out (.agg #[.int .i64 x1, .int .i64 x2]) _ rfl hB (Below.refl _ _)) (by kernel_rfl)
    · intro u W hB _ hd _ K hK
      have HK := Lib.hid hK; clear hK
      have e0 : u 0 = .agg #[.int .i64 x1, .int .i64 x2] := hd 0 (by decide +kernel)
      refine wpOp_of rfl (by rfl) ?_
      go_simp
      refine (HA.out W).mono ?_
      rintro e w' ⟨rfl, hb⟩
      exact k_of (HK.out (.int .i64 ea) _ rfl (hon _ _ hB.out hb) hb) (by rw [← u1_eq e0]; kernel_rfl)
    · intro u W hB _ hd _ K hK
      have HK := Lib.hid hK; clear hK
      refine wpOp_of rfl (by rfl) ?_
      have z0 := (hN W hB.out).cell 0; have z1 := (hN W hB.out).cell 1
      go_simp
      exact k_of (HK.out (.agg #[.int .i64 y1, .int .i64 y2]) _ rfl hB (Below.refl _ _)) (by kernel_rfl)
    · intro u W hB _ hd _ K hK
      have HK := Lib.hid hK; clear hK
      have e2 : u 2 = .agg #[.int .i64 y1, .int .i64 y2] := hd 2 (by decide +kernel)
      refine wpOp_of rfl (by rfl) ?_
      go_simp
      refine (HC.out W).mono ?_
      rintro e w' ⟨rfl, hb⟩
      exact k_of (HK.out (.int .i64 eb) _ rfl (hon _ _ hB.out hb) hb) (by rw [← u1_eq e2]; kernel_rfl)
    · intro u W hB _ hd _ K hK
      have HK := Lib.hid hK; clear hK
      have e1 : u 1 = .int .i64 ea := hd 1 (by decide +kernel)
      refine wpOp_of rfl (by rfl) ?_
      go_simp
      exact k_of (HK.out (.int .i64 ea) _ rfl hB (Below.refl _ _)) (by rw [← u1_eq e1]; kernel_rfl)
    · intro u W hB _ hd _ K hK
      have HK := Lib.hid hK; clear hK
      have e3 : u 3 = .int .i64 eb := hd 3 (by decide +kernel)
      refine wpOp_of rfl (by rfl) ?_
      go_simp
      exact k_of (HK.out (.int .i64 eb) _ rfl hB (Below.refl _ _)) (by rw [← u1_eq e3]; kernel_rfl)
  · intro u W hB hd
    have e4 : u 4 = .int .i64 ea := hd 4 (by decide)
    have e5 : u 5 = .int .i64 eb := hd 5 (by decide)
    exact k_of (HQ.out u W hB.out) (by simp only [e4, e5])


/-- The error of two ranges. -/
def sp2E (a b : Int) : Int := if a = 7 ∨ b = 7 then 7 else if a ≠ 0 then a else b
set_option maxRecDepth 100000 in
set_option maxHeartbeats 2000000 in
theorem rspans_any (x y : Int × Int) (w : World) :
    Calls Try.prog 52 #[.agg #[.int .i64 x.1, .int .i64 x.2], .agg #[.int .i64 y.1, .int .i64 y.2]] w fun e w' => e = .returned (.int .i64 (sp2E (spanErr x 0 2000) (spanErr y 0 1000))) ∧ Below w.heap.size w w' := by
  have hb0 := ((Bx.nil w).alloc #[.int .i64 x.1, .int .i64 x.2] 36).alloc #[.int .i64 y.1, .int .i64 y.2] 36
  simp only [World.size_alloc] at hb0
  have HB := Lib.hid hb0
  have HA := Lib.hid (fun W => rspan_any x 0 2000 W)
  have HC := Lib.hid (fun W => rspan_any y 0 1000 W)
  have ia := spanErr_in x 0 2000
  have ib := spanErr_in y 0 1000
  clear hb0
  generalize spanErr x 0 2000 = ea at *
  generalize spanErr y 0 1000 = eb at *
  have HE : Hid (∃ z, z = sp2E ea eb) := ⟨_, rfl⟩
  obtain ⟨z, hz⟩ := HE
  rw [← hz]
  go_enter Try.func52, Try.ntmps52
  go_wp2_with fail
  refine wp_of_eq (rs1_region (S := Bx w _) (fun W W' h hb => h.on hb) (M := w.heap.size) (N := w.heap.size + 1) (x1 := x.1) (x2 := x.2) (y1 := y.1) (y2 := y.2) (ea := ea) (eb := eb) (fun W h => h.get (by simp)) (fun W h => h.get (by simp)) HA HC HB (Lib.hid fun u W h => ?_)) (by kernel_rfl)
  have HF := Lib.hid h.b
  clear h HB HA HC
  rcases ia with rfl | rfl | rfl <;> rcases ib with rfl | rfl | rfl <;> (subst hz; go_wp2_with fail; go_ret; exact ⟨ret_i64 rfl, HF.out⟩)
end Go.Proofs.Ytalghiecjhfflaa
