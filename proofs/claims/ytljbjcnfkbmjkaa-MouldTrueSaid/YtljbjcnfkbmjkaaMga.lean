/- ref.ends: contract. -/
import Derived.Test.YtljbjcnfkbmjkaaMg9
namespace Go.Proofs.Ytljbjcnfkbmjkaa
open Go.RowKit Go.Shelf
attribute [local go_sem] Oper.semAt_some

theorem sam_in {m : Md} (hok : MdOk m) (e : Bool) (n : Nat) : (∀ x ∈ samP m e, 0 ≤ x ∧ x ≤ 2000) ∧ ∀ x ∈ samW m e n, 0 ≤ x ∧ x ≤ 2000 := by
  have h1 := hok.plo; have h2 := hok.phi; have h3 := hok.wlo; have h4 := hok.whi
  constructor
  · intro x hx
    unfold samP at hx
    rw [(List.mem_replicate.1 hx).2]
    cases e <;> simp [pourV] <;> omega
  · intro x hx
    unfold samW at hx
    rw [(List.mem_replicate.1 hx).2]
    cases e <;> simp [wallV] <;> omega
theorem when_same {m : Md} (hok : MdOk m) (e : Bool) {N : Nat} (hN : N ≤ 600) {w : World} {A1 A2 : Option Addr} {c1 c2 : Nat} (hp : IntsIn w A1 (samP m e)) (hq : IntsIn w A2 (samW m e N)) :
    Calls Try.prog 40 #[.agg #[.int .i64 m.rings, .int .i64 m.give, .int .i64 m.plo, .int .i64 m.phi, .int .i64 m.wlo, .int .i64 m.whi, .int .i64 m.st, .int .i64 m.shrink, .int .i64 m.skin, .int .i64 m.fill, .int .i64 m.gap, .int .i64 m.deep], .agg #[.slice A1 (kR m) c1, .slice A2 N c2]] w fun e' w' => ∃ A c, e' = .returned (.slice A (kR m) c) ∧ IntsIn w' A (whN m e N) ∧ Below w.heap.size w w' := by
  have hk := kR_le hok.toMdIn
  have h := rwhen_any (c1 := c1) (c2 := c2) m hok.toMdIn hp hq (by rw [samP_length]; omega) (by rw [samP_length]; omega) (by rw [samW_length]; exact hN) (sam_in hok e N).1 (sam_in hok e N).2
  rw [whenM_length, samP_length, samW_length] at h
  exact h
theorem same_n {m : Md} (hok : MdOk m) (e : Bool) {N : Nat} (hN : N = 600) (w : World) :
    Calls Try.prog 41 #[.agg #[.int .i64 m.rings, .int .i64 m.give, .int .i64 m.plo, .int .i64 m.phi, .int .i64 m.wlo, .int .i64 m.whi, .int .i64 m.st, .int .i64 m.shrink, .int .i64 m.skin, .int .i64 m.fill, .int .i64 m.gap, .int .i64 m.deep], .bool e, .int .i64 600] w fun e' w' => ∃ A1 c1 A2 c2, e' = .returned (.agg #[.slice A1 (kR m) c1, .slice A2 N c2]) ∧ IntsIn w' A1 (samP m e) ∧ IntsIn w' A2 (samW m e N) ∧ Below w.heap.size w w' := by
  have h := rsame_any m hok.toMdIn e N (by omega) w
  rw [show ((N : Nat) : Int) = 600 by omega, samP_length, samW_length] at h
  exact h
/-- What each operation leaves. -/
def endR (m : Md) (N : Nat) : Nat → Value → World → Prop
  | 0, v, _ => v = .agg #[.int .i64 m.rings, .int .i64 m.give, .int .i64 m.plo, .int .i64 m.phi, .int .i64 m.wlo, .int .i64 m.whi, .int .i64 m.st, .int .i64 m.shrink, .int .i64 m.skin, .int .i64 m.fill, .int .i64 m.gap, .int .i64 m.deep]
  | 1, v, _ => v = .agg #[.int .i64 m.rings, .int .i64 m.give, .int .i64 m.plo, .int .i64 m.phi, .int .i64 m.wlo, .int .i64 m.whi, .int .i64 m.st, .int .i64 m.shrink, .int .i64 m.skin, .int .i64 m.fill, .int .i64 m.gap, .int .i64 m.deep]
  | 2, v, W => ∃ A1 c1 A2 c2, v = .agg #[.slice A1 (kR m) c1, .slice A2 N c2] ∧ IntsIn W A1 (samP m false) ∧ IntsIn W A2 (samW m false N)
  | 3, v, W => ∃ A c, v = .slice A (kR m) c ∧ IntsIn W A (whN m false N)
  | 4, v, _ => v = .agg #[.int .i64 m.rings, .int .i64 m.give, .int .i64 m.plo, .int .i64 m.phi, .int .i64 m.wlo, .int .i64 m.whi, .int .i64 m.st, .int .i64 m.shrink, .int .i64 m.skin, .int .i64 m.fill, .int .i64 m.gap, .int .i64 m.deep]
  | 5, v, _ => v = .agg #[.int .i64 m.rings, .int .i64 m.give, .int .i64 m.plo, .int .i64 m.phi, .int .i64 m.wlo, .int .i64 m.whi, .int .i64 m.st, .int .i64 m.shrink, .int .i64 m.skin, .int .i64 m.fill, .int .i64 m.gap, .int .i64 m.deep]
  | 6, v, W => ∃ A1 c1 A2 c2, v = .agg #[.slice A1 (kR m) c1, .slice A2 N c2] ∧ IntsIn W A1 (samP m true) ∧ IntsIn W A2 (samW m true N)
  | 7, v, W => ∃ A c, v = .slice A (kR m) c ∧ IntsIn W A (whN m true N)
  | 8, v, W => ∃ A c, v = .slice A (kR m) c ∧ IntsIn W A (whN m false N)
  | 9, v, W => ∃ A c, v = .slice A (kR m) c ∧ IntsIn W A (whN m true N)
  | _, _, _ => True
theorem endR_on (m : Md) (N : Nat) : ∀ i, i < 10 → ∀ v W W', endR m N i v W → Below W.heap.size W W' → endR m N i v W' := by
  iterate 10 (refine all_succ ?_ ?_)
  · exact all_zero
  · exact fun _ _ _ h _ => h
  · exact fun _ _ _ h _ => h
  · rintro v W W' ⟨A, c, B, d, e, h, h2⟩ hb; exact ⟨A, c, B, d, e, h.on hb, h2.on hb⟩
  · rintro v W W' ⟨A, c, e, h⟩ hb; exact ⟨A, c, e, h.on hb⟩
  · exact fun _ _ _ h _ => h
  · exact fun _ _ _ h _ => h
  · rintro v W W' ⟨A, c, B, d, e, h, h2⟩ hb; exact ⟨A, c, B, d, e, h.on hb, h2.on hb⟩
  · rintro v W W' ⟨A, c, e, h⟩ hb; exact ⟨A, c, e, h.on hb⟩
  · rintro v W W' ⟨A, c, e, h⟩ hb; exact ⟨A, c, e, h.on hb⟩
  · rintro v W W' ⟨A, c, e, h⟩ hb; exact ⟨A, c, e, h.on hb⟩
/-- Both lists of minutes. -/
def EndsOut (m : Md) (w : World) (v : Value) (w' : World) : Prop :=
  ∃ A c A2 c2, v = .tuple #[.slice A (kR m) c, .slice A2 (kR m) c2] ∧ IntsIn w' A (wh m false) ∧ IntsIn w' A2 (wh m true) ∧ Below w.heap.size w w'
set_option maxRecDepth 100000 in
set_option maxHeartbeats 8000000 in
theorem rends_any (m : Md) (hok : MdOk m) (w : World) :
    Calls Try.prog 69 #[.agg #[.int .i64 m.rings, .int .i64 m.give, .int .i64 m.plo, .int .i64 m.phi, .int .i64 m.wlo, .int .i64 m.whi, .int .i64 m.st, .int .i64 m.shrink, .int .i64 m.skin, .int .i64 m.fill, .int .i64 m.gap, .int .i64 m.deep]] w fun e w' => ∃ v, e = .returned v ∧ EndsOut m w v w' := by
  have HM := Lib.hid (MdBk.new w 25 m)
  obtain ⟨N, hN⟩ : ∃ N : Nat, N = 600 := ⟨_, rfl⟩
  have HS0 := Lib.hid (fun W => same_n hok false hN W)
  have HS1 := Lib.hid (fun W => same_n hok true hN W)
  have HW := Lib.hid (fun (e : Bool) (W : World) (A1 A2 : Option Addr) (d1 d2 : Nat) (h1 : IntsIn W A1 (samP m e)) (h2 : IntsIn W A2 (samW m e N)) => when_same (c1 := d1) (c2 := d2) hok e (by omega) h1 h2)
  have HE0 : Hid (wh m false = whN m false N) := by show wh m false = _; unfold wh; rw [hN]
  have HE1 : Hid (wh m true = whN m true N) := by show wh m true = _; unfold wh; rw [hN]
  clear hN hok
  go_enter Try.func69, Try.ntmps69
  go_wp2_with fail
  refine wp_region_spec (by kernel_rfl) 10 (by kernel_rfl) (fun u => ⟨#[.agg #[.int .i64 m.rings, .int .i64 m.give, .int .i64 m.plo, .int .i64 m.phi, .int .i64 m.wlo, .int .i64 m.whi, .int .i64 m.st, .int .i64 m.shrink, .int .i64 m.skin, .int .i64 m.fill, .int .i64 m.gap, .int .i64 m.deep], .pointer (some ⟨w.heap.size, 0, none⟩), u 8, u 9, u 0, u 1, u 2, u 3, u 4, u 5, u 6, u 7], []⟩) (fun i => if i < 8 then undef else .slice none 0 0) (fun W => Hid (MdBk w w.heap.size 25 m W)) (endR m N) (by kernel_rfl) (HM.out.on (Below.refl _ _).drew) (fun i v W W2 hi h hb => endR_on m N i hi v W W2 h hb) (by decide +kernel) ?_ ?_
  · iterate 10 (refine all_succ ?_ ?_)
    · exact all_zero
    · intro u W hB _ hd _ K hK
      have HK := Lib.hid hK; clear hK
      refine wpOp_of rfl (by rfl) ?_
      obtain ⟨c0, c1, c2, c3, c4, c5, c6, c7, c8, c9, c10, c11⟩ := hB.out.cells
      go_simp
      exact k_of (HK.out (.agg #[.int .i64 m.rings, .int .i64 m.give, .int .i64 m.plo, .int .i64 m.phi, .int .i64 m.wlo, .int .i64 m.whi, .int .i64 m.st, .int .i64 m.shrink, .int .i64 m.skin, .int .i64 m.fill, .int .i64 m.gap, .int .i64 m.deep]) _ rfl hB (Below.refl _ _)) (by kernel_rfl)
    · intro u W hB _ hd _ K hK
      have HK := Lib.hid hK; clear hK
      refine wpOp_of rfl (by rfl) ?_
      obtain ⟨c0, c1, c2, c3, c4, c5, c6, c7, c8, c9, c10, c11⟩ := hB.out.cells
      go_simp
      exact k_of (HK.out (.agg #[.int .i64 m.rings, .int .i64 m.give, .int .i64 m.plo, .int .i64 m.phi, .int .i64 m.wlo, .int .i64 m.whi, .int .i64 m.st, .int .i64 m.shrink, .int .i64 m.skin, .int .i64 m.fill, .int .i64 m.gap, .int .i64 m.deep]) _ rfl hB (Below.refl _ _)) (by kernel_rfl)
    · intro u W hB _ hd _ K hK
      have HK := Lib.hid hK; clear hK
      have e0 : u 1 = .agg #[.int .i64 m.rings, .int .i64 m.give, .int .i64 m.plo, .int .i64 m.phi, .int .i64 m.wlo, .int .i64 m.whi, .int .i64 m.st, .int .i64 m.shrink, .int .i64 m.skin, .int .i64 m.fill, .int .i64 m.gap, .int .i64 m.deep] := hd 1 (by decide +kernel)
      refine wpOp_of rfl (by rfl) ?_
      go_simp
      refine (HS0.out _).mono ?_
      rintro e w' ⟨B1, d1, B2, d2, rfl, i1, i2, hb⟩
      exact k_of (HK.out (.agg #[.slice B1 (kR m) d1, .slice B2 N d2]) _ ⟨B1, d1, B2, d2, rfl, i1, i2⟩ (hB.out.on hb) hb) (by rw [← u1_eq e0]; kernel_rfl)
    · intro u W hB _ hd _ K hK
      have HK := Lib.hid hK; clear hK
      have e0 : u 0 = .agg #[.int .i64 m.rings, .int .i64 m.give, .int .i64 m.plo, .int .i64 m.phi, .int .i64 m.wlo, .int .i64 m.whi, .int .i64 m.st, .int .i64 m.shrink, .int .i64 m.skin, .int .i64 m.fill, .int .i64 m.gap, .int .i64 m.deep] := hd 0 (by decide +kernel)
      obtain ⟨B1, d1, B2, d2, e2, i1, i2⟩ : endR m N 2 (u 2) W := hd 2 (by decide +kernel)
      refine wpOp_of rfl (by rfl) ?_
      go_simp
      refine (HW.out false _ _ _ _ _ i1 i2).mono ?_
      rintro e w' ⟨B3, d3, rfl, i3, hb⟩
      exact k_of (HK.out (.slice B3 (kR m) d3) _ ⟨B3, d3, rfl, i3⟩ (hB.out.on hb) hb) (by rw [← u1_eq e0, ← u1_eq e2]; kernel_rfl)
    · intro u W hB _ hd _ K hK
      have HK := Lib.hid hK; clear hK
      refine wpOp_of rfl (by rfl) ?_
      obtain ⟨c0, c1, c2, c3, c4, c5, c6, c7, c8, c9, c10, c11⟩ := hB.out.cells
      go_simp
      exact k_of (HK.out (.agg #[.int .i64 m.rings, .int .i64 m.give, .int .i64 m.plo, .int .i64 m.phi, .int .i64 m.wlo, .int .i64 m.whi, .int .i64 m.st, .int .i64 m.shrink, .int .i64 m.skin, .int .i64 m.fill, .int .i64 m.gap, .int .i64 m.deep]) _ rfl hB (Below.refl _ _)) (by kernel_rfl)
    · intro u W hB _ hd _ K hK
      have HK := Lib.hid hK; clear hK
      refine wpOp_of rfl (by rfl) ?_
      obtain ⟨c0, c1, c2, c3, c4, c5, c6, c7, c8, c9, c10, c11⟩ := hB.out.cells
      go_simp
      exact k_of (HK.out (.agg #[.int .i64 m.rings, .int .i64 m.give, .int .i64 m.plo, .int .i64 m.phi, .int .i64 m.wlo, .int .i64 m.whi, .int .i64 m.st, .int .i64 m.shrink, .int .i64 m.skin, .int .i64 m.fill, .int .i64 m.gap, .int .i64 m.deep]) _ rfl hB (Below.refl _ _)) (by kernel_rfl)
    · intro u W hB _ hd _ K hK
      have HK := Lib.hid hK; clear hK
      have e0 : u 5 = .agg #[.int .i64 m.rings, .int .i64 m.give, .int .i64 m.plo, .int .i64 m.phi, .int .i64 m.wlo, .int .i64 m.whi, .int .i64 m.st, .int .i64 m.shrink, .int .i64 m.skin, .int .i64 m.fill, .int .i64 m.gap, .int .i64 m.deep] := hd 5 (by decide +kernel)
      refine wpOp_of rfl (by rfl) ?_
      go_simp
      refine (HS1.out _).mono ?_
      rintro e w' ⟨B1, d1, B2, d2, rfl, i1, i2, hb⟩
      exact k_of (HK.out (.agg #[.slice B1 (kR m) d1, .slice B2 N d2]) _ ⟨B1, d1, B2, d2, rfl, i1, i2⟩ (hB.out.on hb) hb) (by rw [← u1_eq e0]; kernel_rfl)
    · intro u W hB _ hd _ K hK
      have HK := Lib.hid hK; clear hK
      have e0 : u 4 = .agg #[.int .i64 m.rings, .int .i64 m.give, .int .i64 m.plo, .int .i64 m.phi, .int .i64 m.wlo, .int .i64 m.whi, .int .i64 m.st, .int .i64 m.shrink, .int .i64 m.skin, .int .i64 m.fill, .int .i64 m.gap, .int .i64 m.deep] := hd 4 (by decide +kernel)
      obtain ⟨B1, d1, B2, d2, e2, i1, i2⟩ : endR m N 6 (u 6) W := hd 6 (by decide +kernel)
      refine wpOp_of rfl (by rfl) ?_
      go_simp
      refine (HW.out true _ _ _ _ _ i1 i2).mono ?_
      rintro e w' ⟨B3, d3, rfl, i3, hb⟩
      exact k_of (HK.out (.slice B3 (kR m) d3) _ ⟨B3, d3, rfl, i3⟩ (hB.out.on hb) hb) (by rw [← u1_eq e0, ← u1_eq e2]; kernel_rfl)
    · intro u W hB _ hd _ K hK
      have HK := Lib.hid hK; clear hK
      obtain ⟨B3, d3, e3, i3⟩ : endR m N 3 (u 3) W := hd 3 (by decide +kernel)
      refine wpOp_of rfl (by rfl) ?_
      go_simp
      exact k_of (HK.out (.slice B3 (kR m) d3) _ ⟨B3, d3, rfl, i3⟩ hB (Below.refl _ _)) (by rw [← u1_eq e3]; kernel_rfl)
    · intro u W hB _ hd _ K hK
      have HK := Lib.hid hK; clear hK
      obtain ⟨B3, d3, e3, i3⟩ : endR m N 7 (u 7) W := hd 7 (by decide +kernel)
      refine wpOp_of rfl (by rfl) ?_
      go_simp
      exact k_of (HK.out (.slice B3 (kR m) d3) _ ⟨B3, d3, rfl, i3⟩ hB (Below.refl _ _)) (by rw [← u1_eq e3]; kernel_rfl)
  · intro u W hB hd
    obtain ⟨A, c, e8, i8⟩ : endR m N 8 (u 8) W := hd 8 (by decide)
    obtain ⟨A2, c2, e9, i9⟩ : endR m N 9 (u 9) W := hd 9 (by decide)
    clear hd
    simp only [e8, e9]
    go_wp2_with fail
    refine bodyPost_ret (v := .tuple #[.slice A (kR m) c, .slice A2 (kR m) c2]) (by simp [results, Try.results69, go_sem]) rfl ⟨_, rfl, A, c, A2, c2, rfl, by rw [HE0.out]; exact i8, by rw [HE1.out]; exact i9, hB.out.b⟩
end Go.Proofs.Ytljbjcnfkbmjkaa
