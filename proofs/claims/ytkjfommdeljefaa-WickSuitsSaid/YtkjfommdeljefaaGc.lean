/- Layer wick, a part: faults. No statement is proved here. -/
import Derived.Test.YtkjfommdeljefaaQy
import Derived.Laws.EntriesVeiled
import Derived.Test.YtkjfommdeljefaaQz
import Derived.Lib.SliceRun
namespace Go.Proofs.Ytkjfommdeljefaa
open Go.RowKit Go.Shelf Go.Maps
attribute [local go_sem] Oper.semAt_some


/-- What can be wrong: whether it is so with a candle that burns so. -/
def isF (s : Sh) (n : Int) (b : Bn) (d : Int) : Bool := if n = 1 then decide (s.fhi * 1000000 < b.flame) else if n = 2 then decide (b.flame < s.flo * 1000000) else if n = 3 then decide (b.pool < s.plo * d * 1000) else decide (s.phi * d * 1000 < b.pool)
def canF (s : Sh) (n : Int) (k : Wk) (x : Wx) (c : Cd) (d : Int) : Bool := isF s n (burn x (weakT k x c)) d || isF s n (burn x (strongT k x c)) d
/-- The closure of a fault. -/
def fF (n : Int) : FuncId := if n = 1 then 100 else if n = 2 then 101 else if n = 3 then 102 else 104
abbrev fv (n : Int) (P : Nat) : Value := .func (.func (fF n)) #[] #[.pointer (some ⟨P, 0, none⟩)]
theorem width_any (a d : Int) (h1 : IntKind.i64.wrap (a * d) = a * d) (h2 : IntKind.i64.wrap (a * d * 1000) = a * d * 1000) (w : World) :
    Calls Try.prog 103 #[.int .i64 a, .int .i64 d] w fun e w' => e = .returned (.int .i64 (a * d * 1000)) ∧ w' = w := by
  go_enter Try.func103, Try.ntmps103
  go_wp2_with fail
  go_ret
  exact ⟨rfl, rfl⟩
theorem mul_in {a d : Int} (ha : 0 ≤ a ∧ a ≤ 2000) (hd : 1 ≤ d ∧ d ≤ 2000) : 0 ≤ a * d ∧ a * d ≤ 4000000 := ⟨Int.mul_nonneg ha.1 (by omega), Int.mul_le_mul ha.2 hd.2 (by omega) (by omega)⟩

/-- What each operation leaves. -/
def is3R (P B0 : Nat) (p : Sp) (_c : Cd) (b : Bn) (d z9 : Int) : Nat → Value → World → Prop
  | 0, v, _ => v = .pointer (some ⟨B0, 2, none⟩)
  | 1, v, _ => v = .int .i64 b.pool
  | 2, v, _ => v = .pointer (some ⟨P, 0, none⟩)
  | 3, v, _ => v = .pointer (some ⟨P, 4, none⟩)
  | 4, v, _ => v = .pointer (some ⟨P, 4, none⟩)
  | 5, v, _ => v = .int .i64 p.s.plo
  | 6, v, _ => v = .int .i64 d
  | 7, v, _ => v = .int .i64 z9
  | 8, v, _ => v = .bool (decide (b.pool < z9))
  | 9, v, _ => v = .bool (decide (b.pool < z9))
  | _, _, _ => True
theorem is3R_on (P B0 : Nat) (p : Sp) (c : Cd) (b : Bn) (d z9 : Int) : ∀ i, i < 10 → ∀ v W W', is3R P B0 p c b d z9 i v W → Below W.heap.size W W' → is3R P B0 p c b d z9 i v W' := by
  iterate 10 (refine all_succ ?_ ?_)
  · exact all_zero
  · exact fun _ _ _ h _ => h
  · exact fun _ _ _ h _ => h
  · exact fun _ _ _ h _ => h
  · exact fun _ _ _ h _ => h
  · exact fun _ _ _ h _ => h
  · exact fun _ _ _ h _ => h
  · exact fun _ _ _ h _ => h
  · exact fun _ _ _ h _ => h
  · exact fun _ _ _ h _ => h
  · exact fun _ _ _ h _ => h
set_option maxRecDepth 100000 in
set_option maxHeartbeats 8000000 in
theorem is3_region {S : World → Prop} (hon : ∀ W W', S W → Below W.heap.size W W' → S W') {P B0 : Nat} {p : Sp} {c : Cd} {b : Bn} {d z9 : Int} (hP : ∀ W, S W → Blk W P 93 #[.slice p.ka p.s.ks.length p.kc, .slice p.xa p.s.xs.length p.xc, .int .i64 p.s.flo, .int .i64 p.s.fhi, .int .i64 p.s.plo, .int .i64 p.s.phi, .int .i64 c.wax, .int .i64 c.dia, .int .i64 c.dra, .int .i64 c.clo, .int .i64 c.chi]) (hB0 : ∀ W, S W → Blk W B0 40 #[.int .i64 b.rate, .int .i64 b.flame, .int .i64 b.pool]) (HW : Hid (∀ W, Calls Try.prog 103 #[.int .i64 p.s.plo, .int .i64 d] W fun e w' => e = .returned (.int .i64 z9) ∧ w' = W)) {Q : Exit → Act → World → Prop} {s0 s4 : Value} {W0 : World} (HL : Hid (S W0))
    (HQ : Hid (∀ (u : Nat → Value) (W : World), S W → Q .normal ⟨#[s0, .int .i64 d, .pointer (some ⟨P, 0, none⟩), .pointer (some ⟨B0, 0, none⟩), s4, .bool (decide (b.pool < z9)), u 0, u 1, u 2, u 3, u 4, u 5, u 6, u 7, u 8], []⟩ W)) :
    Code.wp Try.prog ((Try.f102.body.bind (regionAt 1)).getD .skip) Q ⟨#[s0, .int .i64 d, .pointer (some ⟨P, 0, none⟩), .pointer (some ⟨B0, 0, none⟩), s4, .bool false, undef, undef, undef, undef, undef, undef, undef, undef, undef], []⟩ W0 := by
  conv => arg 2; whnf
  refine wp_region_spec (by kernel_rfl) 10 (by kernel_rfl) (fun u => ⟨#[s0, .int .i64 d, .pointer (some ⟨P, 0, none⟩), .pointer (some ⟨B0, 0, none⟩), s4, u 9, u 0, u 1, u 2, u 3, u 4, u 5, u 6, u 7, u 8], []⟩) (fun i => if i = 9 then .bool false else undef) (fun W => Hid (S W)) (is3R P B0 p c b d z9) (by kernel_rfl) (hon _ _ HL.out (Below.refl _ _).drew) (fun i v W W2 hi h hb => is3R_on P B0 p c b d z9 i hi v W W2 h hb) (by decide +kernel) ?_ ?_
  · iterate 10 (refine all_succ ?_ ?_)
    · exact all_zero
    · intro u W hB _ hd _ K hK
      have HK := Lib.hid hK; clear hK
      refine wpOp_of rfl (by rfl) ?_
      go_simp
      exact k_of (HK.out (.pointer (some ⟨B0, 2, none⟩)) _ rfl hB (Below.refl _ _)) (by kernel_rfl)
    · intro u W hB _ hd _ K hK
      have HK := Lib.hid hK; clear hK
      have e0 : u 0 = .pointer (some ⟨B0, 2, none⟩) := hd 0 (by decide +kernel)
      refine wpOp_of rfl (by rfl) ?_
      have z2 := (hB0 W hB.out).cell 2
      go_simp
      exact k_of (HK.out (.int .i64 b.pool) _ rfl hB (Below.refl _ _)) (by rw [← u1_eq e0]; kernel_rfl)
    · intro u W hB _ hd _ K hK
      have HK := Lib.hid hK; clear hK
      refine wpOp_of rfl (by rfl) ?_
      go_simp
      exact k_of (HK.out (.pointer (some ⟨P, 0, none⟩)) _ rfl hB (Below.refl _ _)) (by kernel_rfl)
    · intro u W hB _ hd _ K hK
      have HK := Lib.hid hK; clear hK
      have e2 : u 2 = .pointer (some ⟨P, 0, none⟩) := hd 2 (by decide +kernel)
      refine wpOp_of rfl (by rfl) ?_
      go_simp
      exact k_of (HK.out (.pointer (some ⟨P, 4, none⟩)) _ rfl hB (Below.refl _ _)) (by rw [← u1_eq e2]; kernel_rfl)
    · intro u W hB _ hd _ K hK
      have HK := Lib.hid hK; clear hK
      have e3 : u 3 = .pointer (some ⟨P, 4, none⟩) := hd 3 (by decide +kernel)
      refine wpOp_of rfl (by rfl) ?_
      go_simp
      exact k_of (HK.out (.pointer (some ⟨P, 4, none⟩)) _ rfl hB (Below.refl _ _)) (by rw [← u1_eq e3]; kernel_rfl)
    · intro u W hB _ hd _ K hK
      have HK := Lib.hid hK; clear hK
      have e4 : u 4 = .pointer (some ⟨P, 4, none⟩) := hd 4 (by decide +kernel)
      refine wpOp_of rfl (by rfl) ?_
      have z4 := (hP W hB.out).cell 4
      go_simp
      exact k_of (HK.out (.int .i64 p.s.plo) _ rfl hB (Below.refl _ _)) (by rw [← u1_eq e4]; kernel_rfl)
    · intro u W hB _ hd _ K hK
      have HK := Lib.hid hK; clear hK
      refine wpOp_of rfl (by rfl) ?_
      go_simp
      exact k_of (HK.out (.int .i64 d) _ rfl hB (Below.refl _ _)) (by kernel_rfl)
    · intro u W hB _ hd _ K hK
      have HK := Lib.hid hK; clear hK
      have e5 : u 5 = .int .i64 p.s.plo := hd 5 (by decide +kernel)
      have e6 : u 6 = .int .i64 d := hd 6 (by decide +kernel)
      refine wpOp_of rfl (by rfl) ?_
      go_simp
      refine (HW.out W).mono ?_
      rintro e w' ⟨rfl, rfl⟩
      exact k_of (HK.out (.int .i64 z9) _ rfl hB (Below.refl _ _)) (by rw [← u1_eq e5, ← u1_eq e6]; kernel_rfl)
    · intro u W hB _ hd _ K hK
      have HK := Lib.hid hK; clear hK
      have e1 : u 1 = .int .i64 b.pool := hd 1 (by decide +kernel)
      have e7 : u 7 = .int .i64 z9 := hd 7 (by decide +kernel)
      refine wpOp_of rfl (by rfl) ?_
      go_simp
      exact k_of (HK.out (.bool (decide (b.pool < z9))) _ rfl hB (Below.refl _ _)) (by rw [← u1_eq e1, ← u1_eq e7]; kernel_rfl)
    · intro u W hB _ hd _ K hK
      have HK := Lib.hid hK; clear hK
      have e8 : u 8 = .bool (decide (b.pool < z9)) := hd 8 (by decide +kernel)
      refine wpOp_of rfl (by rfl) ?_
      go_simp
      exact k_of (HK.out (.bool (decide (b.pool < z9))) _ rfl hB (Below.refl _ _)) (by rw [← u1_eq e8]; kernel_rfl)
  · intro u W hB hd
    have e9 : u 9 = .bool (decide (b.pool < z9)) := hd 9 (by decide)
    exact k_of (HQ.out u W hB.out) (by simp only [e9])

/-- What each operation leaves. -/
def is4R (P B0 : Nat) (p : Sp) (_c : Cd) (b : Bn) (d z9 : Int) : Nat → Value → World → Prop
  | 0, v, _ => v = .pointer (some ⟨B0, 2, none⟩)
  | 1, v, _ => v = .int .i64 b.pool
  | 2, v, _ => v = .pointer (some ⟨P, 0, none⟩)
  | 3, v, _ => v = .pointer (some ⟨P, 4, none⟩)
  | 4, v, _ => v = .pointer (some ⟨P, 5, none⟩)
  | 5, v, _ => v = .int .i64 p.s.phi
  | 6, v, _ => v = .int .i64 d
  | 7, v, _ => v = .int .i64 z9
  | 8, v, _ => v = .bool (decide (z9 < b.pool))
  | 9, v, _ => v = .bool (decide (z9 < b.pool))
  | _, _, _ => True
theorem is4R_on (P B0 : Nat) (p : Sp) (c : Cd) (b : Bn) (d z9 : Int) : ∀ i, i < 10 → ∀ v W W', is4R P B0 p c b d z9 i v W → Below W.heap.size W W' → is4R P B0 p c b d z9 i v W' := by
  iterate 10 (refine all_succ ?_ ?_)
  · exact all_zero
  · exact fun _ _ _ h _ => h
  · exact fun _ _ _ h _ => h
  · exact fun _ _ _ h _ => h
  · exact fun _ _ _ h _ => h
  · exact fun _ _ _ h _ => h
  · exact fun _ _ _ h _ => h
  · exact fun _ _ _ h _ => h
  · exact fun _ _ _ h _ => h
  · exact fun _ _ _ h _ => h
  · exact fun _ _ _ h _ => h
set_option maxRecDepth 100000 in
set_option maxHeartbeats 8000000 in
theorem is4_region {S : World → Prop} (hon : ∀ W W', S W → Below W.heap.size W W' → S W') {P B0 : Nat} {p : Sp} {c : Cd} {b : Bn} {d z9 : Int} (hP : ∀ W, S W → Blk W P 93 #[.slice p.ka p.s.ks.length p.kc, .slice p.xa p.s.xs.length p.xc, .int .i64 p.s.flo, .int .i64 p.s.fhi, .int .i64 p.s.plo, .int .i64 p.s.phi, .int .i64 c.wax, .int .i64 c.dia, .int .i64 c.dra, .int .i64 c.clo, .int .i64 c.chi]) (hB0 : ∀ W, S W → Blk W B0 40 #[.int .i64 b.rate, .int .i64 b.flame, .int .i64 b.pool]) (HW : Hid (∀ W, Calls Try.prog 103 #[.int .i64 p.s.phi, .int .i64 d] W fun e w' => e = .returned (.int .i64 z9) ∧ w' = W)) {Q : Exit → Act → World → Prop} {s0 s4 : Value} {W0 : World} (HL : Hid (S W0))
    (HQ : Hid (∀ (u : Nat → Value) (W : World), S W → Q .normal ⟨#[s0, .int .i64 d, .pointer (some ⟨P, 0, none⟩), .pointer (some ⟨B0, 0, none⟩), s4, .bool (decide (z9 < b.pool)), u 0, u 1, u 2, u 3, u 4, u 5, u 6, u 7, u 8], []⟩ W)) :
    Code.wp Try.prog ((Try.f104.body.bind (regionAt 1)).getD .skip) Q ⟨#[s0, .int .i64 d, .pointer (some ⟨P, 0, none⟩), .pointer (some ⟨B0, 0, none⟩), s4, .bool false, undef, undef, undef, undef, undef, undef, undef, undef, undef], []⟩ W0 := by
  conv => arg 2; whnf
  refine wp_region_spec (by kernel_rfl) 10 (by kernel_rfl) (fun u => ⟨#[s0, .int .i64 d, .pointer (some ⟨P, 0, none⟩), .pointer (some ⟨B0, 0, none⟩), s4, u 9, u 0, u 1, u 2, u 3, u 4, u 5, u 6, u 7, u 8], []⟩) (fun i => if i = 9 then .bool false else undef) (fun W => Hid (S W)) (is4R P B0 p c b d z9) (by kernel_rfl) (hon _ _ HL.out (Below.refl _ _).drew) (fun i v W W2 hi h hb => is4R_on P B0 p c b d z9 i hi v W W2 h hb) (by decide +kernel) ?_ ?_
  · iterate 10 (refine all_succ ?_ ?_)
    · exact all_zero
    · intro u W hB _ hd _ K hK
      have HK := Lib.hid hK; clear hK
      refine wpOp_of rfl (by rfl) ?_
      go_simp
      exact k_of (HK.out (.pointer (some ⟨B0, 2, none⟩)) _ rfl hB (Below.refl _ _)) (by kernel_rfl)
    · intro u W hB _ hd _ K hK
      have HK := Lib.hid hK; clear hK
      have e0 : u 0 = .pointer (some ⟨B0, 2, none⟩) := hd 0 (by decide +kernel)
      refine wpOp_of rfl (by rfl) ?_
      have z2 := (hB0 W hB.out).cell 2
      go_simp
      exact k_of (HK.out (.int .i64 b.pool) _ rfl hB (Below.refl _ _)) (by rw [← u1_eq e0]; kernel_rfl)
    · intro u W hB _ hd _ K hK
      have HK := Lib.hid hK; clear hK
      refine wpOp_of rfl (by rfl) ?_
      go_simp
      exact k_of (HK.out (.pointer (some ⟨P, 0, none⟩)) _ rfl hB (Below.refl _ _)) (by kernel_rfl)
    · intro u W hB _ hd _ K hK
      have HK := Lib.hid hK; clear hK
      have e2 : u 2 = .pointer (some ⟨P, 0, none⟩) := hd 2 (by decide +kernel)
      refine wpOp_of rfl (by rfl) ?_
      go_simp
      exact k_of (HK.out (.pointer (some ⟨P, 4, none⟩)) _ rfl hB (Below.refl _ _)) (by rw [← u1_eq e2]; kernel_rfl)
    · intro u W hB _ hd _ K hK
      have HK := Lib.hid hK; clear hK
      have e3 : u 3 = .pointer (some ⟨P, 4, none⟩) := hd 3 (by decide +kernel)
      refine wpOp_of rfl (by rfl) ?_
      go_simp
      exact k_of (HK.out (.pointer (some ⟨P, 5, none⟩)) _ rfl hB (Below.refl _ _)) (by rw [← u1_eq e3]; kernel_rfl)
    · intro u W hB _ hd _ K hK
      have HK := Lib.hid hK; clear hK
      have e4 : u 4 = .pointer (some ⟨P, 5, none⟩) := hd 4 (by decide +kernel)
      refine wpOp_of rfl (by rfl) ?_
      have z5 := (hP W hB.out).cell 5
      go_simp
      exact k_of (HK.out (.int .i64 p.s.phi) _ rfl hB (Below.refl _ _)) (by rw [← u1_eq e4]; kernel_rfl)
    · intro u W hB _ hd _ K hK
      have HK := Lib.hid hK; clear hK
      refine wpOp_of rfl (by rfl) ?_
      go_simp
      exact k_of (HK.out (.int .i64 d) _ rfl hB (Below.refl _ _)) (by kernel_rfl)
    · intro u W hB _ hd _ K hK
      have HK := Lib.hid hK; clear hK
      have e5 : u 5 = .int .i64 p.s.phi := hd 5 (by decide +kernel)
      have e6 : u 6 = .int .i64 d := hd 6 (by decide +kernel)
      refine wpOp_of rfl (by rfl) ?_
      go_simp
      refine (HW.out W).mono ?_
      rintro e w' ⟨rfl, rfl⟩
      exact k_of (HK.out (.int .i64 z9) _ rfl hB (Below.refl _ _)) (by rw [← u1_eq e5, ← u1_eq e6]; kernel_rfl)
    · intro u W hB _ hd _ K hK
      have HK := Lib.hid hK; clear hK
      have e1 : u 1 = .int .i64 b.pool := hd 1 (by decide +kernel)
      have e7 : u 7 = .int .i64 z9 := hd 7 (by decide +kernel)
      refine wpOp_of rfl (by rfl) ?_
      go_simp
      exact k_of (HK.out (.bool (decide (z9 < b.pool))) _ rfl hB (Below.refl _ _)) (by rw [← u1_eq e1, ← u1_eq e7]; kernel_rfl)
    · intro u W hB _ hd _ K hK
      have HK := Lib.hid hK; clear hK
      have e8 : u 8 = .bool (decide (z9 < b.pool)) := hd 8 (by decide +kernel)
      refine wpOp_of rfl (by rfl) ?_
      go_simp
      exact k_of (HK.out (.bool (decide (z9 < b.pool))) _ rfl hB (Below.refl _ _)) (by rw [← u1_eq e8]; kernel_rfl)
  · intro u W hB hd
    have e9 : u 9 = .bool (decide (z9 < b.pool)) := hd 9 (by decide)
    exact k_of (HQ.out u W hB.out) (by simp only [e9])


set_option maxRecDepth 100000 in
theorem is1_any {w : World} {p : Sp} {c : Cd} {P : Nat} {b : Bn} {d : Int} (h : Blk w P 93 #[.slice p.ka p.s.ks.length p.kc, .slice p.xa p.s.xs.length p.xc, .int .i64 p.s.flo, .int .i64 p.s.fhi, .int .i64 p.s.plo, .int .i64 p.s.phi, .int .i64 c.wax, .int .i64 c.dia, .int .i64 c.dra, .int .i64 c.clo, .int .i64 c.chi]) (hs : ShOk p.s) :
    Calls Try.prog 100 #[.agg #[.int .i64 b.rate, .int .i64 b.flame, .int .i64 b.pool], .int .i64 d, .pointer (some ⟨P, 0, none⟩)] w fun e w' => e = .returned (.bool (isF p.s 1 b d)) ∧ Below w.heap.size w w' := by
  have h1 := hs.fl
  have hw1 : IntKind.i64.wrap (p.s.fhi * 1000000) = p.s.fhi * 1000000 := IntWalk.i64_in _ (by omega)
  have HB := Lib.hid ((Below.refl _ w).alloc (Nat.le_refl _) (.cells #[.int .i64 b.rate, .int .i64 b.flame, .int .i64 b.pool] 40))
  have c2 := h.cell 2; have c3 := h.cell 3; have hl := h.lt
  have HE : Hid (isF p.s 1 b d = decide (p.s.fhi * 1000000 < b.flame)) := by show _ = _; simp [isF]
  clear h h1 hs
  go_enter Try.func100, Try.ntmps100
  go_wp2_with fail
  go_ret
  exact ⟨ret_bool HE.out.symm, HB.out⟩


set_option maxRecDepth 100000 in
theorem is2_any {w : World} {p : Sp} {c : Cd} {P : Nat} {b : Bn} {d : Int} (h : Blk w P 93 #[.slice p.ka p.s.ks.length p.kc, .slice p.xa p.s.xs.length p.xc, .int .i64 p.s.flo, .int .i64 p.s.fhi, .int .i64 p.s.plo, .int .i64 p.s.phi, .int .i64 c.wax, .int .i64 c.dia, .int .i64 c.dra, .int .i64 c.clo, .int .i64 c.chi]) (hs : ShOk p.s) :
    Calls Try.prog 101 #[.agg #[.int .i64 b.rate, .int .i64 b.flame, .int .i64 b.pool], .int .i64 d, .pointer (some ⟨P, 0, none⟩)] w fun e w' => e = .returned (.bool (isF p.s 2 b d)) ∧ Below w.heap.size w w' := by
  have h1 := hs.fl
  have hw1 : IntKind.i64.wrap (p.s.flo * 1000000) = p.s.flo * 1000000 := IntWalk.i64_in _ (by omega)
  have HB := Lib.hid ((Below.refl _ w).alloc (Nat.le_refl _) (.cells #[.int .i64 b.rate, .int .i64 b.flame, .int .i64 b.pool] 40))
  have c2 := h.cell 2; have c3 := h.cell 3; have hl := h.lt
  have HE : Hid (isF p.s 2 b d = decide (b.flame < p.s.flo * 1000000)) := by show _ = _; simp [isF]
  clear h h1 hs
  go_enter Try.func101, Try.ntmps101
  go_wp2_with fail
  go_ret
  exact ⟨ret_bool HE.out.symm, HB.out⟩


set_option maxRecDepth 100000 in
theorem is3_any {w : World} {p : Sp} {c : Cd} {P : Nat} {b : Bn} {d : Int} (h : Blk w P 93 #[.slice p.ka p.s.ks.length p.kc, .slice p.xa p.s.xs.length p.xc, .int .i64 p.s.flo, .int .i64 p.s.fhi, .int .i64 p.s.plo, .int .i64 p.s.phi, .int .i64 c.wax, .int .i64 c.dia, .int .i64 c.dra, .int .i64 c.clo, .int .i64 c.chi]) (hs : ShOk p.s) (hd : 1 ≤ d ∧ d ≤ 2000) :
    Calls Try.prog 102 #[.agg #[.int .i64 b.rate, .int .i64 b.flame, .int .i64 b.pool], .int .i64 d, .pointer (some ⟨P, 0, none⟩)] w fun e w' => e = .returned (.bool (isF p.s 3 b d)) ∧ Below w.heap.size w w' := by
  have h1 := hs.po
  have h2 := mul_in (a := p.s.plo) (by omega) hd
  have HB := Lib.hid ((Below.refl _ w).alloc (Nat.le_refl _) (.cells #[.int .i64 b.rate, .int .i64 b.flame, .int .i64 b.pool] 40))
  have HW := Lib.hid (fun (W : World) => width_any p.s.plo d (IntWalk.i64_in _ (by omega)) (IntWalk.i64_in _ (by omega)) W)
  have H1 := Lib.hid h
  have HE : Hid (isF p.s 3 b d = decide (b.pool < p.s.plo * d * 1000)) := by show _ = _; simp [isF]
  clear h h1 hs h2 hd
  generalize p.s.plo * d * 1000 = v at *
  go_enter Try.func102, Try.ntmps102
  go_wp2_with fail
  refine wp_of_eq (is3_region (S := fun W => (Blk W P 93 #[.slice p.ka p.s.ks.length p.kc, .slice p.xa p.s.xs.length p.xc, .int .i64 p.s.flo, .int .i64 p.s.fhi, .int .i64 p.s.plo, .int .i64 p.s.phi, .int .i64 c.wax, .int .i64 c.dia, .int .i64 c.dra, .int .i64 c.clo, .int .i64 c.chi] ∧ Blk W w.heap.size 40 #[.int .i64 b.rate, .int .i64 b.flame, .int .i64 b.pool]) ∧ Below w.heap.size w W) (fun _ _ h hb => ⟨⟨h.1.1.on hb, h.1.2.on hb⟩, h.2.trans (hb.mono h.2.size)⟩) (P := P) (B0 := w.heap.size) (p := p) (c := c) (b := b) (d := d) (z9 := v) (fun W h => h.1.1) (fun W h => h.1.2) HW (Lib.hid ⟨⟨H1.out.alloc _, Blk.new _ _ _⟩, HB.out⟩) (Lib.hid fun u W hS => ?_)) (by kernel_rfl)
  have hF := Lib.hid hS.2
  clear hS
  go_wp2_with fail
  go_ret
  exact ⟨ret_bool HE.out.symm, hF.out⟩


set_option maxRecDepth 100000 in
theorem is4_any {w : World} {p : Sp} {c : Cd} {P : Nat} {b : Bn} {d : Int} (h : Blk w P 93 #[.slice p.ka p.s.ks.length p.kc, .slice p.xa p.s.xs.length p.xc, .int .i64 p.s.flo, .int .i64 p.s.fhi, .int .i64 p.s.plo, .int .i64 p.s.phi, .int .i64 c.wax, .int .i64 c.dia, .int .i64 c.dra, .int .i64 c.clo, .int .i64 c.chi]) (hs : ShOk p.s) (hd : 1 ≤ d ∧ d ≤ 2000) :
    Calls Try.prog 104 #[.agg #[.int .i64 b.rate, .int .i64 b.flame, .int .i64 b.pool], .int .i64 d, .pointer (some ⟨P, 0, none⟩)] w fun e w' => e = .returned (.bool (isF p.s 4 b d)) ∧ Below w.heap.size w w' := by
  have h1 := hs.po
  have h2 := mul_in (a := p.s.phi) (by omega) hd
  have HB := Lib.hid ((Below.refl _ w).alloc (Nat.le_refl _) (.cells #[.int .i64 b.rate, .int .i64 b.flame, .int .i64 b.pool] 40))
  have HW := Lib.hid (fun (W : World) => width_any p.s.phi d (IntWalk.i64_in _ (by omega)) (IntWalk.i64_in _ (by omega)) W)
  have H1 := Lib.hid h
  have HE : Hid (isF p.s 4 b d = decide (p.s.phi * d * 1000 < b.pool)) := by show _ = _; simp [isF]
  clear h h1 hs h2 hd
  generalize p.s.phi * d * 1000 = v at *
  go_enter Try.func104, Try.ntmps104
  go_wp2_with fail
  refine wp_of_eq (is4_region (S := fun W => (Blk W P 93 #[.slice p.ka p.s.ks.length p.kc, .slice p.xa p.s.xs.length p.xc, .int .i64 p.s.flo, .int .i64 p.s.fhi, .int .i64 p.s.plo, .int .i64 p.s.phi, .int .i64 c.wax, .int .i64 c.dia, .int .i64 c.dra, .int .i64 c.clo, .int .i64 c.chi] ∧ Blk W w.heap.size 40 #[.int .i64 b.rate, .int .i64 b.flame, .int .i64 b.pool]) ∧ Below w.heap.size w W) (fun _ _ h hb => ⟨⟨h.1.1.on hb, h.1.2.on hb⟩, h.2.trans (hb.mono h.2.size)⟩) (P := P) (B0 := w.heap.size) (p := p) (c := c) (b := b) (d := d) (z9 := v) (fun W h => h.1.1) (fun W h => h.1.2) HW (Lib.hid ⟨⟨H1.out.alloc _, Blk.new _ _ _⟩, HB.out⟩) (Lib.hid fun u W hS => ?_)) (by kernel_rfl)
  have hF := Lib.hid hS.2
  clear hS
  go_wp2_with fail
  go_ret
  exact ⟨ret_bool HE.out.symm, hF.out⟩


set_option maxRecDepth 100000 in
theorem mk1_any (w : World) (p : Sp) (c : Cd) :
    Calls Try.prog 80 #[.agg #[.slice p.ka p.s.ks.length p.kc, .slice p.xa p.s.xs.length p.xc, .int .i64 p.s.flo, .int .i64 p.s.fhi, .int .i64 p.s.plo, .int .i64 p.s.phi, .int .i64 c.wax, .int .i64 c.dia, .int .i64 c.dra, .int .i64 c.clo, .int .i64 c.chi]] w fun e w' => ∃ P, e = .returned (.agg #[.int .i64 1, .func (.func 100) #[] #[.pointer (some ⟨P, 0, none⟩)]]) ∧ Blk w' P 93 #[.slice p.ka p.s.ks.length p.kc, .slice p.xa p.s.xs.length p.xc, .int .i64 p.s.flo, .int .i64 p.s.fhi, .int .i64 p.s.plo, .int .i64 p.s.phi, .int .i64 c.wax, .int .i64 c.dia, .int .i64 c.dra, .int .i64 c.clo, .int .i64 c.chi] ∧ Below w.heap.size w w' := by
  have hb0 := ((Bx.nil w).alloc #[.slice p.ka p.s.ks.length p.kc, .slice p.xa p.s.xs.length p.xc, .int .i64 p.s.flo, .int .i64 p.s.fhi, .int .i64 p.s.plo, .int .i64 p.s.phi, .int .i64 c.wax, .int .i64 c.dia, .int .i64 c.dra, .int .i64 c.clo, .int .i64 c.chi] 93).alloc #[.int .i64 1, .func (.func 100) #[] #[.pointer (some ⟨w.heap.size, 0, none⟩)]] 105
  simp only [World.size_alloc] at hb0
  go_enter Try.func80, Try.ntmps80
  go_wp2_with fail
  refine bodyPost_ret (v := .agg #[.int .i64 1, .func (.func 100) #[] #[.pointer (some ⟨w.heap.size, 0, none⟩)]]) ?_ rfl ⟨w.heap.size, rfl, hb0.get (by simp), hb0.b⟩
  simp [results, Try.results80, go_sem]


set_option maxRecDepth 100000 in
theorem mk2_any (w : World) (p : Sp) (c : Cd) :
    Calls Try.prog 81 #[.agg #[.slice p.ka p.s.ks.length p.kc, .slice p.xa p.s.xs.length p.xc, .int .i64 p.s.flo, .int .i64 p.s.fhi, .int .i64 p.s.plo, .int .i64 p.s.phi, .int .i64 c.wax, .int .i64 c.dia, .int .i64 c.dra, .int .i64 c.clo, .int .i64 c.chi]] w fun e w' => ∃ P, e = .returned (.agg #[.int .i64 2, .func (.func 101) #[] #[.pointer (some ⟨P, 0, none⟩)]]) ∧ Blk w' P 93 #[.slice p.ka p.s.ks.length p.kc, .slice p.xa p.s.xs.length p.xc, .int .i64 p.s.flo, .int .i64 p.s.fhi, .int .i64 p.s.plo, .int .i64 p.s.phi, .int .i64 c.wax, .int .i64 c.dia, .int .i64 c.dra, .int .i64 c.clo, .int .i64 c.chi] ∧ Below w.heap.size w w' := by
  have hb0 := ((Bx.nil w).alloc #[.slice p.ka p.s.ks.length p.kc, .slice p.xa p.s.xs.length p.xc, .int .i64 p.s.flo, .int .i64 p.s.fhi, .int .i64 p.s.plo, .int .i64 p.s.phi, .int .i64 c.wax, .int .i64 c.dia, .int .i64 c.dra, .int .i64 c.clo, .int .i64 c.chi] 93).alloc #[.int .i64 2, .func (.func 101) #[] #[.pointer (some ⟨w.heap.size, 0, none⟩)]] 105
  simp only [World.size_alloc] at hb0
  go_enter Try.func81, Try.ntmps81
  go_wp2_with fail
  refine bodyPost_ret (v := .agg #[.int .i64 2, .func (.func 101) #[] #[.pointer (some ⟨w.heap.size, 0, none⟩)]]) ?_ rfl ⟨w.heap.size, rfl, hb0.get (by simp), hb0.b⟩
  simp [results, Try.results81, go_sem]


set_option maxRecDepth 100000 in
theorem mk3_any (w : World) (p : Sp) (c : Cd) :
    Calls Try.prog 82 #[.agg #[.slice p.ka p.s.ks.length p.kc, .slice p.xa p.s.xs.length p.xc, .int .i64 p.s.flo, .int .i64 p.s.fhi, .int .i64 p.s.plo, .int .i64 p.s.phi, .int .i64 c.wax, .int .i64 c.dia, .int .i64 c.dra, .int .i64 c.clo, .int .i64 c.chi]] w fun e w' => ∃ P, e = .returned (.agg #[.int .i64 3, .func (.func 102) #[] #[.pointer (some ⟨P, 0, none⟩)]]) ∧ Blk w' P 93 #[.slice p.ka p.s.ks.length p.kc, .slice p.xa p.s.xs.length p.xc, .int .i64 p.s.flo, .int .i64 p.s.fhi, .int .i64 p.s.plo, .int .i64 p.s.phi, .int .i64 c.wax, .int .i64 c.dia, .int .i64 c.dra, .int .i64 c.clo, .int .i64 c.chi] ∧ Below w.heap.size w w' := by
  have hb0 := ((Bx.nil w).alloc #[.slice p.ka p.s.ks.length p.kc, .slice p.xa p.s.xs.length p.xc, .int .i64 p.s.flo, .int .i64 p.s.fhi, .int .i64 p.s.plo, .int .i64 p.s.phi, .int .i64 c.wax, .int .i64 c.dia, .int .i64 c.dra, .int .i64 c.clo, .int .i64 c.chi] 93).alloc #[.int .i64 3, .func (.func 102) #[] #[.pointer (some ⟨w.heap.size, 0, none⟩)]] 105
  simp only [World.size_alloc] at hb0
  go_enter Try.func82, Try.ntmps82
  go_wp2_with fail
  refine bodyPost_ret (v := .agg #[.int .i64 3, .func (.func 102) #[] #[.pointer (some ⟨w.heap.size, 0, none⟩)]]) ?_ rfl ⟨w.heap.size, rfl, hb0.get (by simp), hb0.b⟩
  simp [results, Try.results82, go_sem]


set_option maxRecDepth 100000 in
theorem mk4_any (w : World) (p : Sp) (c : Cd) :
    Calls Try.prog 83 #[.agg #[.slice p.ka p.s.ks.length p.kc, .slice p.xa p.s.xs.length p.xc, .int .i64 p.s.flo, .int .i64 p.s.fhi, .int .i64 p.s.plo, .int .i64 p.s.phi, .int .i64 c.wax, .int .i64 c.dia, .int .i64 c.dra, .int .i64 c.clo, .int .i64 c.chi]] w fun e w' => ∃ P, e = .returned (.agg #[.int .i64 4, .func (.func 104) #[] #[.pointer (some ⟨P, 0, none⟩)]]) ∧ Blk w' P 93 #[.slice p.ka p.s.ks.length p.kc, .slice p.xa p.s.xs.length p.xc, .int .i64 p.s.flo, .int .i64 p.s.fhi, .int .i64 p.s.plo, .int .i64 p.s.phi, .int .i64 c.wax, .int .i64 c.dia, .int .i64 c.dra, .int .i64 c.clo, .int .i64 c.chi] ∧ Below w.heap.size w w' := by
  have hb0 := ((Bx.nil w).alloc #[.slice p.ka p.s.ks.length p.kc, .slice p.xa p.s.xs.length p.xc, .int .i64 p.s.flo, .int .i64 p.s.fhi, .int .i64 p.s.plo, .int .i64 p.s.phi, .int .i64 c.wax, .int .i64 c.dia, .int .i64 c.dra, .int .i64 c.clo, .int .i64 c.chi] 93).alloc #[.int .i64 4, .func (.func 104) #[] #[.pointer (some ⟨w.heap.size, 0, none⟩)]] 105
  simp only [World.size_alloc] at hb0
  go_enter Try.func83, Try.ntmps83
  go_wp2_with fail
  refine bodyPost_ret (v := .agg #[.int .i64 4, .func (.func 104) #[] #[.pointer (some ⟨w.heap.size, 0, none⟩)]]) ?_ rfl ⟨w.heap.size, rfl, hb0.get (by simp), hb0.b⟩
  simp [results, Try.results83, go_sem]


theorem iso_any {w : World} {p : Sp} {c : Cd} {P : Nat} {b : Bn} {d n : Int} (hn : n = 1 ∨ n = 2 ∨ n = 3 ∨ n = 4) (h : Blk w P 93 #[.slice p.ka p.s.ks.length p.kc, .slice p.xa p.s.xs.length p.xc, .int .i64 p.s.flo, .int .i64 p.s.fhi, .int .i64 p.s.plo, .int .i64 p.s.phi, .int .i64 c.wax, .int .i64 c.dia, .int .i64 c.dra, .int .i64 c.clo, .int .i64 c.chi]) (hs : ShOk p.s) (hd : 1 ≤ d ∧ d ≤ 2000) :
    Calls Try.prog (fF n) #[.agg #[.int .i64 b.rate, .int .i64 b.flame, .int .i64 b.pool], .int .i64 d, .pointer (some ⟨P, 0, none⟩)] w fun e w' => e = .returned (.bool (isF p.s n b d)) ∧ Below w.heap.size w w' := by
  rcases hn with rfl | rfl | rfl | rfl
  · exact is1_any h hs
  · exact is2_any h hs
  · exact is3_any h hs hd
  · exact is4_any h hs hd
theorem fF_enters {n : Int} (hn : n = 1 ∨ n = 2 ∨ n = 3 ∨ n = 4) : ∀ args w, (callFunc (fF n) args).run Try.prog w = .ok (.enter (fF n) args) w := by
  rcases hn with rfl | rfl | rfl | rfl
  · exact enters_of Try.func100 (by kernel_rfl) rfl
  · exact enters_of Try.func101 (by kernel_rfl) rfl
  · exact enters_of Try.func102 (by kernel_rfl) rfl
  · exact enters_of Try.func104 (by kernel_rfl) rfl
end Go.Proofs.Ytkjfommdeljefaa

namespace Go.Proofs.Ytkjfommdeljefaa
open Go.RowKit Go.Shelf Go.Maps
attribute [local go_sem] Oper.semAt_some


set_option maxRecDepth 100000 in
set_option maxHeartbeats 2000000 in
theorem can_any {w : World} {p : Sp} {c : Cd} {q : Int} {k : Wk} {x : Wx} {P : Nat} {n d : Int} (hn : n = 1 ∨ n = 2 ∨ n = 3 ∨ n = 4) (h : ShIn w p) (ha : Ask p.s q c k x) (hP : Blk w P 93 #[.slice p.ka p.s.ks.length p.kc, .slice p.xa p.s.xs.length p.xc, .int .i64 p.s.flo, .int .i64 p.s.fhi, .int .i64 p.s.plo, .int .i64 p.s.phi, .int .i64 c.wax, .int .i64 c.dia, .int .i64 c.dra, .int .i64 c.clo, .int .i64 c.chi]) (hd : 1 ≤ d ∧ d ≤ 2000) :
    Calls Try.prog 86 #[.agg #[.slice p.ka p.s.ks.length p.kc, .slice p.xa p.s.xs.length p.xc, .int .i64 p.s.flo, .int .i64 p.s.fhi, .int .i64 p.s.plo, .int .i64 p.s.phi, .int .i64 c.wax, .int .i64 c.dia, .int .i64 c.dra, .int .i64 c.clo, .int .i64 c.chi], .agg #[.int .i64 n, (.func (.func (fF n)) #[] #[.pointer (some ⟨P, 0, none⟩)])], .int .i64 q, .int .i64 d] w fun e w' => e = .returned (.bool (canF p.s n k x c d)) ∧ Below w.heap.size w w' := by
  have eg := fF_enters hn
  have hb0 := ((Bx.nil w).alloc #[.slice p.ka p.s.ks.length p.kc, .slice p.xa p.s.xs.length p.xc, .int .i64 p.s.flo, .int .i64 p.s.fhi, .int .i64 p.s.plo, .int .i64 p.s.phi, .int .i64 c.wax, .int .i64 c.dia, .int .i64 c.dra, .int .i64 c.clo, .int .i64 c.chi] 93).alloc #[.int .i64 n, (.func (.func (fF n)) #[] #[.pointer (some ⟨P, 0, none⟩)])] 105
  simp only [World.size_alloc] at hb0
  have HB : Hid (Bx w _ _) := Lib.hid hb0
  have HU := Lib.hid (burns_any (h.on HB.out.b) ha.h0 ha.hk ha.hx ha.ko ha.xo ha.cd)
  have HI := Lib.hid (fun (b : Bn) (W : World) (hb : Below w.heap.size w W) => iso_any (b := b) (d := d) hn (hP.on hb) ha.sh hd)
  have HE : Hid (canF p.s n k x c d = (isF p.s n (burn x (weakT k x c)) d || isF p.s n (burn x (strongT k x c)) d)) := rfl
  have HI1 := Lib.hid (fun (W : World) (hb : Below w.heap.size w W) => HI.out (burn x (weakT k x c)) W hb)
  have HI2 := Lib.hid (fun (W : World) (hb : Below w.heap.size w W) => HI.out (burn x (strongT k x c)) W hb)
  clear h hb0 ha hn hP HI
  generalize isF p.s n (burn x (weakT k x c)) d = z1 at *
  generalize isF p.s n (burn x (strongT k x c)) d = z2 at *
  generalize burn x (weakT k x c) = b1 at *
  generalize burn x (strongT k x c) = b2 at *
  generalize fF n = fn at *
  cases z1 with
  | true =>
    go_enter Try.func86, Try.ntmps86
    go_wp2_with (first
      | (go_at_call 55; refine HU.out.mono ?_; rintro e w1 ⟨rfl, hb⟩; have HC := Lib.hid (HB.out.on hb); clear hb; have rb : Blk _ (w.heap.size + 1) 105 #[.int .i64 n, .func (.func fn) #[] #[.pointer (some ⟨P, 0, none⟩)]] := HC.out.get (by simp); have r0 := rb.cell 0; have r1 := rb.cell 1; have rl := rb.lt; clear rb; have rn1 : ¬ (w.heap.size + 1 = w1.heap.size) := (by omega); have rn2 : ¬ (w.heap.size = w1.heap.size) := (by omega); have rn3 : w.heap.size + 1 < w1.heap.size + 1 := (by omega); have HD := Lib.hid ((HC.out.alloc_ #[.int .i64 b1.rate, .int .i64 b1.flame, .int .i64 b1.pool] 40).alloc_ #[.int .i64 b2.rate, .int .i64 b2.flame, .int .i64 b2.pool] 40))
      | ((with_reducible refine (HI1.out _ HD.out.b).mono ?_); rintro e w2 ⟨rfl, hb⟩; have HF := Lib.hid (HD.out.on hb); clear hb)
      | fail)
    go_ret
    exact ⟨ret_bool (by rw [HE.out]; rfl), HF.out.b⟩
  | false =>
    go_enter Try.func86, Try.ntmps86
    go_wp2_with (first
      | (go_at_call 55; refine HU.out.mono ?_; rintro e w1 ⟨rfl, hb⟩; have HC := Lib.hid (HB.out.on hb); clear hb; have rb : Blk _ (w.heap.size + 1) 105 #[.int .i64 n, .func (.func fn) #[] #[.pointer (some ⟨P, 0, none⟩)]] := HC.out.get (by simp); have r0 := rb.cell 0; have r1 := rb.cell 1; have rl := rb.lt; clear rb; have rn1 : ¬ (w.heap.size + 1 = w1.heap.size) := (by omega); have rn2 : ¬ (w.heap.size = w1.heap.size) := (by omega); have rn3 : w.heap.size + 1 < w1.heap.size + 1 := (by omega); have HD := Lib.hid ((HC.out.alloc_ #[.int .i64 b1.rate, .int .i64 b1.flame, .int .i64 b1.pool] 40).alloc_ #[.int .i64 b2.rate, .int .i64 b2.flame, .int .i64 b2.pool] 40); have hd0 := (HC.out.alloc #[.int .i64 b1.rate, .int .i64 b1.flame, .int .i64 b1.pool] 40).alloc #[.int .i64 b2.rate, .int .i64 b2.flame, .int .i64 b2.pool] 40; simp only [World.size_alloc] at hd0; have HG := Lib.hid hd0; clear hd0)
      | ((with_reducible refine (HI1.out _ HD.out.b).mono ?_); rintro e w2 ⟨rfl, hb⟩; have HF := Lib.hid (HD.out.on hb); have HH := Lib.hid (HG.out.on hb); clear hb r0 r1 rl; have rb : Blk _ (w.heap.size + 1) 105 #[.int .i64 n, .func (.func fn) #[] #[.pointer (some ⟨P, 0, none⟩)]] := HH.out.get (by simp); have r0 := rb.cell 0; have r1 := rb.cell 1; have rl := rb.lt; clear rb; have yb : Blk _ (w1.heap.size + 1) 40 #[.int .i64 b2.rate, .int .i64 b2.flame, .int .i64 b2.pool] := HH.out.get (by simp); have y0 := yb.cell 0; have y1 := yb.cell 1; have y2 := yb.cell 2; have yl := yb.lt; clear yb)
      | ((with_reducible refine (HI2.out _ HF.out.b).mono ?_); rintro e w3 ⟨rfl, hb⟩; have HK := Lib.hid (HF.out.on hb); clear hb)
      | fail)
    go_ret
    exact ⟨ret_bool (by rw [HE.out]; rfl), HK.out.b⟩
end Go.Proofs.Ytkjfommdeljefaa

namespace Go.Proofs.Ytkjfommdeljefaa
open Go.RowKit Go.Shelf Go.Maps
attribute [local go_sem] Oper.semAt_some


set_option maxRecDepth 100000 in
set_option maxHeartbeats 2000000 in
theorem found1_any {w : World} {p : Sp} {c : Cd} {q : Int} {k : Wk} {x : Wx} {V I P : Nat} {n : Int} (hn : n = 1 ∨ n = 2 ∨ n = 3 ∨ n = 4) (h : ShIn w p) (ha : Ask p.s q c k x) (hV : Blk w V 93 #[.slice p.ka p.s.ks.length p.kc, .slice p.xa p.s.xs.length p.xc, .int .i64 p.s.flo, .int .i64 p.s.fhi, .int .i64 p.s.plo, .int .i64 p.s.phi, .int .i64 c.wax, .int .i64 c.dia, .int .i64 c.dra, .int .i64 c.clo, .int .i64 c.chi]) (hI : Blk w I 3 #[.int .i64 q]) (hP : Blk w P 93 #[.slice p.ka p.s.ks.length p.kc, .slice p.xa p.s.xs.length p.xc, .int .i64 p.s.flo, .int .i64 p.s.fhi, .int .i64 p.s.plo, .int .i64 p.s.phi, .int .i64 c.wax, .int .i64 c.dia, .int .i64 c.dra, .int .i64 c.clo, .int .i64 c.chi]) :
    Calls Try.prog 85 #[.agg #[.int .i64 n, (.func (.func (fF n)) #[] #[.pointer (some ⟨P, 0, none⟩)])], .pointer (some ⟨V, 0, none⟩), .pointer (some ⟨I, 0, none⟩)] w fun e w' => e = .returned (.bool (!canF p.s n k x c c.dia)) ∧ Below w.heap.size w w' := by
  have HB := Lib.hid ((Below.refl _ w).alloc (Nat.le_refl _) (.cells #[.int .i64 n, (.func (.func (fF n)) #[] #[.pointer (some ⟨P, 0, none⟩)])] 105))
  have HC := Lib.hid (can_any hn (h.on HB.out) ha (hP.on HB.out) ha.cd.dia)
  have v0 := hV.cell 0; have v1 := hV.cell 1; have v2 := hV.cell 2; have v3 := hV.cell 3; have v4 := hV.cell 4; have v5 := hV.cell 5; have v6 := hV.cell 6; have v7 := hV.cell 7; have v8 := hV.cell 8; have v9 := hV.cell 9; have v10 := hV.cell 10
  have hl := hV.lt
  have i0 := hI.cell 0
  have il := hI.lt
  clear h ha hn hV hI hP
  generalize canF p.s n k x c c.dia = z at *
  generalize fF n = fn at *
  go_enter Try.func85, Try.ntmps85
  go_wp2_with (refine HC.out.mono ?_; rintro e w1 ⟨rfl, hb⟩; have HD := Lib.hid (HB.out.trans (hb.mono HB.out.size)); clear hb)
  go_ret
  exact ⟨rfl, HD.out⟩
/-- The cells of some faults. -/
def fvx (x : Int × Nat) : Value := .func (.func (fF x.1)) #[] #[.pointer (some ⟨x.2, 0, none⟩)]
def flist (l : List (Int × Nat)) : List Value := l.flatMap fun x => [.int .i64 x.1, fvx x]
def encF (x : Int × Nat) (j : Nat) : Value := if j = 0 then .int .i64 x.1 else fvx x
theorem flist_at {l : List (Int × Nat)} {i : Nat} {x : Int × Nat} (h : l[i]? = some x) : (flist l)[i * 2]? = some (.int .i64 x.1) ∧ (flist l)[i * 2 + 1]? = some (fvx x) := flat_two _ _ l i x h
theorem Blk.flt {W : World} {b : Nat} {l : List (Int × Nat)} (h : Blk W b 105 (flist l).toArray) {i : Nat} {x : Int × Nat} (hx : l[i]? = some x) : W.cell? ⟨b, i * 2, none⟩ = some (.int .i64 x.1) ∧ W.cell? ⟨b, i * 2 + 1, none⟩ = some (fvx x) := by
  obtain ⟨h1, h2⟩ := flist_at hx
  exact ⟨by rw [h.cell]; simpa using h1, by rw [h.cell]; simpa using h2⟩
theorem flist_set (l : List (Int × Nat)) (x : Int × Nat) : ∀ i, (((flist l).set (i * 2) (.int .i64 x.1)).set (i * 2 + 1) (fvx x)) = flist (l.set i x) := by
  induction l with
  | nil => intro i; simp [flist]
  | cons y l ih =>
    intro i
    cases i with
    | zero => simp [flist]
    | succ i =>
      have := ih i
      simp only [flist, List.flatMap_cons, List.set_cons_succ, List.cons_append, List.nil_append] at this ⊢
      rw [show (i + 1) * 2 = (i * 2 + 1) + 1 by omega, show i * 2 + 1 + 1 + 1 = (i * 2 + 1 + 1) + 1 by omega]
      simp only [List.set_cons_succ]
      rw [this]
theorem Blk.put2 {W : World} {b : Nat} {l : List (Int × Nat)} (h : Blk W b 105 (flist l).toArray) (i : Nat) (x : Int × Nat) : Blk ((W.setCell ⟨b, i * 2, none⟩ (.int .i64 x.1)).setCell ⟨b, i * 2 + 1, none⟩ (fvx x)) b 105 (flist (l.set i x)).toArray := by
  have := (h.set_ (i * 2) (.int .i64 x.1)).set_ (i * 2 + 1) (fvx x)
  rw [List.setIfInBounds_toArray, List.setIfInBounds_toArray, flist_set] at this
  exact this
theorem grown_cells (b : Nat) : ∀ (vs : List Value) (o : Nat) (W : World), W.grownBy (W.setCells b o vs) (some b)
  | [], _, W => World.grownBy.refl W _
  | v :: r, o, W => grown_then (grown_one W b o v) (grown_cells b r (o + 1) _)
/-- 'clear' at a slice whose elements have two cells. -/
theorem run_clear2 {P : Program} (w : World) (t e : TypeId) (z0 z1 : Value) (ht : P.underlying t = some (.slice e)) (hv : ∀ w, (zeroValue e).run P w = .ok (.agg #[z0, z1]) w) (h0 : z0.oneCell' = true) (h1 : z1.oneCell' = true) (b o n c : Nat) (hn : 0 < n)
    (hc : ∀ j, j < n * 2 → (w.cell? ⟨b, o + j, none⟩).isSome = true) (hf : ∀ j, j < n * 2 → w.frozen? ⟨b, o + j, none⟩ = false) :
    ∃ vs, ∀ ty, (Builtin.clear_ #[t] ty #[.slice (some ⟨b, o, none⟩) n c]).run P w = .ok (.tuple #[]) (w.setCells b o vs) := by
  have hsz : (Builtin.zeroCells (Value.agg #[z0, z1]).cells n).toList.length = n * 2 := by simp [Builtin.zeroCells, Value.cells]
  have hone : ∀ v ∈ (Builtin.zeroCells (Value.agg #[z0, z1]).cells n).toList, v.oneCell' = true := by
    intro v hv
    simp only [Builtin.zeroCells, Value.cells, Array.toList_map, Array.toList_range, List.mem_map, List.mem_range] at hv
    obtain ⟨i, -, rfl⟩ := hv
    rcases (by simp; omega : i % (#[z0, z1] : Array Value).size = 0 ∨ i % (#[z0, z1] : Array Value).size = 1) with h | h <;> rw [h] <;> simpa
  have hst := run_storeCells_cells (P := P) b o (Builtin.zeroCells (Value.agg #[z0, z1]).cells n).toList 0 w (by rw [hsz]; simpa using hc) (by rw [hsz]; simpa using hf) hone
  simp only [Nat.add_zero] at hst
  obtain ⟨m, rfl⟩ : ∃ m, n = m + 1 := ⟨n - 1, by omega⟩
  obtain ⟨L, hL⟩ : ∃ L, (Builtin.zeroCells (Value.agg #[z0, z1]).cells (m + 1)).toList = L := ⟨_, rfl⟩
  rw [hL] at hst
  exact ⟨L, fun ty => by simp [Builtin.clear_, run_underlying ht, hv, hL, hst]⟩
end Go.Proofs.Ytkjfommdeljefaa

namespace Go.Proofs.Ytkjfommdeljefaa
open Go.RowKit Go.Shelf Go.Maps
attribute [local go_sem] Oper.semAt_some


/-- What is known of memory while faults are struck out of a row in block b, and what the predicate says there. -/
structure Prd (b : Nat) (Kp : World → Prop) (l : List (Int × Nat)) (pr : Int → Bool) (V I : Nat) : Prop where
  on : ∀ W W', Kp W → Below W.heap.size W W' → Kp W'
  put : ∀ W W', Kp W → W.grownBy W' (some b) → Kp W'
  ok : ∀ x ∈ l, ∀ W, Kp W → Calls Try.prog 85 #[.agg #[.int .i64 x.1, fvx x], .pointer (some ⟨V, 0, none⟩), .pointer (some ⟨I, 0, none⟩)] W fun e w' => e = .returned (.bool (pr x.1)) ∧ Below W.heap.size W w'
theorem fvx_fn {fn : Value} {x : Int × Nat} (h : fvx x = fn) : fvx x = fn := h
set_option maxRecDepth 100000 in
set_option maxHeartbeats 1000000 in
theorem idxF_any {w : World} {b c V I : Nat} {l : List (Int × Nat)} {pr : Int → Bool} {Kp : World → Prop} (hK : Prd b Kp l pr V I) (hk : Kp w) (hb : Blk w b 105 (flist l).toArray) (hl : l.length ≤ 4) :
    Calls Try.prog 105 #[.slice (some ⟨b, 0, none⟩) l.length c, .func (.func 85) #[] #[.pointer (some ⟨V, 0, none⟩), .pointer (some ⟨I, 0, none⟩)]] w fun e w' => e = .returned (.int .i64 (idxL (fun x => pr x.1) l 0)) ∧ Below w.heap.size w w' := by
  have HK := Lib.hid hK
  have HB := Lib.hid hb
  have HP := Lib.hid hk
  have eg : ∀ args w, (callFunc 85 args).run Try.prog w = .ok (.enter 85 args) w := enters_of Try.func85 (by kernel_rfl) rfl
  clear hK hk hb
  go_enter Try.func105, Try.ntmps105
  go_wp2_with fail
  go_loopw [8] (fun i W => ∃ k : Nat, k ≤ l.length ∧ i = .int .i64 k ∧ Hid (idxL (fun x => pr x.1) (l.drop k) k = idxL (fun x => pr x.1) l 0) ∧ Hid (Below w.heap.size w W)) (fun i _ => l.length - (intOf i).toNat)
  case atStart => exact ⟨0, by omega, rfl, rfl, Below.refl _ _⟩
  case round =>
    obtain ⟨k, hk, rfl, HR, HW⟩ := hrel
    by_cases hlt : k < l.length
    · obtain ⟨x, hx⟩ : ∃ x, l[k]? = some x := ⟨l[k], List.getElem?_eq_getElem hlt⟩
      obtain ⟨c0, c1⟩ := (HB.out.on HW.out).flt hx
      have hd : l.drop k = x :: l.drop (k + 1) := drop_at hx
      have HD := Lib.hid (show idxL (fun x => pr x.1) l 0 = if pr x.1 = true then (k : Int) else idxL (fun x => pr x.1) (l.drop (k + 1)) ((k : Int) + 1) by rw [← HR.out, hd, idxL])
      have HC1 := Lib.hid (HK.out.ok x (List.mem_of_getElem? hx) wr (HK.out.on _ _ HP.out HW.out))
      clear hx hd HR
      generalize fvx x = fn at *
      generalize pr x.1 = z at *
      cases z with
      | true =>
        have H := Lib.hid (show idxL (fun x => pr x.1) l 0 = k by rw [HD.out, if_pos rfl])
        clear HD
        go_wp2_with (first | (refine HC1.out.mono ?_; rintro e w1 ⟨rfl, hb⟩; have HB1 := Lib.hid (HW.out.trans (hb.mono HW.out.size)); clear hb) | fail)
        go_ret
        exact ⟨ret_i64 H.out.symm, HB1.out⟩
      | false =>
        have H := Lib.hid (show idxL (fun x => pr x.1) (l.drop (k + 1)) ((k + 1 : Nat) : Int) = idxL (fun x => pr x.1) l 0 by rw [HD.out, if_neg (by simp)]; rfl)
        clear HD
        go_wp2_with (first | (refine HC1.out.mono ?_; rintro e w1 ⟨rfl, hb⟩; have HB1 := Lib.hid (HW.out.trans (hb.mono HW.out.size)); clear hb) | fail)
        go_roundw
        case rel => exact ⟨k + 1, Nat.succ_le_of_lt hlt, by go_num, H, HB1⟩
        case measure => exact meas_one hlt
    · have H := Lib.hid (show idxL (fun x => pr x.1) l 0 = -1 by rw [← HR.out, List.drop_eq_nil_of_le (by omega)]; rfl)
      clear HR
      go_wp2_with fail
      go_ret
      exact ⟨ret_i64 H.out.symm, HW.out⟩
/-- What is left of the faults. -/
def keptF (pr : Int → Bool) (l : List (Int × Nat)) : List (Int × Nat) := l.filter fun x => !pr x.1
theorem idxL_spec {α : Type} (p : α → Bool) : ∀ (l : List α) (k : Int), 0 ≤ k → (idxL p l k = -1 ∧ ∀ x ∈ l, p x = false) ∨ ∃ i : Nat, i < l.length ∧ idxL p l k = k + i ∧ (∀ x, l[i]? = some x → p x = true) ∧ ∀ x ∈ l.take i, p x = false
  | [], k, _ => .inl ⟨rfl, fun x h => by cases h⟩
  | y :: l, k, hk => by
    cases hp : p y with
    | true => exact .inr ⟨0, by simp, by simp [idxL, hp], fun x h => by simp at h; rw [← h]; exact hp, fun x h => by simp at h⟩
    | false =>
      have e : idxL p (y :: l) k = idxL p l (k + 1) := by rw [idxL, hp]; simp
      rcases idxL_spec p l (k + 1) (by omega) with ⟨h1, h2⟩ | ⟨i, h1, h2, h3, h4⟩
      · refine .inl ⟨e.trans h1, fun x hx => ?_⟩
        rcases List.mem_cons.1 hx with rfl | hx
        · exact hp
        · exact h2 x hx
      · refine .inr ⟨i + 1, by simpa using h1, by rw [e, h2]; omega, fun x hx => h3 x (by simpa using hx), fun x hx => ?_⟩
        rw [List.take_succ_cons] at hx
        rcases List.mem_cons.1 hx with rfl | hx
        · exact hp
        · exact h4 x hx
/-- Between two rounds of DeleteFunc. -/
structure DelAt (pr : Int → Bool) (l r : List (Int × Nat)) (i j : Nat) : Prop where
  lt : i < j
  le : j ≤ l.length
  len : r.length = l.length
  low : r.take i = keptF pr (l.take j)
  high : r.drop j = l.drop j
theorem DelAt.skip {pr : Int → Bool} {l r : List (Int × Nat)} {i j : Nat} {x : Int × Nat} (h : DelAt pr l r i j) (hx : l[j]? = some x) (hp : pr x.1 = true) : DelAt pr l r i (j + 1) := by
  have hj := (List.getElem?_eq_some_iff.1 hx).1
  refine ⟨by have := h.lt; omega, hj, h.len, ?_, ?_⟩
  · rw [h.low, List.take_add_one, hx]
    simp [keptF, hp]
  · rw [← List.drop_drop, ← List.drop_drop, h.high]
theorem DelAt.keep {pr : Int → Bool} {l r : List (Int × Nat)} {i j : Nat} {x : Int × Nat} (h : DelAt pr l r i j) (hx : l[j]? = some x) (hp : pr x.1 = false) : DelAt pr l (r.set i x) (i + 1) (j + 1) := by
  have hj := (List.getElem?_eq_some_iff.1 hx).1
  have hlt := h.lt
  have hlen := h.len
  refine ⟨by omega, hj, by simpa using h.len, ?_, ?_⟩
  · have e1 : (r.set i x).take (i + 1) = r.take i ++ [x] := by
      rw [List.take_add_one, List.getElem?_set_self (by omega), List.take_set_of_le (Nat.le_refl _)]; rfl
    rw [e1, h.low, List.take_add_one, hx]
    simp [keptF, hp]
  · rw [List.drop_set_of_lt (by omega), ← List.drop_drop, ← List.drop_drop, h.high]
theorem DelAt.row {pr : Int → Bool} {l r : List (Int × Nat)} {i j : Nat} {x : Int × Nat} (h : DelAt pr l r i j) (hx : l[j]? = some x) : r[j]? = some x := by
  have h1 : (r.drop j)[0]? = (l.drop j)[0]? := by rw [h.high]
  rw [List.getElem?_drop, List.getElem?_drop, Nat.add_zero, hx] at h1
  exact h1
theorem DelAt.start {pr : Int → Bool} {l : List (Int × Nat)} {i : Nat} (hi : i < l.length) (h1 : ∀ x, l[i]? = some x → pr x.1 = true) (h2 : ∀ x ∈ l.take i, pr x.1 = false) : DelAt pr l l i (i + 1) := by
  refine ⟨by omega, hi, rfl, ?_, rfl⟩
  rw [List.take_add_one, List.getElem?_eq_getElem hi]
  have := h1 _ (List.getElem?_eq_getElem hi)
  unfold keptF
  rw [List.filter_append, List.filter_eq_self.2 (fun x hx => by rw [h2 x hx]; rfl)]
  simp [this]
/-- What DeleteFunc leaves. -/
def DelOut (b : Nat) (Kp : World → Prop) (l : List (Int × Nat)) (pr : Int → Bool) (e : Ending) (w' : World) : Prop :=
  e = .returned (.slice (some ⟨b, 0, none⟩) (keptF pr l).length l.length) ∧ Kp w' ∧ b < w'.heap.size ∧ ∀ i x, (keptF pr l)[i]? = some x → w'.cell? ⟨b, i * 2, none⟩ = some (.int .i64 x.1) ∧ w'.cell? ⟨b, i * 2 + 1, none⟩ = some (fvx x)
theorem del_end {b i : Nat} {Kp : World → Prop} {l r : List (Int × Nat)} {pr : Int → Bool} {V I : Nat} {W : World} (hK : Prd b Kp l pr V I) (hk : Kp W) (hB : Blk W b 105 (flist r).toArray) (h : DelAt pr l r i l.length) (vs : List Value) :
    DelOut b Kp l pr (.returned (.slice (some ⟨b, 0, none⟩) i l.length)) (W.setCells b (i * 2) vs) := by
  have e1 : r.take i = keptF pr l := by rw [h.low, List.take_length]
  have e2 : (keptF pr l).length = i := by rw [← e1, List.length_take]; have := h.lt; have := h.len; omega
  refine ⟨by rw [e2], hK.put _ _ hk (grown_cells b vs _ W), ?_, fun m x hm => ?_⟩
  · exact Nat.lt_of_lt_of_le hB.lt (grown_cells b vs (i * 2) W).size
  · have hmi : m < i := by rw [← e2]; exact (List.getElem?_eq_some_iff.1 hm).1
    rw [← e1, List.getElem?_take_of_lt hmi] at hm
    obtain ⟨a1, a2⟩ := hB.flt hm
    exact ⟨(World.cell?_setCells_out b vs _ W _ (fun _ _ => .inl (by show m * 2 < i * 2; omega))).trans a1, (World.cell?_setCells_out b vs _ W _ (fun _ _ => .inl (by show m * 2 + 1 < i * 2; omega))).trans a2⟩
theorem zero_ft : ∀ w, (zeroValue 105).run Try.prog w = .ok (.agg #[.int .i64 0, .nilFunc]) w := fun w => by kernel_rfl
theorem und_fts : Try.prog.underlying 101 = some (.slice 105) := by kernel_rfl
theorem flist_len (l : List (Int × Nat)) : (flist l).length = l.length * 2 := by induction l with
  | nil => rfl
  | cons y l ih => simp only [flist, List.flatMap_cons, List.length_append, List.length_cons, List.length_nil] at ih ⊢; omega
end Go.Proofs.Ytkjfommdeljefaa

namespace Go.Proofs.Ytkjfommdeljefaa
open Go.RowKit Go.Shelf Go.Maps
attribute [local go_sem] Oper.semAt_some


set_option maxRecDepth 100000 in
set_option maxHeartbeats 4000000 in
theorem del_any {w : World} {b V I : Nat} {l : List (Int × Nat)} {pr : Int → Bool} {Kp : World → Prop} (hK : Prd b Kp l pr V I) (hk : Kp w) (hb : Blk w b 105 (flist l).toArray) (hl : l.length ≤ 4) :
    Calls Try.prog 84 #[.slice (some ⟨b, 0, none⟩) l.length l.length, .func (.func 85) #[] #[.pointer (some ⟨V, 0, none⟩), .pointer (some ⟨I, 0, none⟩)]] w (DelOut b Kp l pr) := by
  have HK := Lib.hid hK
  have HB := Lib.hid hb
  have HP := Lib.hid hk
  have HI := Lib.hid (idxF_any (c := l.length) hK hk hb hl)
  have eg : ∀ args w, (callFunc 85 args).run Try.prog w = .ok (.enter 85 args) w := enters_of Try.func85 (by kernel_rfl) rfl
  rcases idxL_spec (fun x : Int × Nat => pr x.1) l 0 (Int.le_refl _) with ⟨e1, hall⟩ | ⟨i, hi, e1, h1, h2⟩
  · rw [e1] at HI
    have HE : Hid (keptF pr l = l) := by
      show _ = _
      unfold keptF
      exact List.filter_eq_self.2 (fun x hx => by rw [hall x hx]; rfl)
    clear hK hk hb e1 hall
    go_enter Try.func84, Try.ntmps84
    go_wp2_with (refine HI.out.mono ?_; rintro e w1 ⟨rfl, hb⟩; have HF : Hid (DelOut b Kp l pr (.returned (.slice (some ⟨b, 0, none⟩) l.length l.length)) w1) := ⟨by rw [HE.out], HK.out.on _ _ HP.out hb, (HB.out.on hb).lt, fun i x hx => (HB.out.on hb).flt (by rw [HE.out] at hx; exact hx)⟩; clear hb)
    go_ret
    exact HF.out
  · rw [e1] at HI
    have HD0 : Hid (DelAt pr l l i (i + 1)) := DelAt.start hi h1 h2
    have hne : (((i : Nat) : Int) == -1) = false := by simp
    clear hK hk hb e1 h1 h2
    simp only [Int.zero_add] at HI
    go_enter Try.func84, Try.ntmps84
    go_wp2_with (refine HI.out.mono ?_; rintro e w1 ⟨rfl, hb⟩; have HP1 := Lib.hid (HK.out.on _ _ HP.out hb); have HB1 := Lib.hid (HB.out.on hb); clear hb)
    go_loopw [5, 6] (fun s5 s6 W => ∃ (ii jj : Nat) (r : List (Int × Nat)), s5 = .int .i64 ii ∧ s6 = .int .i64 jj ∧ jj ≤ l.length ∧ Hid (DelAt pr l r ii jj) ∧ Hid (Blk W b 105 (flist r).toArray) ∧ Hid (Kp W)) (fun _ s6 _ => l.length - (intOf s6).toNat)
    case atStart => exact ⟨i, i + 1, l, rfl, by simp, hi, HD0, HB1, HP1⟩
    case round =>
      obtain ⟨ii, jj, r, rfl, rfl, hjl, HD, HBr, HPr⟩ := hrel
      have hij := HD.out.lt
      have hrl := HD.out.len
      by_cases hlt : jj < l.length
      · obtain ⟨x, hx⟩ : ∃ x, l[jj]? = some x := ⟨l[jj], List.getElem?_eq_getElem hlt⟩
        obtain ⟨c0, c1⟩ := HBr.out.flt (HD.out.row hx)
        obtain ⟨y, hy⟩ : ∃ y, r[ii]? = some y := ⟨r[ii]'(by omega), List.getElem?_eq_getElem _⟩
        have hB2 : Blk (wr.alloc (.cells #[.int .i64 x.1, fvx x] 105)) b 105 (flist r).toArray := HBr.out.alloc _
        have HPa := Lib.hid (HK.out.on _ _ HPr.out ((Below.refl _ wr).alloc (Nat.le_refl _) (.cells #[.int .i64 x.1, fvx x] 105)))
        have HC := Lib.hid (HK.out.ok x (List.mem_of_getElem? hx) _ HPa.out)
        have HX := Lib.hid hx
        have HBa := Lib.hid hB2
        have HS : Hid (∀ W : World, Blk W b 105 (flist r).toArray → (W.cell? ⟨b, ii * 2, none⟩ = some (.int .i64 y.1) ∧ W.cell? ⟨b, ii * 2 + 1, none⟩ = some (fvx y)) ∧ (W.frozen? ⟨b, ii * 2, none⟩ = false ∧ W.frozen? ⟨b, ii * 2 + 1, none⟩ = false)) := fun W h => ⟨h.flt hy, h.frozen _, h.frozen _⟩
        have hbl := HBr.out.lt
        have hii : (ii : Int) < l.length := by omega
        clear hx hB2 hy HD0
        cases hp : pr x.1 with
        | true =>
          rw [hp] at HC
          have HD2 : Hid (DelAt pr l r ii (jj + 1)) := HD.out.skip HX.out hp
          clear hp
          unfold fvx at c1 HC HPa HBa
          go_wp2_with (first | (refine HC.out.mono ?_; rintro e w2 ⟨rfl, hb⟩; have HB3 := Lib.hid (HBa.out.on hb); have HP3 := Lib.hid (HK.out.on _ _ HPa.out hb); clear hb) | fail)
          go_roundw
          case rel => exact ⟨ii, jj + 1, r, rfl, by go_num, hlt, HD2, HB3, HP3⟩
          case measure => exact meas_one hlt
        | false =>
          rw [hp] at HC
          have HD2 : Hid (DelAt pr l (r.set ii x) (ii + 1) (jj + 1)) := HD.out.keep HX.out hp
          have HPU : Hid (∀ W : World, Kp W → Blk W b 105 (flist r).toArray → Kp ((W.setCell ⟨b, ii * 2, none⟩ (.int .i64 x.1)).setCell ⟨b, ii * 2 + 1, none⟩ (fvx x)) ∧ Blk ((W.setCell ⟨b, ii * 2, none⟩ (.int .i64 x.1)).setCell ⟨b, ii * 2 + 1, none⟩ (fvx x)) b 105 (flist (r.set ii x)).toArray) := fun W h1 h2 => ⟨HK.out.put _ _ h1 (grown_more (grown_one W b _ _) _ _), h2.put2 ii x⟩
          clear hp
          unfold fvx at c1 HC HPa HBa HPU
          go_wp2_with (first | (refine HC.out.mono ?_; rintro e w2 ⟨rfl, hb⟩; have HB3 := Lib.hid (HBa.out.on hb); have HP3 := Lib.hid (HK.out.on _ _ HPa.out hb); have hvb := (Blk.new wr 105 #[.int .i64 x.1, .func (.func (fF x.1)) #[] #[.pointer (some ⟨x.2, 0, none⟩)]]).on hb; have v0 := hvb.cell 0; have v1 := hvb.cell 1; have vl := hvb.lt; obtain ⟨⟨y0, y1⟩, y2, y3⟩ := HS.out w2 HB3.out; have yl := HB3.out.lt; clear hb hvb) | fail)
          go_roundw
          case rel =>
            obtain ⟨z1, z2⟩ := HPU.out w2 HP3.out HB3.out
            exact ⟨ii + 1, jj + 1, r.set ii x, by go_num, by go_num, hlt, HD2, z2, z1⟩
          case measure => exact meas_one hlt
      · obtain rfl : jj = l.length := by omega
        have HCL := Lib.hid (run_clear2 (P := Try.prog) wr 101 105 (.int .i64 0) .nilFunc und_fts zero_ft rfl rfl b (ii * 2) (l.length - ii) (l.length - ii) (by omega) (fun j hj => by
          rw [HBr.out.cell]
          have h3 : ii * 2 + j < (flist r).toArray.size := by rw [List.size_toArray, flist_len]; omega
          rw [Array.getElem?_eq_getElem h3]; rfl) (fun j hj => HBr.out.frozen _))
        have HFin := Lib.hid (fun vs => del_end HK.out HPr.out HBr.out HD.out vs)
        have hii : ii ≤ l.length := by omega
        have hbl := HBr.out.lt
        clear HD0
        obtain ⟨vs, hcl⟩ := HCL.out
        go_wp2_with fail
        go_ret
        exact HFin.out vs
end Go.Proofs.Ytkjfommdeljefaa
