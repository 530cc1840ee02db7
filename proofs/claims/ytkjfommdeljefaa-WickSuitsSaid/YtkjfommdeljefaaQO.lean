/- wick.sizes: its closures, its region that draws. -/
import Derived.Test.YtkjfommdeljefaaQN
namespace Go.Proofs.Ytkjfommdeljefaa
open Go.RowKit Go.Shelf Go.Maps
attribute [local go_sem] Oper.semAt_some

/-- What each operation leaves. -/
def sz1R (p : Sp) (c : Cd) (q d : Int) (z : Bool) : Nat → Value → World → Prop
  | 0, v, _ => v = .agg #[.slice p.ka p.s.ks.length p.kc, .slice p.xa p.s.xs.length p.xc, .int .i64 p.s.flo, .int .i64 p.s.fhi, .int .i64 p.s.plo, .int .i64 p.s.phi, .int .i64 c.wax, .int .i64 c.dia, .int .i64 c.dra, .int .i64 c.clo, .int .i64 c.chi]
  | 1, v, _ => v = .agg #[.slice p.ka p.s.ks.length p.kc, .slice p.xa p.s.xs.length p.xc, .int .i64 p.s.flo, .int .i64 p.s.fhi, .int .i64 p.s.plo, .int .i64 p.s.phi, .int .i64 c.wax, .int .i64 c.dia, .int .i64 c.dra, .int .i64 c.clo, .int .i64 c.chi]
  | 2, v, W => ∃ Q_2, v = .agg #[.int .i64 4, .func (.func 104) #[] #[.pointer (some ⟨Q_2, 0, none⟩)]] ∧ Blk W Q_2 93 #[.slice p.ka p.s.ks.length p.kc, .slice p.xa p.s.xs.length p.xc, .int .i64 p.s.flo, .int .i64 p.s.fhi, .int .i64 p.s.plo, .int .i64 p.s.phi, .int .i64 c.wax, .int .i64 c.dia, .int .i64 c.dra, .int .i64 c.clo, .int .i64 c.chi]
  | 3, v, _ => v = .int .i64 q
  | 4, v, _ => v = .int .i64 d
  | 5, v, _ => v = .bool z
  | 6, v, _ => v = .bool (!z)
  | 7, v, _ => v = .bool (!z)
  | _, _, _ => True
theorem sz1R_on (p : Sp) (c : Cd) (q d : Int) (z : Bool) : ∀ i, i < 8 → ∀ v W W', sz1R p c q d z i v W → Below W.heap.size W W' → sz1R p c q d z i v W' := by
  iterate 8 (refine all_succ ?_ ?_)
  · exact all_zero
  · exact fun _ _ _ h _ => h
  · exact fun _ _ _ h _ => h
  · rintro v W W' ⟨Q_2, e, h0⟩ hb; exact ⟨Q_2, e, h0.on hb⟩
  · exact fun _ _ _ h _ => h
  · exact fun _ _ _ h _ => h
  · exact fun _ _ _ h _ => h
  · exact fun _ _ _ h _ => h
  · exact fun _ _ _ h _ => h
set_option maxRecDepth 100000 in
set_option maxHeartbeats 8000000 in
theorem sz1_region {S : World → Prop} (hon : ∀ W W', S W → Below W.heap.size W W' → S W') {V I : Nat} {p : Sp} {c : Cd} {q d : Int} {z : Bool} (hV : ∀ W, S W → Blk W V 93 #[.slice p.ka p.s.ks.length p.kc, .slice p.xa p.s.xs.length p.xc, .int .i64 p.s.flo, .int .i64 p.s.fhi, .int .i64 p.s.plo, .int .i64 p.s.phi, .int .i64 c.wax, .int .i64 c.dia, .int .i64 c.dra, .int .i64 c.clo, .int .i64 c.chi]) (hI : ∀ W, S W → Blk W I 3 #[.int .i64 q]) (HC : Hid (∀ (W : World) (Q : Nat), S W → Blk W Q 93 #[.slice p.ka p.s.ks.length p.kc, .slice p.xa p.s.xs.length p.xc, .int .i64 p.s.flo, .int .i64 p.s.fhi, .int .i64 p.s.plo, .int .i64 p.s.phi, .int .i64 c.wax, .int .i64 c.dia, .int .i64 c.dra, .int .i64 c.clo, .int .i64 c.chi] → Calls Try.prog 86 #[.agg #[.slice p.ka p.s.ks.length p.kc, .slice p.xa p.s.xs.length p.xc, .int .i64 p.s.flo, .int .i64 p.s.fhi, .int .i64 p.s.plo, .int .i64 p.s.phi, .int .i64 c.wax, .int .i64 c.dia, .int .i64 c.dra, .int .i64 c.clo, .int .i64 c.chi], .agg #[.int .i64 4, .func (.func 104) #[] #[.pointer (some ⟨Q, 0, none⟩)]], .int .i64 q, .int .i64 d] W fun e w' => e = .returned (.bool z) ∧ Below W.heap.size W w')) {Q : Exit → Act → World → Prop} {s3 : Value} {W0 : World} (HL : Hid (S W0))
    (HQ : Hid (∀ (u : Nat → Value) (W : World), S W → Q .normal ⟨#[.int .i64 d, .pointer (some ⟨V, 0, none⟩), .pointer (some ⟨I, 0, none⟩), s3, .bool (!z), u 0, u 1, u 2, u 3, u 4, u 5, u 6], []⟩ W)) :
    Code.wp Try.prog ((Try.f92.body.bind (regionAt 1)).getD .skip) Q ⟨#[.int .i64 d, .pointer (some ⟨V, 0, none⟩), .pointer (some ⟨I, 0, none⟩), s3, .bool false, undef, undef, undef, undef, undef, undef, undef], []⟩ W0 := by
  conv => arg 2; whnf
  refine wp_region_spec (by kernel_rfl) 8 (by kernel_rfl) (fun u => ⟨#[.int .i64 d, .pointer (some ⟨V, 0, none⟩), .pointer (some ⟨I, 0, none⟩), s3, u 7, u 0, u 1, u 2, u 3, u 4, u 5, u 6], []⟩) (fun i => if i = 7 then .bool false else undef) (fun W => Hid (S W)) (sz1R p c q d z) (by kernel_rfl) (hon _ _ HL.out (Below.refl _ _).drew) (fun i v W W2 hi h hb => sz1R_on p c q d z i hi v W W2 h hb) (by decide +kernel) ?_ ?_
  · iterate 8 (refine all_succ ?_ ?_)
    · exact all_zero
    · intro u W hB _ hd _ K hK
      have HK := Lib.hid hK; clear hK
      refine wpOp_of rfl (by rfl) ?_
      have z0 := (hV W hB.out).cell 0; have z1 := (hV W hB.out).cell 1; have z2 := (hV W hB.out).cell 2; have z3 := (hV W hB.out).cell 3; have z4 := (hV W hB.out).cell 4; have z5 := (hV W hB.out).cell 5; have z6 := (hV W hB.out).cell 6; have z7 := (hV W hB.out).cell 7; have z8 := (hV W hB.out).cell 8; have z9 := (hV W hB.out).cell 9; have z10 := (hV W hB.out).cell 10
      go_simp
      exact k_of (HK.out (.agg #[.slice p.ka p.s.ks.length p.kc, .slice p.xa p.s.xs.length p.xc, .int .i64 p.s.flo, .int .i64 p.s.fhi, .int .i64 p.s.plo, .int .i64 p.s.phi, .int .i64 c.wax, .int .i64 c.dia, .int .i64 c.dra, .int .i64 c.clo, .int .i64 c.chi]) _ rfl hB (Below.refl _ _)) (by kernel_rfl)
    · intro u W hB _ hd _ K hK
      have HK := Lib.hid hK; clear hK
      refine wpOp_of rfl (by rfl) ?_
      have z0 := (hV W hB.out).cell 0; have z1 := (hV W hB.out).cell 1; have z2 := (hV W hB.out).cell 2; have z3 := (hV W hB.out).cell 3; have z4 := (hV W hB.out).cell 4; have z5 := (hV W hB.out).cell 5; have z6 := (hV W hB.out).cell 6; have z7 := (hV W hB.out).cell 7; have z8 := (hV W hB.out).cell 8; have z9 := (hV W hB.out).cell 9; have z10 := (hV W hB.out).cell 10
      go_simp
      exact k_of (HK.out (.agg #[.slice p.ka p.s.ks.length p.kc, .slice p.xa p.s.xs.length p.xc, .int .i64 p.s.flo, .int .i64 p.s.fhi, .int .i64 p.s.plo, .int .i64 p.s.phi, .int .i64 c.wax, .int .i64 c.dia, .int .i64 c.dra, .int .i64 c.clo, .int .i64 c.chi]) _ rfl hB (Below.refl _ _)) (by kernel_rfl)
    · intro u W hB _ hd _ K hK
      have HK := Lib.hid hK; clear hK
      have e1 : u 1 = .agg #[.slice p.ka p.s.ks.length p.kc, .slice p.xa p.s.xs.length p.xc, .int .i64 p.s.flo, .int .i64 p.s.fhi, .int .i64 p.s.plo, .int .i64 p.s.phi, .int .i64 c.wax, .int .i64 c.dia, .int .i64 c.dra, .int .i64 c.clo, .int .i64 c.chi] := hd 1 (by decide +kernel)
      refine wpOp_of rfl (by rfl) ?_
      go_simp
      refine (mk4_any W p c).mono ?_
      rintro e w' ⟨Q, rfl, hq, hb⟩
      exact k_of (HK.out (.agg #[.int .i64 4, .func (.func 104) #[] #[.pointer (some ⟨Q, 0, none⟩)]]) _ ⟨Q, rfl, hq⟩ (hon _ _ hB.out hb) hb) (by rw [← u1_eq e1]; kernel_rfl)
    · intro u W hB _ hd _ K hK
      have HK := Lib.hid hK; clear hK
      refine wpOp_of rfl (by rfl) ?_
      have z0 := (hI W hB.out).cell 0
      go_simp
      exact k_of (HK.out (.int .i64 q) _ rfl hB (Below.refl _ _)) (by kernel_rfl)
    · intro u W hB _ hd _ K hK
      have HK := Lib.hid hK; clear hK
      refine wpOp_of rfl (by rfl) ?_
      go_simp
      exact k_of (HK.out (.int .i64 d) _ rfl hB (Below.refl _ _)) (by kernel_rfl)
    · intro u W hB _ hd _ K hK
      have HK := Lib.hid hK; clear hK
      have e0 : u 0 = .agg #[.slice p.ka p.s.ks.length p.kc, .slice p.xa p.s.xs.length p.xc, .int .i64 p.s.flo, .int .i64 p.s.fhi, .int .i64 p.s.plo, .int .i64 p.s.phi, .int .i64 c.wax, .int .i64 c.dia, .int .i64 c.dra, .int .i64 c.clo, .int .i64 c.chi] := hd 0 (by decide +kernel)
      obtain ⟨Q_2, e2, f2_0⟩ : sz1R p c q d z 2 (u 2) W := hd 2 (by decide +kernel)
      have e3 : u 3 = .int .i64 q := hd 3 (by decide +kernel)
      have e4 : u 4 = .int .i64 d := hd 4 (by decide +kernel)
      refine wpOp_of rfl (by rfl) ?_
      go_simp
      refine (HC.out W Q_2 hB.out f2_0).mono ?_
      rintro e w' ⟨rfl, hb⟩
      exact k_of (HK.out (.bool z) _ rfl (hon _ _ hB.out hb) hb) (by rw [← u1_eq e0, ← u1_eq e2, ← u1_eq e3, ← u1_eq e4]; kernel_rfl)
    · intro u W hB _ hd _ K hK
      have HK := Lib.hid hK; clear hK
      have e5 : u 5 = .bool z := hd 5 (by decide +kernel)
      refine wpOp_of rfl (by rfl) ?_
      go_simp
      exact k_of (HK.out (.bool (!z)) _ rfl hB (Below.refl _ _)) (by rw [← u1_eq e5]; kernel_rfl)
    · intro u W hB _ hd _ K hK
      have HK := Lib.hid hK; clear hK
      have e6 : u 6 = .bool (!z) := hd 6 (by decide +kernel)
      refine wpOp_of rfl (by rfl) ?_
      go_simp
      exact k_of (HK.out (.bool (!z)) _ rfl hB (Below.refl _ _)) (by rw [← u1_eq e6]; kernel_rfl)
  · intro u W hB hd
    have e7 : u 7 = .bool (!z) := hd 7 (by decide)
    exact k_of (HQ.out u W hB.out) (by simp only [e7])

/-- What each operation leaves. -/
def sz2R (p : Sp) (c : Cd) (q d : Int) (z : Bool) : Nat → Value → World → Prop
  | 0, v, _ => v = .agg #[.slice p.ka p.s.ks.length p.kc, .slice p.xa p.s.xs.length p.xc, .int .i64 p.s.flo, .int .i64 p.s.fhi, .int .i64 p.s.plo, .int .i64 p.s.phi, .int .i64 c.wax, .int .i64 c.dia, .int .i64 c.dra, .int .i64 c.clo, .int .i64 c.chi]
  | 1, v, _ => v = .agg #[.slice p.ka p.s.ks.length p.kc, .slice p.xa p.s.xs.length p.xc, .int .i64 p.s.flo, .int .i64 p.s.fhi, .int .i64 p.s.plo, .int .i64 p.s.phi, .int .i64 c.wax, .int .i64 c.dia, .int .i64 c.dra, .int .i64 c.clo, .int .i64 c.chi]
  | 2, v, W => ∃ Q_2, v = .agg #[.int .i64 3, .func (.func 102) #[] #[.pointer (some ⟨Q_2, 0, none⟩)]] ∧ Blk W Q_2 93 #[.slice p.ka p.s.ks.length p.kc, .slice p.xa p.s.xs.length p.xc, .int .i64 p.s.flo, .int .i64 p.s.fhi, .int .i64 p.s.plo, .int .i64 p.s.phi, .int .i64 c.wax, .int .i64 c.dia, .int .i64 c.dra, .int .i64 c.clo, .int .i64 c.chi]
  | 3, v, _ => v = .int .i64 q
  | 4, v, _ => v = .int .i64 d
  | 5, v, _ => v = .bool z
  | 6, v, _ => v = .bool z
  | _, _, _ => True
theorem sz2R_on (p : Sp) (c : Cd) (q d : Int) (z : Bool) : ∀ i, i < 7 → ∀ v W W', sz2R p c q d z i v W → Below W.heap.size W W' → sz2R p c q d z i v W' := by
  iterate 7 (refine all_succ ?_ ?_)
  · exact all_zero
  · exact fun _ _ _ h _ => h
  · exact fun _ _ _ h _ => h
  · rintro v W W' ⟨Q_2, e, h0⟩ hb; exact ⟨Q_2, e, h0.on hb⟩
  · exact fun _ _ _ h _ => h
  · exact fun _ _ _ h _ => h
  · exact fun _ _ _ h _ => h
  · exact fun _ _ _ h _ => h
set_option maxRecDepth 100000 in
set_option maxHeartbeats 8000000 in
theorem sz2_region {S : World → Prop} (hon : ∀ W W', S W → Below W.heap.size W W' → S W') {V I : Nat} {p : Sp} {c : Cd} {q d : Int} {z : Bool} (hV : ∀ W, S W → Blk W V 93 #[.slice p.ka p.s.ks.length p.kc, .slice p.xa p.s.xs.length p.xc, .int .i64 p.s.flo, .int .i64 p.s.fhi, .int .i64 p.s.plo, .int .i64 p.s.phi, .int .i64 c.wax, .int .i64 c.dia, .int .i64 c.dra, .int .i64 c.clo, .int .i64 c.chi]) (hI : ∀ W, S W → Blk W I 3 #[.int .i64 q]) (HC : Hid (∀ (W : World) (Q : Nat), S W → Blk W Q 93 #[.slice p.ka p.s.ks.length p.kc, .slice p.xa p.s.xs.length p.xc, .int .i64 p.s.flo, .int .i64 p.s.fhi, .int .i64 p.s.plo, .int .i64 p.s.phi, .int .i64 c.wax, .int .i64 c.dia, .int .i64 c.dra, .int .i64 c.clo, .int .i64 c.chi] → Calls Try.prog 86 #[.agg #[.slice p.ka p.s.ks.length p.kc, .slice p.xa p.s.xs.length p.xc, .int .i64 p.s.flo, .int .i64 p.s.fhi, .int .i64 p.s.plo, .int .i64 p.s.phi, .int .i64 c.wax, .int .i64 c.dia, .int .i64 c.dra, .int .i64 c.clo, .int .i64 c.chi], .agg #[.int .i64 3, .func (.func 102) #[] #[.pointer (some ⟨Q, 0, none⟩)]], .int .i64 q, .int .i64 d] W fun e w' => e = .returned (.bool z) ∧ Below W.heap.size W w')) {Q : Exit → Act → World → Prop} {s3 : Value} {W0 : World} (HL : Hid (S W0))
    (HQ : Hid (∀ (u : Nat → Value) (W : World), S W → Q .normal ⟨#[.int .i64 d, .pointer (some ⟨V, 0, none⟩), .pointer (some ⟨I, 0, none⟩), s3, .bool z, u 0, u 1, u 2, u 3, u 4, u 5], []⟩ W)) :
    Code.wp Try.prog ((Try.f93.body.bind (regionAt 1)).getD .skip) Q ⟨#[.int .i64 d, .pointer (some ⟨V, 0, none⟩), .pointer (some ⟨I, 0, none⟩), s3, .bool false, undef, undef, undef, undef, undef, undef], []⟩ W0 := by
  conv => arg 2; whnf
  refine wp_region_spec (by kernel_rfl) 7 (by kernel_rfl) (fun u => ⟨#[.int .i64 d, .pointer (some ⟨V, 0, none⟩), .pointer (some ⟨I, 0, none⟩), s3, u 6, u 0, u 1, u 2, u 3, u 4, u 5], []⟩) (fun i => if i = 6 then .bool false else undef) (fun W => Hid (S W)) (sz2R p c q d z) (by kernel_rfl) (hon _ _ HL.out (Below.refl _ _).drew) (fun i v W W2 hi h hb => sz2R_on p c q d z i hi v W W2 h hb) (by decide +kernel) ?_ ?_
  · iterate 7 (refine all_succ ?_ ?_)
    · exact all_zero
    · intro u W hB _ hd _ K hK
      have HK := Lib.hid hK; clear hK
      refine wpOp_of rfl (by rfl) ?_
      have z0 := (hV W hB.out).cell 0; have z1 := (hV W hB.out).cell 1; have z2 := (hV W hB.out).cell 2; have z3 := (hV W hB.out).cell 3; have z4 := (hV W hB.out).cell 4; have z5 := (hV W hB.out).cell 5; have z6 := (hV W hB.out).cell 6; have z7 := (hV W hB.out).cell 7; have z8 := (hV W hB.out).cell 8; have z9 := (hV W hB.out).cell 9; have z10 := (hV W hB.out).cell 10
      go_simp
      exact k_of (HK.out (.agg #[.slice p.ka p.s.ks.length p.kc, .slice p.xa p.s.xs.length p.xc, .int .i64 p.s.flo, .int .i64 p.s.fhi, .int .i64 p.s.plo, .int .i64 p.s.phi, .int .i64 c.wax, .int .i64 c.dia, .int .i64 c.dra, .int .i64 c.clo, .int .i64 c.chi]) _ rfl hB (Below.refl _ _)) (by kernel_rfl)
    · intro u W hB _ hd _ K hK
      have HK := Lib.hid hK; clear hK
      refine wpOp_of rfl (by rfl) ?_
      have z0 := (hV W hB.out).cell 0; have z1 := (hV W hB.out).cell 1; have z2 := (hV W hB.out).cell 2; have z3 := (hV W hB.out).cell 3; have z4 := (hV W hB.out).cell 4; have z5 := (hV W hB.out).cell 5; have z6 := (hV W hB.out).cell 6; have z7 := (hV W hB.out).cell 7; have z8 := (hV W hB.out).cell 8; have z9 := (hV W hB.out).cell 9; have z10 := (hV W hB.out).cell 10
      go_simp
      exact k_of (HK.out (.agg #[.slice p.ka p.s.ks.length p.kc, .slice p.xa p.s.xs.length p.xc, .int .i64 p.s.flo, .int .i64 p.s.fhi, .int .i64 p.s.plo, .int .i64 p.s.phi, .int .i64 c.wax, .int .i64 c.dia, .int .i64 c.dra, .int .i64 c.clo, .int .i64 c.chi]) _ rfl hB (Below.refl _ _)) (by kernel_rfl)
    · intro u W hB _ hd _ K hK
      have HK := Lib.hid hK; clear hK
      have e1 : u 1 = .agg #[.slice p.ka p.s.ks.length p.kc, .slice p.xa p.s.xs.length p.xc, .int .i64 p.s.flo, .int .i64 p.s.fhi, .int .i64 p.s.plo, .int .i64 p.s.phi, .int .i64 c.wax, .int .i64 c.dia, .int .i64 c.dra, .int .i64 c.clo, .int .i64 c.chi] := hd 1 (by decide +kernel)
      refine wpOp_of rfl (by rfl) ?_
      go_simp
      refine (mk3_any W p c).mono ?_
      rintro e w' ⟨Q, rfl, hq, hb⟩
      exact k_of (HK.out (.agg #[.int .i64 3, .func (.func 102) #[] #[.pointer (some ⟨Q, 0, none⟩)]]) _ ⟨Q, rfl, hq⟩ (hon _ _ hB.out hb) hb) (by rw [← u1_eq e1]; kernel_rfl)
    · intro u W hB _ hd _ K hK
      have HK := Lib.hid hK; clear hK
      refine wpOp_of rfl (by rfl) ?_
      have z0 := (hI W hB.out).cell 0
      go_simp
      exact k_of (HK.out (.int .i64 q) _ rfl hB (Below.refl _ _)) (by kernel_rfl)
    · intro u W hB _ hd _ K hK
      have HK := Lib.hid hK; clear hK
      refine wpOp_of rfl (by rfl) ?_
      go_simp
      exact k_of (HK.out (.int .i64 d) _ rfl hB (Below.refl _ _)) (by kernel_rfl)
    · intro u W hB _ hd _ K hK
      have HK := Lib.hid hK; clear hK
      have e0 : u 0 = .agg #[.slice p.ka p.s.ks.length p.kc, .slice p.xa p.s.xs.length p.xc, .int .i64 p.s.flo, .int .i64 p.s.fhi, .int .i64 p.s.plo, .int .i64 p.s.phi, .int .i64 c.wax, .int .i64 c.dia, .int .i64 c.dra, .int .i64 c.clo, .int .i64 c.chi] := hd 0 (by decide +kernel)
      obtain ⟨Q_2, e2, f2_0⟩ : sz2R p c q d z 2 (u 2) W := hd 2 (by decide +kernel)
      have e3 : u 3 = .int .i64 q := hd 3 (by decide +kernel)
      have e4 : u 4 = .int .i64 d := hd 4 (by decide +kernel)
      refine wpOp_of rfl (by rfl) ?_
      go_simp
      refine (HC.out W Q_2 hB.out f2_0).mono ?_
      rintro e w' ⟨rfl, hb⟩
      exact k_of (HK.out (.bool z) _ rfl (hon _ _ hB.out hb) hb) (by rw [← u1_eq e0, ← u1_eq e2, ← u1_eq e3, ← u1_eq e4]; kernel_rfl)
    · intro u W hB _ hd _ K hK
      have HK := Lib.hid hK; clear hK
      have e5 : u 5 = .bool z := hd 5 (by decide +kernel)
      refine wpOp_of rfl (by rfl) ?_
      go_simp
      exact k_of (HK.out (.bool z) _ rfl hB (Below.refl _ _)) (by rw [← u1_eq e5]; kernel_rfl)
  · intro u W hB hd
    have e6 : u 6 = .bool z := hd 6 (by decide)
    exact k_of (HQ.out u W hB.out) (by simp only [e6])

/-- What each operation leaves. -/
def szhR (P : Nat) (p : Sp) (c : Cd) (q : Int) (_z : Bool) : Nat → Value → World → Prop
  | 0, v, _ => v = .agg #[.slice p.ka p.s.ks.length p.kc, .slice p.xa p.s.xs.length p.xc, .int .i64 p.s.flo, .int .i64 p.s.fhi, .int .i64 p.s.plo, .int .i64 p.s.phi, .int .i64 c.wax, .int .i64 c.dia, .int .i64 c.dra, .int .i64 c.clo, .int .i64 c.chi]
  | 1, v, _ => v = .agg #[.slice p.ka p.s.ks.length p.kc, .slice p.xa p.s.xs.length p.xc, .int .i64 p.s.flo, .int .i64 p.s.fhi, .int .i64 p.s.plo, .int .i64 p.s.phi, .int .i64 c.wax, .int .i64 c.dia, .int .i64 c.dra, .int .i64 c.clo, .int .i64 c.chi]
  | 2, v, W => ∃ Q_2, v = .agg #[.int .i64 1, .func (.func 100) #[] #[.pointer (some ⟨Q_2, 0, none⟩)]] ∧ Blk W Q_2 93 #[.slice p.ka p.s.ks.length p.kc, .slice p.xa p.s.xs.length p.xc, .int .i64 p.s.flo, .int .i64 p.s.fhi, .int .i64 p.s.plo, .int .i64 p.s.phi, .int .i64 c.wax, .int .i64 c.dia, .int .i64 c.dra, .int .i64 c.clo, .int .i64 c.chi]
  | 3, v, _ => v = .int .i64 q
  | 4, v, _ => v = .pointer (some ⟨P, 6, none⟩)
  | 5, v, _ => v = .pointer (some ⟨P, 7, none⟩)
  | 6, v, _ => v = .int .i64 c.dia
  | 7, v, _ => v = .bool true
  | 8, v, _ => v = .bool true
  | 9, v, _ => v = undef
  | 10, v, _ => v = undef
  | 11, v, _ => v = undef
  | 12, v, _ => v = undef
  | 13, v, _ => v = undef
  | 14, v, _ => v = undef
  | 15, v, _ => v = undef
  | 16, v, _ => v = undef
  | 17, v, _ => v = .bool true
  | _, _, _ => True
theorem szhR_on (P : Nat) (p : Sp) (c : Cd) (q : Int) (z : Bool) : ∀ i, i < 18 → ∀ v W W', szhR P p c q z i v W → Below W.heap.size W W' → szhR P p c q z i v W' := by
  iterate 18 (refine all_succ ?_ ?_)
  · exact all_zero
  · exact fun _ _ _ h _ => h
  · exact fun _ _ _ h _ => h
  · rintro v W W' ⟨Q_2, e, h0⟩ hb; exact ⟨Q_2, e, h0.on hb⟩
  · exact fun _ _ _ h _ => h
  · exact fun _ _ _ h _ => h
  · exact fun _ _ _ h _ => h
  · exact fun _ _ _ h _ => h
  · exact fun _ _ _ h _ => h
  · exact fun _ _ _ h _ => h
  · exact fun _ _ _ h _ => h
  · exact fun _ _ _ h _ => h
  · exact fun _ _ _ h _ => h
  · exact fun _ _ _ h _ => h
  · exact fun _ _ _ h _ => h
  · exact fun _ _ _ h _ => h
  · exact fun _ _ _ h _ => h
  · exact fun _ _ _ h _ => h
  · exact fun _ _ _ h _ => h
set_option maxRecDepth 100000 in
set_option maxHeartbeats 8000000 in
theorem szh_region {S : World → Prop} (hon : ∀ W W', S W → Below W.heap.size W W' → S W') {P I : Nat} {p : Sp} {c : Cd} {q : Int} {z : Bool} (hP : ∀ W, S W → Blk W P 93 #[.slice p.ka p.s.ks.length p.kc, .slice p.xa p.s.xs.length p.xc, .int .i64 p.s.flo, .int .i64 p.s.fhi, .int .i64 p.s.plo, .int .i64 p.s.phi, .int .i64 c.wax, .int .i64 c.dia, .int .i64 c.dra, .int .i64 c.clo, .int .i64 c.chi]) (hI : ∀ W, S W → Blk W I 3 #[.int .i64 q]) (HC1 : Hid (∀ (W : World) (Q : Nat), S W → Blk W Q 93 #[.slice p.ka p.s.ks.length p.kc, .slice p.xa p.s.xs.length p.xc, .int .i64 p.s.flo, .int .i64 p.s.fhi, .int .i64 p.s.plo, .int .i64 p.s.phi, .int .i64 c.wax, .int .i64 c.dia, .int .i64 c.dra, .int .i64 c.clo, .int .i64 c.chi] → Calls Try.prog 86 #[.agg #[.slice p.ka p.s.ks.length p.kc, .slice p.xa p.s.xs.length p.xc, .int .i64 p.s.flo, .int .i64 p.s.fhi, .int .i64 p.s.plo, .int .i64 p.s.phi, .int .i64 c.wax, .int .i64 c.dia, .int .i64 c.dra, .int .i64 c.clo, .int .i64 c.chi], .agg #[.int .i64 1, .func (.func 100) #[] #[.pointer (some ⟨Q, 0, none⟩)]], .int .i64 q, .int .i64 c.dia] W fun e w' => e = .returned (.bool true) ∧ Below W.heap.size W w')) {Q : Exit → Act → World → Prop} {s0 s1 s4 s23 s24 s25 s26 s27 s28 s29 : Value} {W0 : World} (HL : Hid (S W0))
    (HQ : Hid (∀ (u : Nat → Value) (W : World), S W → Q .normal ⟨#[s0, s1, .pointer (some ⟨P, 0, none⟩), .pointer (some ⟨I, 0, none⟩), s4, u 0, u 1, u 2, u 3, u 4, u 5, u 6, u 7, u 8, u 9, u 10, u 11, u 12, u 13, u 14, u 15, u 16, .bool true, s23, s24, s25, s26, s27, s28, s29], []⟩ W)) :
    Code.wp Try.prog ((Try.f64.body.bind (regionAt 1)).getD .skip) Q ⟨#[s0, s1, .pointer (some ⟨P, 0, none⟩), .pointer (some ⟨I, 0, none⟩), s4, undef, undef, undef, undef, undef, undef, undef, undef, undef, undef, undef, undef, undef, undef, undef, undef, undef, undef, s23, s24, s25, s26, s27, s28, s29], []⟩ W0 := by
  conv => arg 2; whnf
  refine wp_region_spec (by kernel_rfl) 18 (by kernel_rfl) (fun u => ⟨#[s0, s1, .pointer (some ⟨P, 0, none⟩), .pointer (some ⟨I, 0, none⟩), s4, u 0, u 1, u 2, u 3, u 4, u 5, u 6, u 7, u 8, u 9, u 10, u 11, u 12, u 13, u 14, u 15, u 16, u 17, s23, s24, s25, s26, s27, s28, s29], []⟩) (fun i => undef) (fun W => Hid (S W)) (szhR P p c q z) (by kernel_rfl) (hon _ _ HL.out (Below.refl _ _).drew) (fun i v W W2 hi h hb => szhR_on P p c q z i hi v W W2 h hb) (by decide +kernel) ?_ ?_
  · iterate 18 (refine all_succ ?_ ?_)
    · exact all_zero
    · intro u W hB _ hd _ K hK
      have HK := Lib.hid hK; clear hK
      refine wpOp_of rfl (by rfl) ?_
      have z0 := (hP W hB.out).cell 0; have z1 := (hP W hB.out).cell 1; have z2 := (hP W hB.out).cell 2; have z3 := (hP W hB.out).cell 3; have z4 := (hP W hB.out).cell 4; have z5 := (hP W hB.out).cell 5; have z6 := (hP W hB.out).cell 6; have z7 := (hP W hB.out).cell 7; have z8 := (hP W hB.out).cell 8; have z9 := (hP W hB.out).cell 9; have z10 := (hP W hB.out).cell 10
      go_simp
      exact k_of (HK.out (.agg #[.slice p.ka p.s.ks.length p.kc, .slice p.xa p.s.xs.length p.xc, .int .i64 p.s.flo, .int .i64 p.s.fhi, .int .i64 p.s.plo, .int .i64 p.s.phi, .int .i64 c.wax, .int .i64 c.dia, .int .i64 c.dra, .int .i64 c.clo, .int .i64 c.chi]) _ rfl hB (Below.refl _ _)) (by kernel_rfl)
    · intro u W hB _ hd _ K hK
      have HK := Lib.hid hK; clear hK
      refine wpOp_of rfl (by rfl) ?_
      have z0 := (hP W hB.out).cell 0; have z1 := (hP W hB.out).cell 1; have z2 := (hP W hB.out).cell 2; have z3 := (hP W hB.out).cell 3; have z4 := (hP W hB.out).cell 4; have z5 := (hP W hB.out).cell 5; have z6 := (hP W hB.out).cell 6; have z7 := (hP W hB.out).cell 7; have z8 := (hP W hB.out).cell 8; have z9 := (hP W hB.out).cell 9; have z10 := (hP W hB.out).cell 10
      go_simp
      exact k_of (HK.out (.agg #[.slice p.ka p.s.ks.length p.kc, .slice p.xa p.s.xs.length p.xc, .int .i64 p.s.flo, .int .i64 p.s.fhi, .int .i64 p.s.plo, .int .i64 p.s.phi, .int .i64 c.wax, .int .i64 c.dia, .int .i64 c.dra, .int .i64 c.clo, .int .i64 c.chi]) _ rfl hB (Below.refl _ _)) (by kernel_rfl)
    · intro u W hB _ hd _ K hK
      have HK := Lib.hid hK; clear hK
      have e1 : u 1 = .agg #[.slice p.ka p.s.ks.length p.kc, .slice p.xa p.s.xs.length p.xc, .int .i64 p.s.flo, .int .i64 p.s.fhi, .int .i64 p.s.plo, .int .i64 p.s.phi, .int .i64 c.wax, .int .i64 c.dia, .int .i64 c.dra, .int .i64 c.clo, .int .i64 c.chi] := hd 1 (by decide +kernel)
      refine wpOp_of rfl (by rfl) ?_
      go_simp
      refine (mk1_any W p c).mono ?_
      rintro e w' ⟨Q, rfl, hq, hb⟩
      exact k_of (HK.out (.agg #[.int .i64 1, .func (.func 100) #[] #[.pointer (some ⟨Q, 0, none⟩)]]) _ ⟨Q, rfl, hq⟩ (hon _ _ hB.out hb) hb) (by rw [← u1_eq e1]; kernel_rfl)
    · intro u W hB _ hd _ K hK
      have HK := Lib.hid hK; clear hK
      refine wpOp_of rfl (by rfl) ?_
      have z0 := (hI W hB.out).cell 0
      go_simp
      exact k_of (HK.out (.int .i64 q) _ rfl hB (Below.refl _ _)) (by kernel_rfl)
    · intro u W hB _ hd _ K hK
      have HK := Lib.hid hK; clear hK
      refine wpOp_of rfl (by rfl) ?_
      go_simp
      exact k_of (HK.out (.pointer (some ⟨P, 6, none⟩)) _ rfl hB (Below.refl _ _)) (by kernel_rfl)
    · intro u W hB _ hd _ K hK
      have HK := Lib.hid hK; clear hK
      have e4 : u 4 = .pointer (some ⟨P, 6, none⟩) := hd 4 (by decide +kernel)
      refine wpOp_of rfl (by rfl) ?_
      go_simp
      exact k_of (HK.out (.pointer (some ⟨P, 7, none⟩)) _ rfl hB (Below.refl _ _)) (by rw [← u1_eq e4]; kernel_rfl)
    · intro u W hB _ hd _ K hK
      have HK := Lib.hid hK; clear hK
      have e5 : u 5 = .pointer (some ⟨P, 7, none⟩) := hd 5 (by decide +kernel)
      refine wpOp_of rfl (by rfl) ?_
      have z7 := (hP W hB.out).cell 7
      go_simp
      exact k_of (HK.out (.int .i64 c.dia) _ rfl hB (Below.refl _ _)) (by rw [← u1_eq e5]; kernel_rfl)
    · intro u W hB _ hd _ K hK
      have HK := Lib.hid hK; clear hK
      have e0 : u 0 = .agg #[.slice p.ka p.s.ks.length p.kc, .slice p.xa p.s.xs.length p.xc, .int .i64 p.s.flo, .int .i64 p.s.fhi, .int .i64 p.s.plo, .int .i64 p.s.phi, .int .i64 c.wax, .int .i64 c.dia, .int .i64 c.dra, .int .i64 c.clo, .int .i64 c.chi] := hd 0 (by decide +kernel)
      obtain ⟨Q_2, e2, f2_0⟩ : szhR P p c q z 2 (u 2) W := hd 2 (by decide +kernel)
      have e3 : u 3 = .int .i64 q := hd 3 (by decide +kernel)
      have e6 : u 6 = .int .i64 c.dia := hd 6 (by decide +kernel)
      refine wpOp_of rfl (by rfl) ?_
      go_simp
      refine (HC1.out W Q_2 hB.out f2_0).mono ?_
      rintro e w' ⟨rfl, hb⟩
      exact k_of (HK.out (.bool true) _ rfl (hon _ _ hB.out hb) hb) (by rw [← u1_eq e0, ← u1_eq e2, ← u1_eq e3, ← u1_eq e6]; kernel_rfl)
    · intro u W hB _ hd _ K hK
      have HK := Lib.hid hK; clear hK
      have e7 : u 7 = .bool true := hd 7 (by decide +kernel)
      refine wpOp_of rfl (by rfl) ?_
      go_simp
      exact k_of (HK.out (.bool true) _ rfl hB (Below.refl _ _)) (by rw [← u1_eq e7]; kernel_rfl)
    · intro u W hB _ hd _ K hK
      have HK := Lib.hid hK; clear hK
      have e8 : u 8 = .bool true := hd 8 (by decide +kernel)
      refine wpOp_skip rfl (by rw [← u1_eq e8]; kernel_rfl) ?_
      exact k_of (HK.out undef _ rfl hB (Below.refl _ _)) (by rw [← u1_eq e8]; kernel_rfl)
    · intro u W hB _ hd _ K hK
      have HK := Lib.hid hK; clear hK
      have e8 : u 8 = .bool true := hd 8 (by decide +kernel)
      refine wpOp_skip rfl (by rw [← u1_eq e8]; kernel_rfl) ?_
      exact k_of (HK.out undef _ rfl hB (Below.refl _ _)) (by rw [← u1_eq e8]; kernel_rfl)
    · intro u W hB _ hd _ K hK
      have HK := Lib.hid hK; clear hK
      have e8 : u 8 = .bool true := hd 8 (by decide +kernel)
      refine wpOp_skip rfl (by rw [← u1_eq e8]; kernel_rfl) ?_
      exact k_of (HK.out undef _ rfl hB (Below.refl _ _)) (by rw [← u1_eq e8]; kernel_rfl)
    · intro u W hB _ hd _ K hK
      have HK := Lib.hid hK; clear hK
      have e8 : u 8 = .bool true := hd 8 (by decide +kernel)
      refine wpOp_skip rfl (by rw [← u1_eq e8]; kernel_rfl) ?_
      exact k_of (HK.out undef _ rfl hB (Below.refl _ _)) (by rw [← u1_eq e8]; kernel_rfl)
    · intro u W hB _ hd _ K hK
      have HK := Lib.hid hK; clear hK
      have e8 : u 8 = .bool true := hd 8 (by decide +kernel)
      refine wpOp_skip rfl (by rw [← u1_eq e8]; kernel_rfl) ?_
      exact k_of (HK.out undef _ rfl hB (Below.refl _ _)) (by rw [← u1_eq e8]; kernel_rfl)
    · intro u W hB _ hd _ K hK
      have HK := Lib.hid hK; clear hK
      have e8 : u 8 = .bool true := hd 8 (by decide +kernel)
      refine wpOp_skip rfl (by rw [← u1_eq e8]; kernel_rfl) ?_
      exact k_of (HK.out undef _ rfl hB (Below.refl _ _)) (by rw [← u1_eq e8]; kernel_rfl)
    · intro u W hB _ hd _ K hK
      have HK := Lib.hid hK; clear hK
      have e8 : u 8 = .bool true := hd 8 (by decide +kernel)
      refine wpOp_skip rfl (by rw [← u1_eq e8]; kernel_rfl) ?_
      exact k_of (HK.out undef _ rfl hB (Below.refl _ _)) (by rw [← u1_eq e8]; kernel_rfl)
    · intro u W hB _ hd _ K hK
      have HK := Lib.hid hK; clear hK
      have e8 : u 8 = .bool true := hd 8 (by decide +kernel)
      refine wpOp_skip rfl (by rw [← u1_eq e8]; kernel_rfl) ?_
      exact k_of (HK.out undef _ rfl hB (Below.refl _ _)) (by rw [← u1_eq e8]; kernel_rfl)
    · intro u W hB _ hd _ K hK
      have HK := Lib.hid hK; clear hK
      have e8 : u 8 = .bool true := hd 8 (by decide +kernel)
      have e16 : u 16 = undef := hd 16 (by decide +kernel)
      refine wpOp_of rfl (by rfl) ?_
      go_simp
      exact k_of (HK.out (.bool true) _ rfl hB (Below.refl _ _)) (by rw [← u1_eq e8, ← u1_eq e16]; kernel_rfl)
  · intro u W hB hd
    have e17 : u 17 = .bool true := hd 17 (by decide)
    exact k_of (HQ.out u W hB.out) (by simp only [e17])

/-- What each operation leaves. -/
def sznR (P : Nat) (p : Sp) (c : Cd) (q : Int) (z : Bool) : Nat → Value → World → Prop
  | 0, v, _ => v = .agg #[.slice p.ka p.s.ks.length p.kc, .slice p.xa p.s.xs.length p.xc, .int .i64 p.s.flo, .int .i64 p.s.fhi, .int .i64 p.s.plo, .int .i64 p.s.phi, .int .i64 c.wax, .int .i64 c.dia, .int .i64 c.dra, .int .i64 c.clo, .int .i64 c.chi]
  | 1, v, _ => v = .agg #[.slice p.ka p.s.ks.length p.kc, .slice p.xa p.s.xs.length p.xc, .int .i64 p.s.flo, .int .i64 p.s.fhi, .int .i64 p.s.plo, .int .i64 p.s.phi, .int .i64 c.wax, .int .i64 c.dia, .int .i64 c.dra, .int .i64 c.clo, .int .i64 c.chi]
  | 2, v, W => ∃ Q_2, v = .agg #[.int .i64 1, .func (.func 100) #[] #[.pointer (some ⟨Q_2, 0, none⟩)]] ∧ Blk W Q_2 93 #[.slice p.ka p.s.ks.length p.kc, .slice p.xa p.s.xs.length p.xc, .int .i64 p.s.flo, .int .i64 p.s.fhi, .int .i64 p.s.plo, .int .i64 p.s.phi, .int .i64 c.wax, .int .i64 c.dia, .int .i64 c.dra, .int .i64 c.clo, .int .i64 c.chi]
  | 3, v, _ => v = .int .i64 q
  | 4, v, _ => v = .pointer (some ⟨P, 6, none⟩)
  | 5, v, _ => v = .pointer (some ⟨P, 7, none⟩)
  | 6, v, _ => v = .int .i64 c.dia
  | 7, v, _ => v = .bool false
  | 8, v, _ => v = .bool false
  | 9, v, _ => v = .agg #[.slice p.ka p.s.ks.length p.kc, .slice p.xa p.s.xs.length p.xc, .int .i64 p.s.flo, .int .i64 p.s.fhi, .int .i64 p.s.plo, .int .i64 p.s.phi, .int .i64 c.wax, .int .i64 c.dia, .int .i64 c.dra, .int .i64 c.clo, .int .i64 c.chi]
  | 10, v, _ => v = .agg #[.slice p.ka p.s.ks.length p.kc, .slice p.xa p.s.xs.length p.xc, .int .i64 p.s.flo, .int .i64 p.s.fhi, .int .i64 p.s.plo, .int .i64 p.s.phi, .int .i64 c.wax, .int .i64 c.dia, .int .i64 c.dra, .int .i64 c.clo, .int .i64 c.chi]
  | 11, v, W => ∃ Q_11, v = .agg #[.int .i64 2, .func (.func 101) #[] #[.pointer (some ⟨Q_11, 0, none⟩)]] ∧ Blk W Q_11 93 #[.slice p.ka p.s.ks.length p.kc, .slice p.xa p.s.xs.length p.xc, .int .i64 p.s.flo, .int .i64 p.s.fhi, .int .i64 p.s.plo, .int .i64 p.s.phi, .int .i64 c.wax, .int .i64 c.dia, .int .i64 c.dra, .int .i64 c.clo, .int .i64 c.chi]
  | 12, v, _ => v = .int .i64 q
  | 13, v, _ => v = .pointer (some ⟨P, 6, none⟩)
  | 14, v, _ => v = .pointer (some ⟨P, 7, none⟩)
  | 15, v, _ => v = .int .i64 c.dia
  | 16, v, _ => v = .bool z
  | 17, v, _ => v = .bool z
  | _, _, _ => True
theorem sznR_on (P : Nat) (p : Sp) (c : Cd) (q : Int) (z : Bool) : ∀ i, i < 18 → ∀ v W W', sznR P p c q z i v W → Below W.heap.size W W' → sznR P p c q z i v W' := by
  iterate 18 (refine all_succ ?_ ?_)
  · exact all_zero
  · exact fun _ _ _ h _ => h
  · exact fun _ _ _ h _ => h
  · rintro v W W' ⟨Q_2, e, h0⟩ hb; exact ⟨Q_2, e, h0.on hb⟩
  · exact fun _ _ _ h _ => h
  · exact fun _ _ _ h _ => h
  · exact fun _ _ _ h _ => h
  · exact fun _ _ _ h _ => h
  · exact fun _ _ _ h _ => h
  · exact fun _ _ _ h _ => h
  · exact fun _ _ _ h _ => h
  · exact fun _ _ _ h _ => h
  · rintro v W W' ⟨Q_11, e, h0⟩ hb; exact ⟨Q_11, e, h0.on hb⟩
  · exact fun _ _ _ h _ => h
  · exact fun _ _ _ h _ => h
  · exact fun _ _ _ h _ => h
  · exact fun _ _ _ h _ => h
  · exact fun _ _ _ h _ => h
  · exact fun _ _ _ h _ => h
set_option maxRecDepth 100000 in
set_option maxHeartbeats 8000000 in
theorem szn_region {S : World → Prop} (hon : ∀ W W', S W → Below W.heap.size W W' → S W') {P I : Nat} {p : Sp} {c : Cd} {q : Int} {z : Bool} (hP : ∀ W, S W → Blk W P 93 #[.slice p.ka p.s.ks.length p.kc, .slice p.xa p.s.xs.length p.xc, .int .i64 p.s.flo, .int .i64 p.s.fhi, .int .i64 p.s.plo, .int .i64 p.s.phi, .int .i64 c.wax, .int .i64 c.dia, .int .i64 c.dra, .int .i64 c.clo, .int .i64 c.chi]) (hI : ∀ W, S W → Blk W I 3 #[.int .i64 q]) (HC1 : Hid (∀ (W : World) (Q : Nat), S W → Blk W Q 93 #[.slice p.ka p.s.ks.length p.kc, .slice p.xa p.s.xs.length p.xc, .int .i64 p.s.flo, .int .i64 p.s.fhi, .int .i64 p.s.plo, .int .i64 p.s.phi, .int .i64 c.wax, .int .i64 c.dia, .int .i64 c.dra, .int .i64 c.clo, .int .i64 c.chi] → Calls Try.prog 86 #[.agg #[.slice p.ka p.s.ks.length p.kc, .slice p.xa p.s.xs.length p.xc, .int .i64 p.s.flo, .int .i64 p.s.fhi, .int .i64 p.s.plo, .int .i64 p.s.phi, .int .i64 c.wax, .int .i64 c.dia, .int .i64 c.dra, .int .i64 c.clo, .int .i64 c.chi], .agg #[.int .i64 1, .func (.func 100) #[] #[.pointer (some ⟨Q, 0, none⟩)]], .int .i64 q, .int .i64 c.dia] W fun e w' => e = .returned (.bool false) ∧ Below W.heap.size W w')) (HC2 : Hid (∀ (W : World) (Q : Nat), S W → Blk W Q 93 #[.slice p.ka p.s.ks.length p.kc, .slice p.xa p.s.xs.length p.xc, .int .i64 p.s.flo, .int .i64 p.s.fhi, .int .i64 p.s.plo, .int .i64 p.s.phi, .int .i64 c.wax, .int .i64 c.dia, .int .i64 c.dra, .int .i64 c.clo, .int .i64 c.chi] → Calls Try.prog 86 #[.agg #[.slice p.ka p.s.ks.length p.kc, .slice p.xa p.s.xs.length p.xc, .int .i64 p.s.flo, .int .i64 p.s.fhi, .int .i64 p.s.plo, .int .i64 p.s.phi, .int .i64 c.wax, .int .i64 c.dia, .int .i64 c.dra, .int .i64 c.clo, .int .i64 c.chi], .agg #[.int .i64 2, .func (.func 101) #[] #[.pointer (some ⟨Q, 0, none⟩)]], .int .i64 q, .int .i64 c.dia] W fun e w' => e = .returned (.bool z) ∧ Below W.heap.size W w')) {Q : Exit → Act → World → Prop} {s0 s1 s4 s23 s24 s25 s26 s27 s28 s29 : Value} {W0 : World} (HL : Hid (S W0))
    (HQ : Hid (∀ (u : Nat → Value) (W : World), S W → Q .normal ⟨#[s0, s1, .pointer (some ⟨P, 0, none⟩), .pointer (some ⟨I, 0, none⟩), s4, u 0, u 1, u 2, u 3, u 4, u 5, u 6, u 7, u 8, u 9, u 10, u 11, u 12, u 13, u 14, u 15, u 16, .bool z, s23, s24, s25, s26, s27, s28, s29], []⟩ W)) :
    Code.wp Try.prog ((Try.f64.body.bind (regionAt 1)).getD .skip) Q ⟨#[s0, s1, .pointer (some ⟨P, 0, none⟩), .pointer (some ⟨I, 0, none⟩), s4, undef, undef, undef, undef, undef, undef, undef, undef, undef, undef, undef, undef, undef, undef, undef, undef, undef, undef, s23, s24, s25, s26, s27, s28, s29], []⟩ W0 := by
  conv => arg 2; whnf
  refine wp_region_spec (by kernel_rfl) 18 (by kernel_rfl) (fun u => ⟨#[s0, s1, .pointer (some ⟨P, 0, none⟩), .pointer (some ⟨I, 0, none⟩), s4, u 0, u 1, u 2, u 3, u 4, u 5, u 6, u 7, u 8, u 9, u 10, u 11, u 12, u 13, u 14, u 15, u 16, u 17, s23, s24, s25, s26, s27, s28, s29], []⟩) (fun i => undef) (fun W => Hid (S W)) (sznR P p c q z) (by kernel_rfl) (hon _ _ HL.out (Below.refl _ _).drew) (fun i v W W2 hi h hb => sznR_on P p c q z i hi v W W2 h hb) (by decide +kernel) ?_ ?_
  · iterate 18 (refine all_succ ?_ ?_)
    · exact all_zero
    · intro u W hB _ hd _ K hK
      have HK := Lib.hid hK; clear hK
      refine wpOp_of rfl (by rfl) ?_
      have z0 := (hP W hB.out).cell 0; have z1 := (hP W hB.out).cell 1; have z2 := (hP W hB.out).cell 2; have z3 := (hP W hB.out).cell 3; have z4 := (hP W hB.out).cell 4; have z5 := (hP W hB.out).cell 5; have z6 := (hP W hB.out).cell 6; have z7 := (hP W hB.out).cell 7; have z8 := (hP W hB.out).cell 8; have z9 := (hP W hB.out).cell 9; have z10 := (hP W hB.out).cell 10
      go_simp
      exact k_of (HK.out (.agg #[.slice p.ka p.s.ks.length p.kc, .slice p.xa p.s.xs.length p.xc, .int .i64 p.s.flo, .int .i64 p.s.fhi, .int .i64 p.s.plo, .int .i64 p.s.phi, .int .i64 c.wax, .int .i64 c.dia, .int .i64 c.dra, .int .i64 c.clo, .int .i64 c.chi]) _ rfl hB (Below.refl _ _)) (by kernel_rfl)
    · intro u W hB _ hd _ K hK
      have HK := Lib.hid hK; clear hK
      refine wpOp_of rfl (by rfl) ?_
      have z0 := (hP W hB.out).cell 0; have z1 := (hP W hB.out).cell 1; have z2 := (hP W hB.out).cell 2; have z3 := (hP W hB.out).cell 3; have z4 := (hP W hB.out).cell 4; have z5 := (hP W hB.out).cell 5; have z6 := (hP W hB.out).cell 6; have z7 := (hP W hB.out).cell 7; have z8 := (hP W hB.out).cell 8; have z9 := (hP W hB.out).cell 9; have z10 := (hP W hB.out).cell 10
      go_simp
      exact k_of (HK.out (.agg #[.slice p.ka p.s.ks.length p.kc, .slice p.xa p.s.xs.length p.xc, .int .i64 p.s.flo, .int .i64 p.s.fhi, .int .i64 p.s.plo, .int .i64 p.s.phi, .int .i64 c.wax, .int .i64 c.dia, .int .i64 c.dra, .int .i64 c.clo, .int .i64 c.chi]) _ rfl hB (Below.refl _ _)) (by kernel_rfl)
    · intro u W hB _ hd _ K hK
      have HK := Lib.hid hK; clear hK
      have e1 : u 1 = .agg #[.slice p.ka p.s.ks.length p.kc, .slice p.xa p.s.xs.length p.xc, .int .i64 p.s.flo, .int .i64 p.s.fhi, .int .i64 p.s.plo, .int .i64 p.s.phi, .int .i64 c.wax, .int .i64 c.dia, .int .i64 c.dra, .int .i64 c.clo, .int .i64 c.chi] := hd 1 (by decide +kernel)
      refine wpOp_of rfl (by rfl) ?_
      go_simp
      refine (mk1_any W p c).mono ?_
      rintro e w' ⟨Q, rfl, hq, hb⟩
      exact k_of (HK.out (.agg #[.int .i64 1, .func (.func 100) #[] #[.pointer (some ⟨Q, 0, none⟩)]]) _ ⟨Q, rfl, hq⟩ (hon _ _ hB.out hb) hb) (by rw [← u1_eq e1]; kernel_rfl)
    · intro u W hB _ hd _ K hK
      have HK := Lib.hid hK; clear hK
      refine wpOp_of rfl (by rfl) ?_
      have z0 := (hI W hB.out).cell 0
      go_simp
      exact k_of (HK.out (.int .i64 q) _ rfl hB (Below.refl _ _)) (by kernel_rfl)
    · intro u W hB _ hd _ K hK
      have HK := Lib.hid hK; clear hK
      refine wpOp_of rfl (by rfl) ?_
      go_simp
      exact k_of (HK.out (.pointer (some ⟨P, 6, none⟩)) _ rfl hB (Below.refl _ _)) (by kernel_rfl)
    · intro u W hB _ hd _ K hK
      have HK := Lib.hid hK; clear hK
      have e4 : u 4 = .pointer (some ⟨P, 6, none⟩) := hd 4 (by decide +kernel)
      refine wpOp_of rfl (by rfl) ?_
      go_simp
      exact k_of (HK.out (.pointer (some ⟨P, 7, none⟩)) _ rfl hB (Below.refl _ _)) (by rw [← u1_eq e4]; kernel_rfl)
    · intro u W hB _ hd _ K hK
      have HK := Lib.hid hK; clear hK
      have e5 : u 5 = .pointer (some ⟨P, 7, none⟩) := hd 5 (by decide +kernel)
      refine wpOp_of rfl (by rfl) ?_
      have z7 := (hP W hB.out).cell 7
      go_simp
      exact k_of (HK.out (.int .i64 c.dia) _ rfl hB (Below.refl _ _)) (by rw [← u1_eq e5]; kernel_rfl)
    · intro u W hB _ hd _ K hK
      have HK := Lib.hid hK; clear hK
      have e0 : u 0 = .agg #[.slice p.ka p.s.ks.length p.kc, .slice p.xa p.s.xs.length p.xc, .int .i64 p.s.flo, .int .i64 p.s.fhi, .int .i64 p.s.plo, .int .i64 p.s.phi, .int .i64 c.wax, .int .i64 c.dia, .int .i64 c.dra, .int .i64 c.clo, .int .i64 c.chi] := hd 0 (by decide +kernel)
      obtain ⟨Q_2, e2, f2_0⟩ : sznR P p c q z 2 (u 2) W := hd 2 (by decide +kernel)
      have e3 : u 3 = .int .i64 q := hd 3 (by decide +kernel)
      have e6 : u 6 = .int .i64 c.dia := hd 6 (by decide +kernel)
      refine wpOp_of rfl (by rfl) ?_
      go_simp
      refine (HC1.out W Q_2 hB.out f2_0).mono ?_
      rintro e w' ⟨rfl, hb⟩
      exact k_of (HK.out (.bool false) _ rfl (hon _ _ hB.out hb) hb) (by rw [← u1_eq e0, ← u1_eq e2, ← u1_eq e3, ← u1_eq e6]; kernel_rfl)
    · intro u W hB _ hd _ K hK
      have HK := Lib.hid hK; clear hK
      have e7 : u 7 = .bool false := hd 7 (by decide +kernel)
      refine wpOp_of rfl (by rfl) ?_
      go_simp
      exact k_of (HK.out (.bool false) _ rfl hB (Below.refl _ _)) (by rw [← u1_eq e7]; kernel_rfl)
    · intro u W hB _ hd _ K hK
      have HK := Lib.hid hK; clear hK
      have e8 : u 8 = .bool false := hd 8 (by decide +kernel)
      refine wpOp_of rfl (by rw [← u1_eq e8]; kernel_rfl) ?_
      have z0 := (hP W hB.out).cell 0; have z1 := (hP W hB.out).cell 1; have z2 := (hP W hB.out).cell 2; have z3 := (hP W hB.out).cell 3; have z4 := (hP W hB.out).cell 4; have z5 := (hP W hB.out).cell 5; have z6 := (hP W hB.out).cell 6; have z7 := (hP W hB.out).cell 7; have z8 := (hP W hB.out).cell 8; have z9 := (hP W hB.out).cell 9; have z10 := (hP W hB.out).cell 10
      go_simp
      exact k_of (HK.out (.agg #[.slice p.ka p.s.ks.length p.kc, .slice p.xa p.s.xs.length p.xc, .int .i64 p.s.flo, .int .i64 p.s.fhi, .int .i64 p.s.plo, .int .i64 p.s.phi, .int .i64 c.wax, .int .i64 c.dia, .int .i64 c.dra, .int .i64 c.clo, .int .i64 c.chi]) _ rfl hB (Below.refl _ _)) (by rw [← u1_eq e8]; kernel_rfl)
    · intro u W hB _ hd _ K hK
      have HK := Lib.hid hK; clear hK
      have e8 : u 8 = .bool false := hd 8 (by decide +kernel)
      refine wpOp_of rfl (by rw [← u1_eq e8]; kernel_rfl) ?_
      have z0 := (hP W hB.out).cell 0; have z1 := (hP W hB.out).cell 1; have z2 := (hP W hB.out).cell 2; have z3 := (hP W hB.out).cell 3; have z4 := (hP W hB.out).cell 4; have z5 := (hP W hB.out).cell 5; have z6 := (hP W hB.out).cell 6; have z7 := (hP W hB.out).cell 7; have z8 := (hP W hB.out).cell 8; have z9 := (hP W hB.out).cell 9; have z10 := (hP W hB.out).cell 10
      go_simp
      exact k_of (HK.out (.agg #[.slice p.ka p.s.ks.length p.kc, .slice p.xa p.s.xs.length p.xc, .int .i64 p.s.flo, .int .i64 p.s.fhi, .int .i64 p.s.plo, .int .i64 p.s.phi, .int .i64 c.wax, .int .i64 c.dia, .int .i64 c.dra, .int .i64 c.clo, .int .i64 c.chi]) _ rfl hB (Below.refl _ _)) (by rw [← u1_eq e8]; kernel_rfl)
    · intro u W hB _ hd _ K hK
      have HK := Lib.hid hK; clear hK
      have e8 : u 8 = .bool false := hd 8 (by decide +kernel)
      have e10 : u 10 = .agg #[.slice p.ka p.s.ks.length p.kc, .slice p.xa p.s.xs.length p.xc, .int .i64 p.s.flo, .int .i64 p.s.fhi, .int .i64 p.s.plo, .int .i64 p.s.phi, .int .i64 c.wax, .int .i64 c.dia, .int .i64 c.dra, .int .i64 c.clo, .int .i64 c.chi] := hd 10 (by decide +kernel)
      refine wpOp_of rfl (by rw [← u1_eq e8]; kernel_rfl) ?_
      go_simp
      refine (mk2_any W p c).mono ?_
      rintro e w' ⟨Q, rfl, hq, hb⟩
      exact k_of (HK.out (.agg #[.int .i64 2, .func (.func 101) #[] #[.pointer (some ⟨Q, 0, none⟩)]]) _ ⟨Q, rfl, hq⟩ (hon _ _ hB.out hb) hb) (by rw [← u1_eq e8, ← u1_eq e10]; kernel_rfl)
    · intro u W hB _ hd _ K hK
      have HK := Lib.hid hK; clear hK
      have e8 : u 8 = .bool false := hd 8 (by decide +kernel)
      refine wpOp_of rfl (by rw [← u1_eq e8]; kernel_rfl) ?_
      have z0 := (hI W hB.out).cell 0
      go_simp
      exact k_of (HK.out (.int .i64 q) _ rfl hB (Below.refl _ _)) (by rw [← u1_eq e8]; kernel_rfl)
    · intro u W hB _ hd _ K hK
      have HK := Lib.hid hK; clear hK
      have e8 : u 8 = .bool false := hd 8 (by decide +kernel)
      refine wpOp_of rfl (by rw [← u1_eq e8]; kernel_rfl) ?_
      go_simp
      exact k_of (HK.out (.pointer (some ⟨P, 6, none⟩)) _ rfl hB (Below.refl _ _)) (by rw [← u1_eq e8]; kernel_rfl)
    · intro u W hB _ hd _ K hK
      have HK := Lib.hid hK; clear hK
      have e8 : u 8 = .bool false := hd 8 (by decide +kernel)
      have e13 : u 13 = .pointer (some ⟨P, 6, none⟩) := hd 13 (by decide +kernel)
      refine wpOp_of rfl (by rw [← u1_eq e8]; kernel_rfl) ?_
      go_simp
      exact k_of (HK.out (.pointer (some ⟨P, 7, none⟩)) _ rfl hB (Below.refl _ _)) (by rw [← u1_eq e8, ← u1_eq e13]; kernel_rfl)
    · intro u W hB _ hd _ K hK
      have HK := Lib.hid hK; clear hK
      have e8 : u 8 = .bool false := hd 8 (by decide +kernel)
      have e14 : u 14 = .pointer (some ⟨P, 7, none⟩) := hd 14 (by decide +kernel)
      refine wpOp_of rfl (by rw [← u1_eq e8]; kernel_rfl) ?_
      have z7 := (hP W hB.out).cell 7
      go_simp
      exact k_of (HK.out (.int .i64 c.dia) _ rfl hB (Below.refl _ _)) (by rw [← u1_eq e8, ← u1_eq e14]; kernel_rfl)
    · intro u W hB _ hd _ K hK
      have HK := Lib.hid hK; clear hK
      have e8 : u 8 = .bool false := hd 8 (by decide +kernel)
      have e9 : u 9 = .agg #[.slice p.ka p.s.ks.length p.kc, .slice p.xa p.s.xs.length p.xc, .int .i64 p.s.flo, .int .i64 p.s.fhi, .int .i64 p.s.plo, .int .i64 p.s.phi, .int .i64 c.wax, .int .i64 c.dia, .int .i64 c.dra, .int .i64 c.clo, .int .i64 c.chi] := hd 9 (by decide +kernel)
      obtain ⟨Q_11, e11, f11_0⟩ : sznR P p c q z 11 (u 11) W := hd 11 (by decide +kernel)
      have e12 : u 12 = .int .i64 q := hd 12 (by decide +kernel)
      have e15 : u 15 = .int .i64 c.dia := hd 15 (by decide +kernel)
      refine wpOp_of rfl (by rw [← u1_eq e8]; kernel_rfl) ?_
      go_simp
      refine (HC2.out W Q_11 hB.out f11_0).mono ?_
      rintro e w' ⟨rfl, hb⟩
      exact k_of (HK.out (.bool z) _ rfl (hon _ _ hB.out hb) hb) (by rw [← u1_eq e8, ← u1_eq e9, ← u1_eq e11, ← u1_eq e12, ← u1_eq e15]; kernel_rfl)
    · intro u W hB _ hd _ K hK
      have HK := Lib.hid hK; clear hK
      have e8 : u 8 = .bool false := hd 8 (by decide +kernel)
      have e16 : u 16 = .bool z := hd 16 (by decide +kernel)
      refine wpOp_of rfl (by rfl) ?_
      go_simp
      exact k_of (HK.out (.bool z) _ rfl hB (Below.refl _ _)) (by rw [← u1_eq e8, ← u1_eq e16]; kernel_rfl)
  · intro u W hB hd
    have e17 : u 17 = .bool z := hd 17 (by decide)
    exact k_of (HQ.out u W hB.out) (by simp only [e17])


set_option maxRecDepth 100000 in
theorem sizes1_any {w : World} {p : Sp} {c : Cd} {q d : Int} {k : Wk} {x : Wx} {V I : Nat} (h : ShIn w p) (ha : Ask p.s q c k x) (hV : Blk w V 93 #[.slice p.ka p.s.ks.length p.kc, .slice p.xa p.s.xs.length p.xc, .int .i64 p.s.flo, .int .i64 p.s.fhi, .int .i64 p.s.plo, .int .i64 p.s.phi, .int .i64 c.wax, .int .i64 c.dia, .int .i64 c.dra, .int .i64 c.clo, .int .i64 c.chi]) (hI : Blk w I 3 #[.int .i64 q]) (hd : 1 ≤ d ∧ d ≤ 2000) :
    Calls Try.prog 92 #[.int .i64 d, .pointer (some ⟨V, 0, none⟩), .pointer (some ⟨I, 0, none⟩)] w fun e w' => e = .returned (.bool (!canF p.s 4 k x c d)) ∧ Below w.heap.size w w' := by
  have H1 := Lib.hid hV
  have H2 := Lib.hid hI
  have HC : Hid (∀ (W : World) (Q : Nat), ((Blk W V 93 #[.slice p.ka p.s.ks.length p.kc, .slice p.xa p.s.xs.length p.xc, .int .i64 p.s.flo, .int .i64 p.s.fhi, .int .i64 p.s.plo, .int .i64 p.s.phi, .int .i64 c.wax, .int .i64 c.dia, .int .i64 c.dra, .int .i64 c.clo, .int .i64 c.chi] ∧ Blk W I 3 #[.int .i64 q]) ∧ Below w.heap.size w W) → Blk W Q 93 #[.slice p.ka p.s.ks.length p.kc, .slice p.xa p.s.xs.length p.xc, .int .i64 p.s.flo, .int .i64 p.s.fhi, .int .i64 p.s.plo, .int .i64 p.s.phi, .int .i64 c.wax, .int .i64 c.dia, .int .i64 c.dra, .int .i64 c.clo, .int .i64 c.chi] → _) := Lib.hid fun W Q hS hQ => can_any (n := 4) (P := Q) (d := d) (by simp) (h.on hS.2) ha hQ hd
  clear h ha hV hI
  generalize canF p.s 4 k x c d = z at *
  go_enter Try.func92, Try.ntmps92
  go_wp2_with fail
  refine wp_of_eq (sz1_region (S := fun W => (Blk W V 93 #[.slice p.ka p.s.ks.length p.kc, .slice p.xa p.s.xs.length p.xc, .int .i64 p.s.flo, .int .i64 p.s.fhi, .int .i64 p.s.plo, .int .i64 p.s.phi, .int .i64 c.wax, .int .i64 c.dia, .int .i64 c.dra, .int .i64 c.clo, .int .i64 c.chi] ∧ Blk W I 3 #[.int .i64 q]) ∧ Below w.heap.size w W) (fun _ _ h hb => ⟨⟨h.1.1.on hb, h.1.2.on hb⟩, h.2.trans (hb.mono h.2.size)⟩) (V := V) (I := I) (p := p) (c := c) (q := q) (d := d) (z := z) (fun W h => h.1.1) (fun W h => h.1.2) HC (Lib.hid ⟨⟨H1.out, H2.out⟩, Below.refl _ _⟩) (Lib.hid fun u W hS => ?_)) (by kernel_rfl)
  have HF := Lib.hid hS.2
  clear hS
  go_wp2_with fail
  go_ret
  exact ⟨rfl, HF.out⟩


set_option maxRecDepth 100000 in
theorem sizes2_any {w : World} {p : Sp} {c : Cd} {q d : Int} {k : Wk} {x : Wx} {V I : Nat} (h : ShIn w p) (ha : Ask p.s q c k x) (hV : Blk w V 93 #[.slice p.ka p.s.ks.length p.kc, .slice p.xa p.s.xs.length p.xc, .int .i64 p.s.flo, .int .i64 p.s.fhi, .int .i64 p.s.plo, .int .i64 p.s.phi, .int .i64 c.wax, .int .i64 c.dia, .int .i64 c.dra, .int .i64 c.clo, .int .i64 c.chi]) (hI : Blk w I 3 #[.int .i64 q]) (hd : 1 ≤ d ∧ d ≤ 2000) :
    Calls Try.prog 93 #[.int .i64 d, .pointer (some ⟨V, 0, none⟩), .pointer (some ⟨I, 0, none⟩)] w fun e w' => e = .returned (.bool (canF p.s 3 k x c d)) ∧ Below w.heap.size w w' := by
  have H1 := Lib.hid hV
  have H2 := Lib.hid hI
  have HC : Hid (∀ (W : World) (Q : Nat), ((Blk W V 93 #[.slice p.ka p.s.ks.length p.kc, .slice p.xa p.s.xs.length p.xc, .int .i64 p.s.flo, .int .i64 p.s.fhi, .int .i64 p.s.plo, .int .i64 p.s.phi, .int .i64 c.wax, .int .i64 c.dia, .int .i64 c.dra, .int .i64 c.clo, .int .i64 c.chi] ∧ Blk W I 3 #[.int .i64 q]) ∧ Below w.heap.size w W) → Blk W Q 93 #[.slice p.ka p.s.ks.length p.kc, .slice p.xa p.s.xs.length p.xc, .int .i64 p.s.flo, .int .i64 p.s.fhi, .int .i64 p.s.plo, .int .i64 p.s.phi, .int .i64 c.wax, .int .i64 c.dia, .int .i64 c.dra, .int .i64 c.clo, .int .i64 c.chi] → _) := Lib.hid fun W Q hS hQ => can_any (n := 3) (P := Q) (d := d) (by simp) (h.on hS.2) ha hQ hd
  clear h ha hV hI
  generalize canF p.s 3 k x c d = z at *
  go_enter Try.func93, Try.ntmps93
  go_wp2_with fail
  refine wp_of_eq (sz2_region (S := fun W => (Blk W V 93 #[.slice p.ka p.s.ks.length p.kc, .slice p.xa p.s.xs.length p.xc, .int .i64 p.s.flo, .int .i64 p.s.fhi, .int .i64 p.s.plo, .int .i64 p.s.phi, .int .i64 c.wax, .int .i64 c.dia, .int .i64 c.dra, .int .i64 c.clo, .int .i64 c.chi] ∧ Blk W I 3 #[.int .i64 q]) ∧ Below w.heap.size w W) (fun _ _ h hb => ⟨⟨h.1.1.on hb, h.1.2.on hb⟩, h.2.trans (hb.mono h.2.size)⟩) (V := V) (I := I) (p := p) (c := c) (q := q) (d := d) (z := z) (fun W h => h.1.1) (fun W h => h.1.2) HC (Lib.hid ⟨⟨H1.out, H2.out⟩, Below.refl _ _⟩) (Lib.hid fun u W hS => ?_)) (by kernel_rfl)
  have HF := Lib.hid hS.2
  clear hS
  go_wp2_with fail
  go_ret
  exact ⟨rfl, HF.out⟩
end Go.Proofs.Ytkjfommdeljefaa
