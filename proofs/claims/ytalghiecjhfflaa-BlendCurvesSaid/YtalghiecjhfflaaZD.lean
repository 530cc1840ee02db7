/- ref02.Check: words, a region. -/
import Derived.Test.YtalghiecjhfflaaZC
import Derived.Test.YtalghiecjhfflaaGc
namespace Go.Proofs.Ytalghiecjhfflaa
open Go.RowKit Go.Shelf Go.Maps
attribute [local go_sem] Oper.semAt_some

theorem und_strs : Try.prog.underlying 90 = some (.slice 9) := by kernel_rfl
theorem infoStr : (Try.prog.info? 9).map (fun i => (i.zero, i.size, i.bytes)) = some (some (.string ⟨#[]⟩), 1, 16) := by kernel_rfl
def StrsOut (B : Nat) (w' : World) (v : Value) (l : List ByteArray) : Prop := w'.ownsRow B 9 1 v l.length (l.map Value.string)
theorem StrsOut.reads {B n c : Nat} {w : World} {A : Option Addr} {l : List ByteArray} (h : StrsOut B w (.slice A n c) l) : n = l.length ∧ StrsAt w w.heap.size A l ∧ l.length ≤ c ∧ l.length ≤ maxLen :=
  own_rowAt (enc := encB) h (fun i x hi j hj => by
    obtain rfl : j = 0 := by omega
    rw [Nat.mul_one, Nat.add_zero, List.getElem?_map, hi]; rfl)
theorem news_str {w : World} {g0 : Nat} {z : ByteArray} (hc : Blk w g0 9 #[.string z]) : ∀ j u, ([Value.string z] : List Value)[j]? = some u → w.cell? ((⟨g0, 0, none⟩ : Addr).add j) = some u := by
  intro j u hj
  match j, hj with
  | 0, hj => simp at hj; subst hj; have h := hc.cell 0; simpa [Addr.add] using h
section
variable {ops : Array Oper} {rest : List Oper} {o : Oper} {a : Act} {w : World} {Q : Exit → Act → World → Prop} {B g0 : Nat} {v : Value}
theorem app_strs (hgd : o.guard = none) (s x : Operand) (ho : o.op = .call { callee := .builtin .append, args := #[s, x], argTypes := #[90, 90] })
    {l : List ByteArray} (hs : a.eval s = v) (hown : StrsOut B w v l) (z : ByteArray) (hx : a.eval x = .slice (some ⟨g0, 0, none⟩) 1 1) (hc : Blk w g0 9 #[.string z]) (hl : l.length < 1000000) (hB : B ≤ w.heap.size)
    (h : ∀ g cap w', StrsOut B w' (.slice (some ⟨g, 0, none⟩) (l.length + 1) cap) (l ++ [z]) → Below B w w' → w.grownBy w' v.ownBlock → wpList Try.prog ops Q rest (a.put o.dst (.slice (some ⟨g, 0, none⟩) (l.length + 1) cap)) w') : wpList Try.prog ops Q (o :: rest) a w := by
  obtain ⟨i0, hi0, hz0, hz1, hz2⟩ := info_parts infoStr
  refine wpList_append_lies w hgd s x 90 ho B 9 i0 (.string ⟨#[]⟩) 1 16 und_strs hi0 hz0 hz1 hz2 rfl (by decide) v l.length (l.map Value.string) hs hown ⟨g0, 0, none⟩ 1 1 [.string z] hx rfl (news_str hc) (by simp [Value.oneCell']) (by decide) (by unfold maxLen; omega) (by omega) hB _ rfl ?_
  intro g cap w' h1 h2 h3 _
  exact h g cap w' (by unfold StrsOut; simpa using h1) (own_low hown h2 hB) h2
end

theorem map_take_one {α β : Type} (f : α → β) {l : List α} {k : Nat} {x : α} (h : l[k]? = some x) : (l.take (k + 1)).map f = (l.take k).map f ++ [f x] := by
  rw [List.take_add_one, h]; simp


/-- Between two rounds of ref.Check. -/
structure CkN (w wr : World) (v : Value) (l : List ByteArray) : Prop where
  own : StrsOut w.heap.size wr v l
  bel : Below w.heap.size w wr
theorem CkN.on {w wr wr' : World} {v : Value} {l : List ByteArray} (h : CkN w wr v l) (hb : Below wr.heap.size wr wr') : CkN w wr' v l :=
  ⟨own_below h.own hb, h.bel.trans (hb.mono h.bel.size)⟩
/-- The error of a wax, as the reference finds it. -/
def wxErr (x : Bw) : Int := sp2E (spanErr (x.mlo, x.mhi) 0 2000) (spanErr (x.slo, x.shi) 0 1000)
theorem wxErr_in (x : Bw) : wxErr x = 0 ∨ wxErr x = 2 ∨ wxErr x = 7 := by
  unfold wxErr
  rcases spanErr_in (x.mlo, x.mhi) 0 2000 with h | h | h <;> rcases spanErr_in (x.slo, x.shi) 0 1000 with g | g | g <;> rw [h, g] <;> decide
theorem bwE_at {l : List Bw} {k : Nat} {x : Bw} (h : l[k]? = some x) : bwE l k = if nameErr ((l.take k).map Bw.nm) x.nm ≠ 0 then nameErr ((l.take k).map Bw.nm) x.nm else if inB x.pr 0 100000 = false then 7 else if wxErr x ≠ 0 then wxErr x else cvE x.cv := by
  unfold bwE wxErr cvE
  rw [h]
  simp only [rangeE_cons, spanErr]
  generalize nameErr ((l.take k).map Bw.nm) x.nm = z
  by_cases h0 : z = 0
  · subst h0
    cases inB x.pr 0 100000 <;> cases inB x.mlo 0 2000 <;> cases inB x.mhi 0 2000 <;> cases inB x.slo 0 1000 <;> cases inB x.shi 0 1000 <;> by_cases h1 : x.mhi < x.mlo <;> by_cases h2 : x.shi < x.slo <;> simp [rangeE, sp2E, h1, h2]
  · simp [h0]
theorem wax_at {w : World} {A : Option Addr} {l : List Bw} {b o k : Nat} {x : Bw} (h : BwsIn w A l) (hA : A = some ⟨b, o, none⟩) (hx : l[k]? = some x) : w.cell? ⟨b, o + k * 7, none⟩ = some (.string x.nm) ∧ w.cell? ⟨b, o + k * 7 + 1, none⟩ = some (.int .i64 x.pr) ∧ w.cell? ⟨b, o + k * 7 + 2, none⟩ = some (.int .i64 x.mlo) ∧ w.cell? ⟨b, o + k * 7 + 3, none⟩ = some (.int .i64 x.mhi) ∧ w.cell? ⟨b, o + k * 7 + 4, none⟩ = some (.int .i64 x.slo) ∧ w.cell? ⟨b, o + k * 7 + 5, none⟩ = some (.int .i64 x.shi) ∧ w.cell? ⟨b, o + k * 7 + 6, none⟩ = some (.slice x.ca x.cv.length x.cc) := by
  obtain ⟨b1, o1, e, _, d⟩ := h.get hx
  rw [hA] at e
  cases e
  exact d

/-- What each operation leaves. -/
def rk12R (n c k b o : Nat) (x1 x2 x3 x4 e0 : Int) : Nat → Value → World → Prop
  | 0, v, _ => v = .slice (some ⟨b, o, none⟩) n c
  | 1, v, _ => v = .int .i64 (k : Int)
  | 2, v, _ => v = .pointer (some ⟨b, o + k * 7, none⟩)
  | 3, v, _ => v = .pointer (some ⟨b, o + k * 7 + 2, none⟩)
  | 4, v, _ => v = .agg #[.int .i64 x1, .int .i64 x2]
  | 5, v, _ => v = .slice (some ⟨b, o, none⟩) n c
  | 6, v, _ => v = .int .i64 (k : Int)
  | 7, v, _ => v = .pointer (some ⟨b, o + k * 7, none⟩)
  | 8, v, _ => v = .pointer (some ⟨b, o + k * 7 + 4, none⟩)
  | 9, v, _ => v = .agg #[.int .i64 x3, .int .i64 x4]
  | 10, v, _ => v = .int .i64 e0
  | 11, v, _ => v = .int .i64 e0
  | _, _, _ => True
theorem rk12R_on (n c k b o : Nat) (x1 x2 x3 x4 e0 : Int) : ∀ i, i < 12 → ∀ v W W', rk12R n c k b o x1 x2 x3 x4 e0 i v W → Below W.heap.size W W' → rk12R n c k b o x1 x2 x3 x4 e0 i v W' := by
  iterate 12 (refine all_succ ?_ ?_)
  · exact all_zero
  · exact fun _ _ _ h _ => h
  · exact fun _ _ _ h _ => h
  · exact fun _ _ _ h _ => h
  · exact fun _ _ _ h _ => h
  · exact fun _ _ _ h _ => h
  · exact fun _ _ _ h _ => h
  · exact fun _ _ _ h _ => h
  · exact fun _ _ _ h _ => h
  · exact fun _ _ _ h _ => h
  · exact fun _ _ _ h _ => h
  · exact fun _ _ _ h _ => h
  · exact fun _ _ _ h _ => h
set_option maxRecDepth 100000 in
set_option maxHeartbeats 8000000 in
theorem rk12_region {S : World → Prop} (hon : ∀ W W', S W → Below W.heap.size W W' → S W') {n c k b o : Nat} {x1 x2 x3 x4 e0 : Int} (hkm : (k : Int) < n) (hc : ∀ W, S W → W.cell? ⟨b, o + k * 7 + 2, none⟩ = some (.int .i64 x1) ∧ W.cell? ⟨b, o + k * 7 + 3, none⟩ = some (.int .i64 x2) ∧ W.cell? ⟨b, o + k * 7 + 4, none⟩ = some (.int .i64 x3) ∧ W.cell? ⟨b, o + k * 7 + 5, none⟩ = some (.int .i64 x4)) (HC : Hid (∀ W, Calls Try.prog 52 #[.agg #[.int .i64 x1, .int .i64 x2], .agg #[.int .i64 x3, .int .i64 x4]] W fun e w' => e = .returned (.int .i64 e0) ∧ Below W.heap.size W w')) {Q : Exit → Act → World → Prop} {s1 s2 s3 s4 s5 s8 s9 s10 s11 s12 s13 s14 s15 s16 s17 s18 s19 s20 s21 s22 s23 s24 s25 s26 s27 s28 s29 s30 s31 s32 s33 s34 s35 s36 s37 s38 s39 s40 s41 s42 s43 s44 s45 s57 s58 s59 s60 s61 s62 s63 s64 s65 s66 s67 s68 s7 s46 s47 s48 s49 s50 s51 s52 s53 s54 s55 s56 : Value} {W0 : World} (HL : Hid (S W0))
    (HQ : Hid (∀ (u : Nat → Value) (W : World), S W → Q .normal ⟨#[.slice (some ⟨b, o, none⟩) n c, s1, s2, s3, s4, s5, .int .i64 (k : Int), .int .i64 e0, s8, s9, s10, s11, s12, s13, s14, s15, s16, s17, s18, s19, s20, s21, s22, s23, s24, s25, s26, s27, s28, s29, s30, s31, s32, s33, s34, s35, s36, s37, s38, s39, s40, s41, s42, s43, s44, s45, u 0, u 1, u 2, u 3, u 4, u 5, u 6, u 7, u 8, u 9, u 10, s57, s58, s59, s60, s61, s62, s63, s64, s65, s66, s67, s68], []⟩ W)) :
    Code.wp Try.prog ((Try.f16.body.bind (regionAt 12)).getD .skip) Q ⟨#[.slice (some ⟨b, o, none⟩) n c, s1, s2, s3, s4, s5, .int .i64 (k : Int), s7, s8, s9, s10, s11, s12, s13, s14, s15, s16, s17, s18, s19, s20, s21, s22, s23, s24, s25, s26, s27, s28, s29, s30, s31, s32, s33, s34, s35, s36, s37, s38, s39, s40, s41, s42, s43, s44, s45, s46, s47, s48, s49, s50, s51, s52, s53, s54, s55, s56, s57, s58, s59, s60, s61, s62, s63, s64, s65, s66, s67, s68], []⟩ W0 := by
  conv => arg 2; whnf
  refine wp_region_spec (by kernel_rfl) 12 (by kernel_rfl) (fun u => ⟨#[.slice (some ⟨b, o, none⟩) n c, s1, s2, s3, s4, s5, .int .i64 (k : Int), u 11, s8, s9, s10, s11, s12, s13, s14, s15, s16, s17, s18, s19, s20, s21, s22, s23, s24, s25, s26, s27, s28, s29, s30, s31, s32, s33, s34, s35, s36, s37, s38, s39, s40, s41, s42, s43, s44, s45, u 0, u 1, u 2, u 3, u 4, u 5, u 6, u 7, u 8, u 9, u 10, s57, s58, s59, s60, s61, s62, s63, s64, s65, s66, s67, s68], []⟩) (fun i => if i = 0 then s46 else if i = 1 then s47 else if i = 2 then s48 else if i = 3 then s49 else if i = 4 then s50 else if i = 5 then s51 else if i = 6 then s52 else if i = 7 then s53 else if i = 8 then s54 else if i = 9 then s55 else if i = 10 then s56 else if i = 11 then s7 else undef) (fun W => Hid (S W)) (rk12R n c k b o x1 x2 x3 x4 e0) (by kernel_rfl) (hon _ _ HL.out (Below.refl _ _).drew) (fun i v W W2 hi h hb => rk12R_on n c k b o x1 x2 x3 x4 e0 i hi v W W2 h hb) (by decide +kernel) ?_ ?_
  · iterate 12 (refine all_succ ?_ ?_)
    · exact all_zero
    · intro u W hB _ hd _ K hK
      have HK := Lib.hid hK; clear hK
      refine wpOp_of rfl (by rfl) ?_
      go_simp
      exact k_of (HK.out (.slice (some ⟨b, o, none⟩) n c) _ rfl hB (Below.refl _ _)) (by kernel_rfl)
    · intro u W hB _ hd _ K hK
      have HK := Lib.hid hK; clear hK
      refine wpOp_of rfl (by rfl) ?_
      go_simp
      exact k_of (HK.out (.int .i64 (k : Int)) _ rfl hB (Below.refl _ _)) (by kernel_rfl)
    · intro u W hB _ hd _ K hK
      have HK := Lib.hid hK; clear hK
      have e0 : u 0 = .slice (some ⟨b, o, none⟩) n c := hd 0 (by decide +kernel)
      have e1 : u 1 = .int .i64 (k : Int) := hd 1 (by decide +kernel)
      refine wpOp_of rfl (by rfl) ?_
      go_simp
      exact k_of (HK.out (.pointer (some ⟨b, o + k * 7, none⟩)) _ rfl hB (Below.refl _ _)) (by rw [← u1_eq e0, ← u1_eq e1]; kernel_rfl)
    · intro u W hB _ hd _ K hK
      have HK := Lib.hid hK; clear hK
      have e2 : u 2 = .pointer (some ⟨b, o + k * 7, none⟩) := hd 2 (by decide +kernel)
      refine wpOp_of rfl (by rfl) ?_
      go_simp
      exact k_of (HK.out (.pointer (some ⟨b, o + k * 7 + 2, none⟩)) _ rfl hB (Below.refl _ _)) (by rw [← u1_eq e2]; kernel_rfl)
    · intro u W hB _ hd _ K hK
      have HK := Lib.hid hK; clear hK
      have e3 : u 3 = .pointer (some ⟨b, o + k * 7 + 2, none⟩) := hd 3 (by decide +kernel)
      refine wpOp_of rfl (by rfl) ?_
      obtain ⟨z1, z2, _, _⟩ := hc W hB.out
      go_simp
      exact k_of (HK.out (.agg #[.int .i64 x1, .int .i64 x2]) _ rfl hB (Below.refl _ _)) (by rw [← u1_eq e3]; kernel_rfl)
    · intro u W hB _ hd _ K hK
      have HK := Lib.hid hK; clear hK
      refine wpOp_of rfl (by rfl) ?_
      go_simp
      exact k_of (HK.out (.slice (some ⟨b, o, none⟩) n c) _ rfl hB (Below.refl _ _)) (by kernel_rfl)
    · intro u W hB _ hd _ K hK
      have HK := Lib.hid hK; clear hK
      refine wpOp_of rfl (by rfl) ?_
      go_simp
      exact k_of (HK.out (.int .i64 (k : Int)) _ rfl hB (Below.refl _ _)) (by kernel_rfl)
    · intro u W hB _ hd _ K hK
      have HK := Lib.hid hK; clear hK
      have e5 : u 5 = .slice (some ⟨b, o, none⟩) n c := hd 5 (by decide +kernel)
      have e6 : u 6 = .int .i64 (k : Int) := hd 6 (by decide +kernel)
      refine wpOp_of rfl (by rfl) ?_
      go_simp
      exact k_of (HK.out (.pointer (some ⟨b, o + k * 7, none⟩)) _ rfl hB (Below.refl _ _)) (by rw [← u1_eq e5, ← u1_eq e6]; kernel_rfl)
    · intro u W hB _ hd _ K hK
      have HK := Lib.hid hK; clear hK
      have e7 : u 7 = .pointer (some ⟨b, o + k * 7, none⟩) := hd 7 (by decide +kernel)
      refine wpOp_of rfl (by rfl) ?_
      go_simp
      exact k_of (HK.out (.pointer (some ⟨b, o + k * 7 + 4, none⟩)) _ rfl hB (Below.refl _ _)) (by rw [← u1_eq e7]; kernel_rfl)
    · intro u W hB _ hd _ K hK
      have HK := Lib.hid hK; clear hK
      have e8 : u 8 = .pointer (some ⟨b, o + k * 7 + 4, none⟩) := hd 8 (by decide +kernel)
      refine wpOp_of rfl (by rfl) ?_
      obtain ⟨_, _, z1, z2⟩ := hc W hB.out
      go_simp
      exact k_of (HK.out (.agg #[.int .i64 x3, .int .i64 x4]) _ rfl hB (Below.refl _ _)) (by rw [← u1_eq e8]; kernel_rfl)
    · intro u W hB _ hd _ K hK
      have HK := Lib.hid hK; clear hK
      have e4 : u 4 = .agg #[.int .i64 x1, .int .i64 x2] := hd 4 (by decide +kernel)
      have e9 : u 9 = .agg #[.int .i64 x3, .int .i64 x4] := hd 9 (by decide +kernel)
      refine wpOp_of rfl (by rfl) ?_
      go_simp
      refine (HC.out W).mono ?_
      rintro e w' ⟨rfl, hb⟩
      exact k_of (HK.out (.int .i64 e0) _ rfl (hon _ _ hB.out hb) hb) (by rw [← u1_eq e4, ← u1_eq e9]; kernel_rfl)
    · intro u W hB _ hd _ K hK
      have HK := Lib.hid hK; clear hK
      have e10 : u 10 = .int .i64 e0 := hd 10 (by decide +kernel)
      refine wpOp_of rfl (by rfl) ?_
      go_simp
      exact k_of (HK.out (.int .i64 e0) _ rfl hB (Below.refl _ _)) (by rw [← u1_eq e10]; kernel_rfl)
  · intro u W hB hd
    have e11 : u 11 = .int .i64 e0 := hd 11 (by decide)
    exact k_of (HQ.out u W hB.out) (by simp only [e11])
end Go.Proofs.Ytalghiecjhfflaa
