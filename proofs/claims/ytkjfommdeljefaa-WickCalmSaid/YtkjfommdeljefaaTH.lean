/- WickCalm: the mathematics, the law's regions that draw; appends of whole lists. -/
import Derived.Test.YtkjfommdeljefaaTA
import Derived.Test.YtkjfommdeljefaaT7
import Derived.Test.YtkjfommdeljefaaT1
import Derived.Deep.Upon
namespace Go.Proofs.Ytkjfommdeljefaa
open Go.RowKit Go.Shelf Go.Maps
attribute [local go_sem] Oper.semAt_some


/-- A calmer candle, a wider shop. -/
def calmV (c : Cd) (n0 n1 n2 : Int) : Cd := ⟨c.wax, c.dia, amV 0 c.dra n0, amV c.clo c.chi n1, amV (amV c.clo c.chi n1) c.chi n2⟩
def wideV (s : Sh) (n0 n1 n2 n3 : Int) : Sh := ⟨s.ks, s.xs, max 0 (s.flo - n0), min 2000 (s.fhi + n1), max 0 (s.plo - n2), min 2000 (s.phi + n3)⟩
section
variable {s : Sh} {k : Wk} {x : Wx} {c : Cd} {n0 n1 n2 n3 : Int}
theorem calm_in (hd : 0 ≤ c.dra) (hc : c.clo ≤ c.chi) : (0 ≤ (calmV c n0 n1 n2).dra ∧ (calmV c n0 n1 n2).dra ≤ c.dra) ∧ (c.clo ≤ (calmV c n0 n1 n2).clo ∧ (calmV c n0 n1 n2).clo ≤ c.chi) ∧ ((calmV c n0 n1 n2).clo ≤ (calmV c n0 n1 n2).chi ∧ (calmV c n0 n1 n2).chi ≤ c.chi) := by
  have a := amV_rng (lo := 0) (hi := c.dra) (z := n0) hd
  have b := amV_rng (lo := c.clo) (hi := c.chi) (z := n1) hc
  have d := amV_rng (lo := amV c.clo c.chi n1) (hi := c.chi) (z := n2) b.2
  exact ⟨a, b, d⟩
theorem calm_cd (h : CdOk s c) : CdOk s (calmV c n0 n1 n2) := by
  have a := calm_in (n0 := n0) (n1 := n1) (n2 := n2) h.dra.1 h.cold.2.1
  have b := h.dra; have d := h.cold
  exact ⟨h.wax, h.dia, by omega, by omega⟩
theorem calm_tu {t : Tu} (h : CdOk s c) (ht : TuOk k x (calmV c n0 n1 n2) t) : TuOk k x c t := by
  have a := calm_in (n0 := n0) (n1 := n1) (n2 := n2) h.dra.1 h.cold.2.1
  have b := ht.dra; have d := ht.cold
  exact ⟨ht.pull, ht.flow, ht.rise, ht.spr, by omega, by omega⟩
theorem calm_sub {n : Int} (ko : WkOk k) (xo : WxOk x) (cd : CdOk s c) (h : n ∈ faultsL s k x (calmV c n0 n1 n2)) : n ∈ faultsL s k x c := by
  rcases faults_mem.1 h with h | h
  · exact faults_sub ko xo cd (calm_tu cd (weak_ok ko xo (calm_cd cd))) h
  · exact faults_sub ko xo cd (calm_tu cd (strong_ok ko xo (calm_cd cd))) h
theorem wide_isF {n : Int} {b : Bn} {d : Int} (hs : ShOk s) (hd : 0 ≤ d) (hn : 0 ≤ n0 ∧ 0 ≤ n1 ∧ 0 ≤ n2 ∧ 0 ≤ n3) (h : isF (wideV s n0 n1 n2 n3) n b d = true) : isF s n b d = true := by
  have hf := hs.fl; have hp := hs.po
  have e1 : max 0 (s.plo - n2) * d ≤ s.plo * d := Int.mul_le_mul_of_nonneg_right (by omega) hd
  have e2 : s.phi * d ≤ min 2000 (s.phi + n3) * d := Int.mul_le_mul_of_nonneg_right (by omega) hd
  unfold isF at *
  split at h
  · rename_i e; rw [if_pos e]; have h5 := of_decide_eq_true h; apply decide_eq_true; simp only [wideV] at h5; omega
  · rename_i e
    rw [if_neg e]
    split at h
    · rename_i e3; rw [if_pos e3]; have h5 := of_decide_eq_true h; apply decide_eq_true; simp only [wideV] at h5; omega
    · rename_i e3
      rw [if_neg e3]
      split at h
      · rename_i e4; rw [if_pos e4]; have h5 := of_decide_eq_true h; apply decide_eq_true; simp only [wideV] at h5; omega
      · rename_i e4; rw [if_neg e4]; have h5 := of_decide_eq_true h; apply decide_eq_true; simp only [wideV] at h5; omega
theorem wide_sub {n : Int} (hs : ShOk s) (hd : 0 ≤ c.dia) (hn : 0 ≤ n0 ∧ 0 ≤ n1 ∧ 0 ≤ n2 ∧ 0 ≤ n3) (h : n ∈ faultsL (wideV s n0 n1 n2 n3) k x c) : n ∈ faultsL s k x c := by
  unfold faultsL at *
  rw [List.mem_filter] at *
  refine ⟨h.1, ?_⟩
  have h2 := h.2
  unfold canF at *
  rw [Bool.or_eq_true] at *
  rcases h2 with h2 | h2
  · exact .inl (wide_isF hs hd hn h2)
  · exact .inr (wide_isF hs hd hn h2)
theorem wide_shop (h : shopE s = 0) (hn : 0 ≤ n0 ∧ 0 ≤ n1 ∧ 0 ≤ n2 ∧ 0 ≤ n3) : shopE (wideV s n0 n1 n2 n3) = 0 := by
  have hs := shopE_ok h
  have hf := hs.fl; have hp := hs.po; have hk := hs.nk; have hx := hs.nx
  have hb : boundE (wideV s n0 n1 n2 n3) = 0 := by
    unfold boundE
    rw [if_pos ⟨inB_t (by show (1 : Int) ≤ (s.ks.length : Int); omega) (by show (s.ks.length : Int) ≤ 12; omega), inB_t (by show (1 : Int) ≤ (s.xs.length : Int); omega) (by show (s.xs.length : Int) ≤ 6; omega)⟩, orE_zero]
    simp only [List.mem_cons, List.not_mem_nil, or_false, forall_eq_or_imp, forall_eq, rangeE_zero, orderE_zero, wideV]
    omega
  have h2 := h
  unfold shopE checkS checkOf at h h2 ⊢
  rw [if_neg (by simpa using hb)]
  by_cases hz : boundE s = 0
  · rw [if_neg (by simpa using hz)] at h
    exact h
  · rw [if_pos hz] at h
    exact absurd h hz
theorem wide_ok (hs : shopE s = 0) (hn : 0 ≤ n0 ∧ 0 ≤ n1 ∧ 0 ≤ n2 ∧ 0 ≤ n3) {q : Int} (ha : Ask s q c k x) : Ask (wideV s n0 n1 n2 n3) q c k x :=
  ⟨shopE_ok (wide_shop hs hn), ha.h0, ha.hk, ha.hx, ⟨ha.cd.wax, ha.cd.dia, ha.cd.dra, ha.cd.cold⟩⟩
theorem calm_min {g : Int} (hg : 0 ≤ g) (ko : WkOk k) (xo : WxOk x) (cd : CdOk s c) : (minV g (burn x (weakT k x c)) (burn x (strongT k x c))).1 ≤ (minV g (burn x (weakT k x (calmV c n0 n1 n2))) (burn x (strongT k x (calmV c n0 n1 n2)))).1 ∧ (minV g (burn x (weakT k x (calmV c n0 n1 n2))) (burn x (strongT k x (calmV c n0 n1 n2)))).2 ≤ (minV g (burn x (weakT k x c)) (burn x (strongT k x c))).2 := by
  have cc := calm_cd (n0 := n0) (n1 := n1) (n2 := n2) cd
  have wo := calm_tu cd (weak_ok ko xo cc)
  have so := calm_tu cd (strong_ok ko xo cc)
  have h1 := (burn_weak ko xo cd wo).1
  have h2 := (burn_strong ko xo cd so).1
  have r1 := (burn_in ((weak_ok ko xo cd).in_ ko xo cd) xo).rate
  have r2 := (burn_in ((strong_ok ko xo cc).in_ ko xo cc) xo).rate
  generalize burn x (weakT k x c) = a at *
  generalize burn x (strongT k x c) = b at *
  generalize burn x (weakT k x (calmV c n0 n1 n2)) = a' at *
  generalize burn x (strongT k x (calmV c n0 n1 n2)) = b' at *
  unfold minV
  simp only
  constructor
  · rw [Int.le_ediv_iff_mul_le (by omega)]
    have h3 := Int.ediv_mul_le (600000000 * g) (show b.rate ≠ 0 by omega)
    have h4 : 0 ≤ 600000000 * g / b.rate := Int.ediv_nonneg (by omega) (by omega)
    exact Int.le_trans (Int.mul_le_mul_of_nonneg_left h2 h4) h3
  · apply Int.le_of_lt_add_one
    rw [Int.ediv_lt_iff_lt_mul (by omega)]
    have h3 := Int.emod_add_mul_ediv (600000000 * g + a.rate - 1) a.rate
    have h4 := Int.emod_lt_of_pos (600000000 * g + a.rate - 1) (show 0 < a.rate by omega)
    have h5 : 0 ≤ (600000000 * g + a.rate - 1) / a.rate := Int.ediv_nonneg (by omega) (by omega)
    have h6 : a.rate * ((600000000 * g + a.rate - 1) / a.rate) ≤ a'.rate * ((600000000 * g + a.rate - 1) / a.rate) := Int.mul_le_mul_of_nonneg_right h1 h5
    rw [Int.add_mul, Int.mul_comm _ a'.rate]
    generalize (600000000 * g + a.rate - 1) / a.rate = z at *
    generalize a.rate * z = u at *
    generalize a'.rate * z = v at *
    omega
end
theorem Bx.tail {w W : World} {q : Nat × TypeId × Array Value} {l : List (Nat × TypeId × Array Value)} (h : Bx w (q :: l) W) : Bx w l W := ⟨h.b, fun r hr => h.at_ r (List.mem_cons_of_mem _ hr)⟩
/-- Two cells of a box are laid anew. -/
theorem Bx.lay2 {w W : World} {g : Nat} {T : TypeId} {cs : Array Value} {l : List (Nat × TypeId × Array Value)} (h : Bx w ((g, T, cs) :: l) W) (i j : Nat) (u v : Value) (hn : ∀ q ∈ l, q.1 ≠ g) :
    Bx w ((g, T, (cs.setIfInBounds i u).setIfInBounds j v) :: l) ((W.setCell ⟨g, i, none⟩ u).setCell ⟨g, j, none⟩ v) :=
  (h.tail.put (grown_more (grown_one W g i u) j v) (h.at_ _ List.mem_cons_self).1 hn).add ((((h.at_ _ List.mem_cons_self).2).set_ i u).set_ j v) (h.at_ _ List.mem_cons_self).1

/-- A new list without elements. -/
theorem own_empty (w : World) (B : Nat) (hB : B ≤ w.heap.size) : IntsOut B (w.alloc (.cells #[] 3)) (.slice (some ⟨w.heap.size, 0, none⟩) 0 0) [] := by
  refine ⟨rfl, .inr ⟨w.heap.size, 0, _, rfl, hB, heap_alloc_new w _, ?_⟩⟩
  exact ⟨Nat.le_refl _, Nat.zero_le _, rfl, rfl⟩
section
variable {ops : Array Oper} {rest : List Oper} {o : Oper} {a : Act} {w : World} {Q : Exit → Act → World → Prop} {K : Act → World → Prop} {E : Prop} {B : Nat} {v : Value}
theorem app_many (hgd : o.guard = none) (s x : Operand) (ho : o.op = .call { callee := .builtin .append, args := #[s, x], argTypes := #[48, 48] })
    {l l2 : List Int} {A : Option Addr} {c : Nat} (hs : a.eval s = v) (hown : IntsOut B w v l) (hx : a.eval x = .slice A l2.length c) (hc : IntsIn w A l2) (h0 : 0 < l2.length) (hl : l.length + l2.length < 1000000) (hB : B ≤ w.heap.size)
    (h : ∀ g cap w', IntsOut B w' (.slice (some ⟨g, 0, none⟩) (l.length + l2.length) cap) (l ++ l2) → Below B w w' → w.grownBy w' v.ownBlock → (v.ownBlock = some g ∨ g = w.heap.size) → wpList Try.prog ops Q rest (a.put o.dst (.slice (some ⟨g, 0, none⟩) (l.length + l2.length) cap)) w') : wpList Try.prog ops Q (o :: rest) a w := by
  obtain ⟨i0, hi0, hz0, hz1, hz2⟩ := info_parts infoInt
  obtain ⟨y, hy⟩ : ∃ y, l2[0]? = some y := ⟨l2[0], List.getElem?_eq_getElem h0⟩
  obtain ⟨bb, of, rfl, _, _⟩ := ints_at hc.at_ hy
  refine wpList_append_lies w hgd s x 48 ho B 3 i0 (.int .i64 0) 1 8 und_ints hi0 hz0 hz1 hz2 rfl (by decide) v l.length (l.map (Value.int .i64)) hs hown ⟨bb, of, none⟩ l2.length c (l2.map (Value.int .i64)) hx (by simp) ?_ (by simp [Value.oneCell']) h0 (by unfold maxLen; omega) (by omega) hB _ rfl ?_
  · intro j u hj
    rw [List.getElem?_map] at hj
    obtain ⟨z, hz, rfl⟩ := Option.map_eq_some_iff.1 hj
    obtain ⟨b2, o2, he, _, hc2⟩ := ints_at hc.at_ hz
    cases he
    by_cases hj : j = 0
    · subst hj; simpa [Addr.add] using hc2
    · simpa [Addr.add, hj] using hc2
  · intro g cap w' h1 h2 h3 _
    exact h g cap w' (by unfold IntsOut; simpa using h1) (own_low hown h2 hB) h2 h3
theorem app_all (hgd : o.guard = none) (s x : Operand) (ho : o.op = .call { callee := .builtin .append, args := #[s, x], argTypes := #[48, 48] })
    {l l2 : List Int} {A : Option Addr} {c : Nat} (hs : a.eval s = v) (hown : IntsOut B w v l) (hx : a.eval x = .slice A l2.length c) (hc : IntsIn w A l2) (hl : l.length + l2.length < 1000000) (hB : B ≤ w.heap.size)
    (h : ∀ v' w', IntsOut B w' v' (l ++ l2) → Below B w w' → wpList Try.prog ops Q rest (a.put o.dst v') w') : wpList Try.prog ops Q (o :: rest) a w := by
  by_cases h0 : 0 < l2.length
  · exact app_many hgd s x ho hs hown hx hc h0 hl hB fun g cap w' r1 r2 _ _ => h _ w' (by simpa using r1) r2
  · have hz : l2 = [] := List.eq_nil_of_length_eq_zero (by omega)
    subst hz
    obtain ⟨A1, c1, rfl⟩ := own_slice hown
    obtain ⟨_, _, h3, _⟩ := hown.reads
    obtain ⟨i0, hi0, hz0, hz1, hz2⟩ := info_parts infoInt
    have hsrc : Src Try.prog i0.size 48 (.slice A 0 c) 0 [] w := by
      cases A with
      | none => exact Src.ofNil w und_ints c
      | some ad => exact Src.ofSlice w und_ints ad 0 c [] (by simp) (fun j u hj => by simp at hj) (fun u hu => by simp at hu)
    have hr := run_append_nothing (P := Try.prog) w 48 48 o.type 3 i0 und_ints hi0 A1 l.length c1 h3 (.slice A 0 c) hsrc
    refine wpList_plain hgd fun _ hK => ?_
    unfold Oper.wp execOp
    simp only [ho, resolve, invoke, builtin, Sem.run_bind, Sem.run_pure, Result.andThen_ok, List.map_toArray, List.map_cons, List.map_nil, hs, hx, List.length_nil, hr]
    exact hK _ _ (h _ w (by simpa using hown) (Below.refl _ _))
theorem own_empty_at (w : World) (B g : Nat) (h : g = w.heap.size) (hB : B ≤ w.heap.size) : IntsOut B (w.alloc (.cells #[] 3)) (.slice (some ⟨g, 0, none⟩) 0 0) [] := by subst h; exact own_empty w B hB
end

/-- What each operation leaves. -/
def lc3F (P X : Nat) (qk : Int) (p : Sp) (yk _y0 _y1 _y2 _y3 _y4 _y5 n0 n1 n2 n3 : Int) : Nat → Value → Prop
  | 0, v => v = .pointer (some ⟨X, 0, none⟩)
  | 1, v => v = .int .u8 yk
  | 2, v => v = .int .i64 yk
  | 3, v => v = .pointer (some ⟨P, 0, none⟩)
  | 4, v => v = .slice p.ka p.s.ks.length p.kc
  | 5, v => v = .int .i64 (p.s.ks.length : Int)
  | 6, v => v = .int .i64 qk
  | 7, v => v = .pointer (some ⟨X, 7, none⟩)
  | 8, v => v = .agg #[.int .u16 n0, .int .u16 n1, .int .u16 n2, .int .u16 n3]
  | 9, _ => True
  | 10, v => v = .int .i64 qk
  | 11, _ => True
  | _, _ => True
set_option maxRecDepth 100000 in
set_option maxHeartbeats 8000000 in
theorem lc3_region {P X N : Nat} {qk : Int} {p : Sp} {yk y0 y1 y2 y3 y4 y5 n0 n1 n2 n3 : Int} {S : World → Prop} (hw0 : IntKind.i64.wrap yk = yk) (ht0 : yk.tmod (p.s.ks.length : Int) = qk) (_hw2 : IntKind.i64.wrap qk = qk) (hn0 : ¬ (p.s.ks = [])) (hP : ∀ W, S W → Blk W P 27 #[.slice p.ka p.s.ks.length p.kc, .slice p.xa p.s.xs.length p.xc, .int .i64 p.s.flo, .int .i64 p.s.fhi, .int .i64 p.s.plo, .int .i64 p.s.phi]) (hX : ∀ W, S W → Blk W X 65 #[.int .u8 yk, .int .u16 y0, .int .u16 y1, .int .u16 y2, .int .u16 y3, .int .u16 y4, .int .u16 y5, .int .u16 n0, .int .u16 n1, .int .u16 n2, .int .u16 n3]) (hon : ∀ W W', S W → Below W.heap.size W W' → S W') (hput : ∀ W W' G, S W → W.grownBy W' (some G) → (N ≤ G) → S W') (hN : ∀ W, S W → N ≤ W.heap.size) {Q : Exit → Act → World → Prop} {s0 s1 s2 s4 s6 s9 s10 s11 s12 s13 s14 s15 s16 s17 s18 s19 s20 s21 s22 s23 s24 s25 s26 s27 s28 s38 s39 s40 s41 s42 s43 s44 s45 s46 s47 s48 s49 s50 s51 s52 s53 s54 s55 s56 s57 s58 s59 s60 s61 s62 s63 s64 s65 s66 s67 s68 s69 s70 s71 s72 s73 s74 s75 s76 s77 s78 s79 s80 s81 s82 s83 s84 s85 s86 s87 s88 s89 s90 s91 s92 s93 s94 s95 s96 s97 s98 s99 s100 s101 s102 s103 s104 s105 s106 s107 s108 s109 s110 s111 s112 s113 s114 s115 s116 s117 s118 s119 s120 s121 s122 s123 s124 s125 s126 s127 s128 s129 s130 s131 s132 s133 s134 s135 s136 s137 s138 s139 s140 s141 s142 s143 s144 s145 s146 s147 s148 s149 s150 s151 s152 s153 s154 s155 s156 s157 s158 s159 s160 s161 s162 s163 s164 s165 s166 s167 s168 s169 s170 s171 s172 s173 s174 s175 s176 s177 s178 s179 s180 s181 s182 s183 s184 s185 s186 s187 : Value} {W0 : World} (HL : Hid (S W0))
    (HQ : Hid (∀ (u : Nat → Value) (G0 : Nat) (W : World), S W → N ≤ G0 → Blk W (G0) 63 #[.int .u16 n0, .int .u16 n1, .int .u16 n2, .int .u16 n3] → Q .normal ⟨#[s0, s1, s2, .pointer (some ⟨P, 0, none⟩), s4, .pointer (some ⟨X, 0, none⟩), s6, .int .i64 qk, .pointer (some ⟨G0, 0, none⟩), s9, s10, s11, s12, s13, s14, s15, s16, s17, s18, s19, s20, s21, s22, s23, s24, s25, s26, s27, s28, u 0, u 1, u 2, u 3, u 4, u 5, u 6, u 7, u 8, s38, s39, s40, s41, s42, s43, s44, s45, s46, s47, s48, s49, s50, s51, s52, s53, s54, s55, s56, s57, s58, s59, s60, s61, s62, s63, s64, s65, s66, s67, s68, s69, s70, s71, s72, s73, s74, s75, s76, s77, s78, s79, s80, s81, s82, s83, s84, s85, s86, s87, s88, s89, s90, s91, s92, s93, s94, s95, s96, s97, s98, s99, s100, s101, s102, s103, s104, s105, s106, s107, s108, s109, s110, s111, s112, s113, s114, s115, s116, s117, s118, s119, s120, s121, s122, s123, s124, s125, s126, s127, s128, s129, s130, s131, s132, s133, s134, s135, s136, s137, s138, s139, s140, s141, s142, s143, s144, s145, s146, s147, s148, s149, s150, s151, s152, s153, s154, s155, s156, s157, s158, s159, s160, s161, s162, s163, s164, s165, s166, s167, s168, s169, s170, s171, s172, s173, s174, s175, s176, s177, s178, s179, s180, s181, s182, s183, s184, s185, s186, s187], []⟩ W)) :
    Code.wp Try.prog ((Try.f11.body.bind (regionAt 3)).getD .skip) Q ⟨#[s0, s1, s2, .pointer (some ⟨P, 0, none⟩), s4, .pointer (some ⟨X, 0, none⟩), s6, undef, undef, s9, s10, s11, s12, s13, s14, s15, s16, s17, s18, s19, s20, s21, s22, s23, s24, s25, s26, s27, s28, undef, undef, undef, undef, undef, undef, undef, undef, undef, s38, s39, s40, s41, s42, s43, s44, s45, s46, s47, s48, s49, s50, s51, s52, s53, s54, s55, s56, s57, s58, s59, s60, s61, s62, s63, s64, s65, s66, s67, s68, s69, s70, s71, s72, s73, s74, s75, s76, s77, s78, s79, s80, s81, s82, s83, s84, s85, s86, s87, s88, s89, s90, s91, s92, s93, s94, s95, s96, s97, s98, s99, s100, s101, s102, s103, s104, s105, s106, s107, s108, s109, s110, s111, s112, s113, s114, s115, s116, s117, s118, s119, s120, s121, s122, s123, s124, s125, s126, s127, s128, s129, s130, s131, s132, s133, s134, s135, s136, s137, s138, s139, s140, s141, s142, s143, s144, s145, s146, s147, s148, s149, s150, s151, s152, s153, s154, s155, s156, s157, s158, s159, s160, s161, s162, s163, s164, s165, s166, s167, s168, s169, s170, s171, s172, s173, s174, s175, s176, s177, s178, s179, s180, s181, s182, s183, s184, s185, s186, s187], []⟩ W0 := by
  conv => arg 2; whnf
  refine wp_region_vars (by kernel_rfl) 12 (by kernel_rfl) (fun u => ⟨#[s0, s1, s2, .pointer (some ⟨P, 0, none⟩), s4, .pointer (some ⟨X, 0, none⟩), s6, u 10, u 9, s9, s10, s11, s12, s13, s14, s15, s16, s17, s18, s19, s20, s21, s22, s23, s24, s25, s26, s27, s28, u 0, u 1, u 2, u 3, u 4, u 5, u 6, u 7, u 8, s38, s39, s40, s41, s42, s43, s44, s45, s46, s47, s48, s49, s50, s51, s52, s53, s54, s55, s56, s57, s58, s59, s60, s61, s62, s63, s64, s65, s66, s67, s68, s69, s70, s71, s72, s73, s74, s75, s76, s77, s78, s79, s80, s81, s82, s83, s84, s85, s86, s87, s88, s89, s90, s91, s92, s93, s94, s95, s96, s97, s98, s99, s100, s101, s102, s103, s104, s105, s106, s107, s108, s109, s110, s111, s112, s113, s114, s115, s116, s117, s118, s119, s120, s121, s122, s123, s124, s125, s126, s127, s128, s129, s130, s131, s132, s133, s134, s135, s136, s137, s138, s139, s140, s141, s142, s143, s144, s145, s146, s147, s148, s149, s150, s151, s152, s153, s154, s155, s156, s157, s158, s159, s160, s161, s162, s163, s164, s165, s166, s167, s168, s169, s170, s171, s172, s173, s174, s175, s176, s177, s178, s179, s180, s181, s182, s183, s184, s185, s186, s187], []⟩) (fun i => undef) (fun W => Hid (S W)) (lc3F P X qk p yk y0 y1 y2 y3 y4 y5 n0 n1 n2 n3) (N) [⟨some 9, 0, 11, 63, #[.int .u16 0, .int .u16 0, .int .u16 0, .int .u16 0], #[.int .u16 n0, .int .u16 n1, .int .u16 n2, .int .u16 n3]⟩] [9] [11] rfl rfl (by kernel_rfl) (hon _ _ HL.out (Below.refl _ _).drew) ?hV (fun W h => hN W h.out) ?hg (by decide +kernel) (fun W W' h hb => hon W W' h.out hb) ?hp ?hA ?hP (by decide) (by decide) (by decide) (by decide) (by decide) ?step ?done
  case hV =>
    refine ⟨fun q hq => ⟨fun a e hl => (by cases hl), fun G hG => ?_⟩, fun q hq r hr hne G h1 h2 => ?_⟩
    · simp only [List.mem_cons, List.not_mem_nil, or_false] at hq
      rcases hq with rfl
      · exact absurd hG.1 (by decide)
    · simp only [List.mem_cons, List.not_mem_nil, or_false] at hq
      rcases hq with rfl
      · exact absurd h1.1 (by decide)
  case hg =>
    intro q hq ha
    simp only [List.mem_cons, List.not_mem_nil, or_false] at hq
    rcases hq with rfl
    · cases ha
  case hp =>
    intro W W' G h hg hG
    refine hput W W' G h.out hg ?_
    rcases hG with h1 | ⟨q, hq, ha, h2⟩
    · exact h1
    · simp only [List.mem_cons, List.not_mem_nil, or_false] at hq
      rcases hq with rfl
      · cases ha
  case hA =>
    intro q hq i ha
    simp only [List.mem_cons, List.not_mem_nil, or_false] at hq
    rcases hq with rfl
    · cases ha
      refine ⟨by show _ ∈ waits _ _ 11; decide +kernel, fun u W hB K hK => ?_⟩
      have HK := Lib.hid hK; clear hK
      refine wpOp_of rfl (by rfl) ?_
      go_simp
      exact k_of HK.out (by kernel_rfl)
  case hP =>
    intro q hq u W hB hd G hG hb K hK
    have HK := Lib.hid hK; clear hK
    simp only [List.mem_cons, List.not_mem_nil, or_false] at hq
    rcases hq with rfl
    · obtain ⟨-, eG, hle⟩ := hG
      replace eG : u 9 = .pointer (some ⟨G, 0, none⟩) := eG
      replace hd : ∀ j ∈ waits .any _ 11, j ∉ [9] → j ∉ [11] → lc3F P X qk p yk y0 y1 y2 y3 y4 y5 n0 n1 n2 n3 j (u j) := hd
      have e8 : u 8 = .agg #[.int .u16 n0, .int .u16 n1, .int .u16 n2, .int .u16 n3] := hd 8 (by decide +kernel) (by decide) (by decide)
      replace hb : Blk W G 63 #[.int .u16 0, .int .u16 0, .int .u16 0, .int .u16 0] := hb
      have hb2 := ((((hb).set_ 0 (.int .u16 n0)).set_ 1 (.int .u16 n1)).set_ 2 (.int .u16 n2)).set_ 3 (.int .u16 n3)
      simp only [List.setIfInBounds_toArray, List.set_cons_zero, List.set_cons_succ] at hb2
      have hg2 : W.grownBy _ (some (G)) := grown_more (grown_more (grown_more (grown_more (World.grownBy.refl W (some G)) 0 (.int .u16 n0)) 1 (.int .u16 n1)) 2 (.int .u16 n2)) 3 (.int .u16 n3)
      have fz0 := hb.frozen 0
      have cl0 := hb.cell 0
      have fz1 := hb.frozen 1
      have cl1 := hb.cell 1
      have fz2 := hb.frozen 2
      have cl2 := hb.cell 2
      have fz3 := hb.frozen 3
      have cl3 := hb.cell 3
      have gl := hb.lt
      have HB2 := Lib.hid hb2
      have HG2 := Lib.hid hg2
      clear hb2 hg2
      refine wpOp_of rfl (by rfl) ?_
      go_simp
      exact k_of (HK.out _ HB2.out HG2.out) (by rw [← u1_eq eG, ← u1_eq e8] <;> kernel_rfl)
  case step =>
    iterate 12 (refine all_succ ?_ ?_)
    · exact all_zero
    · intro _ _ u W hB hv hd K hK
      have HK := Lib.hid hK; clear hK
      refine wpOp_of rfl (by rfl) ?_
      go_simp
      exact k_of (HK.out (.pointer (some ⟨X, 0, none⟩)) _ rfl hB (Below.refl _ _)) (by kernel_rfl)
    · intro _ _ u W hB hv hd K hK
      have HK := Lib.hid hK; clear hK
      have e0 : u 0 = .pointer (some ⟨X, 0, none⟩) := hd 0 (by decide +kernel) (by decide) (by decide)
      refine wpOp_of rfl (by rfl) ?_
      have z0 := (hX W hB.out).cell 0
      go_simp
      exact k_of (HK.out (.int .u8 yk) _ rfl hB (Below.refl _ _)) (by rw [← u1_eq e0]; kernel_rfl)
    · intro _ _ u W hB hv hd K hK
      have HK := Lib.hid hK; clear hK
      have e1 : u 1 = .int .u8 yk := hd 1 (by decide +kernel) (by decide) (by decide)
      refine wpOp_of rfl (by rfl) ?_
      go_simp
      exact k_of (HK.out (.int .i64 yk) _ rfl hB (Below.refl _ _)) (by rw [← u1_eq e1]; kernel_rfl)
    · intro _ _ u W hB hv hd K hK
      have HK := Lib.hid hK; clear hK
      refine wpOp_of rfl (by rfl) ?_
      go_simp
      exact k_of (HK.out (.pointer (some ⟨P, 0, none⟩)) _ rfl hB (Below.refl _ _)) (by kernel_rfl)
    · intro _ _ u W hB hv hd K hK
      have HK := Lib.hid hK; clear hK
      have e3 : u 3 = .pointer (some ⟨P, 0, none⟩) := hd 3 (by decide +kernel) (by decide) (by decide)
      refine wpOp_of rfl (by rfl) ?_
      have z0 := (hP W hB.out).cell 0
      go_simp
      exact k_of (HK.out (.slice p.ka p.s.ks.length p.kc) _ rfl hB (Below.refl _ _)) (by rw [← u1_eq e3]; kernel_rfl)
    · intro _ _ u W hB hv hd K hK
      have HK := Lib.hid hK; clear hK
      have e4 : u 4 = .slice p.ka p.s.ks.length p.kc := hd 4 (by decide +kernel) (by decide) (by decide)
      refine wpOp_of rfl (by rfl) ?_
      go_simp
      exact k_of (HK.out (.int .i64 (p.s.ks.length : Int)) _ rfl hB (Below.refl _ _)) (by rw [← u1_eq e4]; kernel_rfl)
    · intro _ _ u W hB hv hd K hK
      have HK := Lib.hid hK; clear hK
      have e2 : u 2 = .int .i64 yk := hd 2 (by decide +kernel) (by decide) (by decide)
      have e5 : u 5 = .int .i64 (p.s.ks.length : Int) := hd 5 (by decide +kernel) (by decide) (by decide)
      refine wpOp_of rfl (by rfl) ?_
      go_simp
      exact k_of (HK.out (.int .i64 qk) _ rfl hB (Below.refl _ _)) (by rw [← u1_eq e2, ← u1_eq e5]; kernel_rfl)
    · intro _ _ u W hB hv hd K hK
      have HK := Lib.hid hK; clear hK
      refine wpOp_of rfl (by rfl) ?_
      go_simp
      exact k_of (HK.out (.pointer (some ⟨X, 7, none⟩)) _ rfl hB (Below.refl _ _)) (by kernel_rfl)
    · intro _ _ u W hB hv hd K hK
      have HK := Lib.hid hK; clear hK
      have e7 : u 7 = .pointer (some ⟨X, 7, none⟩) := hd 7 (by decide +kernel) (by decide) (by decide)
      refine wpOp_of rfl (by rfl) ?_
      have z7 := (hX W hB.out).cell 7; have z8 := (hX W hB.out).cell 8; have z9 := (hX W hB.out).cell 9; have z10 := (hX W hB.out).cell 10
      go_simp
      exact k_of (HK.out (.agg #[.int .u16 n0, .int .u16 n1, .int .u16 n2, .int .u16 n3]) _ rfl hB (Below.refl _ _)) (by rw [← u1_eq e7]; kernel_rfl)
    · intro ha; exact absurd (by decide) ha
    · intro _ _ u W hB hv hd K hK
      have HK := Lib.hid hK; clear hK
      have e6 : u 6 = .int .i64 qk := hd 6 (by decide +kernel) (by decide) (by decide)
      refine wpOp_of rfl (by rfl) ?_
      go_simp
      exact k_of (HK.out (.int .i64 qk) _ rfl hB (Below.refl _ _)) (by rw [← u1_eq e6]; kernel_rfl)
    · intro _ ha; exact absurd (by decide) ha
  case done =>
    intro L u W hL hB hd hV
    have hv0 := hV.ok ⟨some 9, 0, 11, 63, #[.int .u16 0, .int .u16 0, .int .u16 0, .int .u16 0], #[.int .u16 n0, .int .u16 n1, .int .u16 n2, .int .u16 n3]⟩ (by simp)
    obtain ⟨G0, eG0, hN0⟩ := hv0.1 9 rfl (hL 9 (by decide))
    have hB0 := hv0.2 G0 ⟨hL 9 (by decide), eG0, hN0⟩
    rw [if_pos (hL 11 (by decide))] at hB0
    have e10 : u 10 = .int .i64 qk := hd 10 (by decide) (by decide) (by decide)
    exact k_of (HQ.out u G0 W hB.out hN0 hB0) (by simp only [eG0, e10])

/-- What each operation leaves. -/
def lc5F (MB C NB : Nat) (c : Cd) (_lo _dr n0 _n1 _n2 _n3 : Int) : Nat → Value → Prop
  | 0, v => v = .pointer (some ⟨C, 2, none⟩)
  | 1, v => v = .int .i64 c.dra
  | 2, v => v = .agg #[.int .i64 0, .int .i64 c.dra]
  | 3, v => v = .pointer (some ⟨NB, 0, none⟩)
  | 4, v => v = .int .u16 n0
  | 5, v => v = .int .i64 n0
  | 6, v => v = .int .i64 (amV 0 c.dra n0)
  | 7, v => v = .pointer (some ⟨MB, 2, none⟩)
  | 8, _ => True
  | _, _ => True
set_option maxRecDepth 100000 in
set_option maxHeartbeats 8000000 in
theorem lc5_region {N MB C NB : Nat} {c : Cd} {lo dr n0 n1 n2 n3 : Int} {S : World → Prop} (ht : 0 ≤ c.dra ∧ c.dra ≤ 2000) (hn : 0 ≤ n0 ∧ n0 ≤ 65535) (hwn : IntKind.i64.wrap n0 = n0) (hC : ∀ W, S W → Blk W C 34 #[.int .i64 c.wax, .int .i64 c.dia, .int .i64 c.dra, .int .i64 c.clo, .int .i64 c.chi]) (hN4 : ∀ W, S W → Blk W NB 63 #[.int .u16 n0, .int .u16 n1, .int .u16 n2, .int .u16 n3]) (hon : ∀ W W', S W → Below W.heap.size W W' → S W') (hput : ∀ W W' G, S W → W.grownBy W' (some G) → (N ≤ G ∨ G = MB) → S W') (hN : ∀ W, S W → N ≤ W.heap.size) {Q : Exit → Act → World → Prop} {s0 s1 s2 s3 s5 s6 s7 s10 s11 s12 s13 s14 s15 s16 s17 s18 s19 s20 s21 s22 s23 s24 s25 s26 s27 s28 s29 s30 s31 s32 s33 s34 s35 s36 s37 s38 s47 s48 s49 s50 s51 s52 s53 s54 s55 s56 s57 s58 s59 s60 s61 s62 s63 s64 s65 s66 s67 s68 s69 s70 s71 s72 s73 s74 s75 s76 s77 s78 s79 s80 s81 s82 s83 s84 s85 s86 s87 s88 s89 s90 s91 s92 s93 s94 s95 s96 s97 s98 s99 s100 s101 s102 s103 s104 s105 s106 s107 s108 s109 s110 s111 s112 s113 s114 s115 s116 s117 s118 s119 s120 s121 s122 s123 s124 s125 s126 s127 s128 s129 s130 s131 s132 s133 s134 s135 s136 s137 s138 s139 s140 s141 s142 s143 s144 s145 s146 s147 s148 s149 s150 s151 s152 s153 s154 s155 s156 s157 s158 s159 s160 s161 s162 s163 s164 s165 s166 s167 s168 s169 s170 s171 s172 s173 s174 s175 s176 s177 s178 s179 s180 s181 s182 s183 s184 s185 s186 s187 : Value} {W0 : World} (HL : Hid (S W0)) (hk0 : Blk W0 (MB) 34 #[.int .i64 c.wax, .int .i64 c.dia, .int .i64 c.dra, .int .i64 c.clo, .int .i64 c.chi]) (hg0 : MB < N)
    (HQ : Hid (∀ (u : Nat → Value) (W : World), S W → Blk W (MB) 34 #[.int .i64 c.wax, .int .i64 c.dia, .int .i64 (amV 0 c.dra n0), .int .i64 c.clo, .int .i64 c.chi] → Q .normal ⟨#[s0, s1, s2, s3, .pointer (some ⟨C, 0, none⟩), s5, s6, s7, .pointer (some ⟨NB, 0, none⟩), .pointer (some ⟨MB, 0, none⟩), s10, s11, s12, s13, s14, s15, s16, s17, s18, s19, s20, s21, s22, s23, s24, s25, s26, s27, s28, s29, s30, s31, s32, s33, s34, s35, s36, s37, s38, u 0, u 1, u 2, u 3, u 4, u 5, u 6, u 7, s47, s48, s49, s50, s51, s52, s53, s54, s55, s56, s57, s58, s59, s60, s61, s62, s63, s64, s65, s66, s67, s68, s69, s70, s71, s72, s73, s74, s75, s76, s77, s78, s79, s80, s81, s82, s83, s84, s85, s86, s87, s88, s89, s90, s91, s92, s93, s94, s95, s96, s97, s98, s99, s100, s101, s102, s103, s104, s105, s106, s107, s108, s109, s110, s111, s112, s113, s114, s115, s116, s117, s118, s119, s120, s121, s122, s123, s124, s125, s126, s127, s128, s129, s130, s131, s132, s133, s134, s135, s136, s137, s138, s139, s140, s141, s142, s143, s144, s145, s146, s147, s148, s149, s150, s151, s152, s153, s154, s155, s156, s157, s158, s159, s160, s161, s162, s163, s164, s165, s166, s167, s168, s169, s170, s171, s172, s173, s174, s175, s176, s177, s178, s179, s180, s181, s182, s183, s184, s185, s186, s187], []⟩ W)) :
    Code.wp Try.prog ((Try.f11.body.bind (regionAt 5)).getD .skip) Q ⟨#[s0, s1, s2, s3, .pointer (some ⟨C, 0, none⟩), s5, s6, s7, .pointer (some ⟨NB, 0, none⟩), .pointer (some ⟨MB, 0, none⟩), s10, s11, s12, s13, s14, s15, s16, s17, s18, s19, s20, s21, s22, s23, s24, s25, s26, s27, s28, s29, s30, s31, s32, s33, s34, s35, s36, s37, s38, undef, undef, undef, undef, undef, undef, undef, undef, s47, s48, s49, s50, s51, s52, s53, s54, s55, s56, s57, s58, s59, s60, s61, s62, s63, s64, s65, s66, s67, s68, s69, s70, s71, s72, s73, s74, s75, s76, s77, s78, s79, s80, s81, s82, s83, s84, s85, s86, s87, s88, s89, s90, s91, s92, s93, s94, s95, s96, s97, s98, s99, s100, s101, s102, s103, s104, s105, s106, s107, s108, s109, s110, s111, s112, s113, s114, s115, s116, s117, s118, s119, s120, s121, s122, s123, s124, s125, s126, s127, s128, s129, s130, s131, s132, s133, s134, s135, s136, s137, s138, s139, s140, s141, s142, s143, s144, s145, s146, s147, s148, s149, s150, s151, s152, s153, s154, s155, s156, s157, s158, s159, s160, s161, s162, s163, s164, s165, s166, s167, s168, s169, s170, s171, s172, s173, s174, s175, s176, s177, s178, s179, s180, s181, s182, s183, s184, s185, s186, s187], []⟩ W0 := by
  conv => arg 2; whnf
  refine wp_region_vars (by kernel_rfl) 9 (by kernel_rfl) (fun u => ⟨#[s0, s1, s2, s3, .pointer (some ⟨C, 0, none⟩), s5, s6, s7, .pointer (some ⟨NB, 0, none⟩), .pointer (some ⟨MB, 0, none⟩), s10, s11, s12, s13, s14, s15, s16, s17, s18, s19, s20, s21, s22, s23, s24, s25, s26, s27, s28, s29, s30, s31, s32, s33, s34, s35, s36, s37, s38, u 0, u 1, u 2, u 3, u 4, u 5, u 6, u 7, s47, s48, s49, s50, s51, s52, s53, s54, s55, s56, s57, s58, s59, s60, s61, s62, s63, s64, s65, s66, s67, s68, s69, s70, s71, s72, s73, s74, s75, s76, s77, s78, s79, s80, s81, s82, s83, s84, s85, s86, s87, s88, s89, s90, s91, s92, s93, s94, s95, s96, s97, s98, s99, s100, s101, s102, s103, s104, s105, s106, s107, s108, s109, s110, s111, s112, s113, s114, s115, s116, s117, s118, s119, s120, s121, s122, s123, s124, s125, s126, s127, s128, s129, s130, s131, s132, s133, s134, s135, s136, s137, s138, s139, s140, s141, s142, s143, s144, s145, s146, s147, s148, s149, s150, s151, s152, s153, s154, s155, s156, s157, s158, s159, s160, s161, s162, s163, s164, s165, s166, s167, s168, s169, s170, s171, s172, s173, s174, s175, s176, s177, s178, s179, s180, s181, s182, s183, s184, s185, s186, s187], []⟩) (fun i => undef) (fun W => Hid (S W)) (lc5F MB C NB c lo dr n0 n1 n2 n3) (N) [⟨none, MB, 8, 34, #[.int .i64 c.wax, .int .i64 c.dia, .int .i64 c.dra, .int .i64 c.clo, .int .i64 c.chi], #[.int .i64 c.wax, .int .i64 c.dia, .int .i64 (amV 0 c.dra n0), .int .i64 c.clo, .int .i64 c.chi]⟩] [] [8] rfl rfl (by kernel_rfl) (hon _ _ HL.out (Below.refl _ _).drew) ?hV (fun W h => hN W h.out) ?hg (by decide +kernel) (fun W W' h hb => hon W W' h.out hb) ?hp ?hA ?hP (by decide) (by decide) (by decide) (by decide) (by decide) ?step ?done
  case hV =>
    refine ⟨fun q hq => ⟨fun a e hl => (by cases hl), fun G hG => ?_⟩, fun q hq r hr hne G h1 h2 => ?_⟩
    · simp only [List.mem_cons, List.not_mem_nil, or_false] at hq
      rcases hq with rfl
      · obtain ⟨rfl, -⟩ := hG; exact hk0.drew
    · simp only [List.mem_cons, List.not_mem_nil, or_false] at hq
      rcases hq with rfl
      · simp only [List.mem_cons, List.not_mem_nil, or_false] at hr
        rcases hr with rfl
        · exact absurd rfl hne
  case hg =>
    intro q hq ha
    simp only [List.mem_cons, List.not_mem_nil, or_false] at hq
    rcases hq with rfl
    · exact hg0
  case hp =>
    intro W W' G h hg hG
    refine hput W W' G h.out hg ?_
    rcases hG with h1 | ⟨q, hq, ha, h2⟩
    · exact .inl h1
    · simp only [List.mem_cons, List.not_mem_nil, or_false] at hq
      rcases hq with rfl
      · exact .inr h2
  case hA =>
    intro q hq i ha
    simp only [List.mem_cons, List.not_mem_nil, or_false] at hq
    rcases hq with rfl
    · cases ha
  case hP =>
    intro q hq u W hB hd G hG hb K hK
    have HK := Lib.hid hK; clear hK
    simp only [List.mem_cons, List.not_mem_nil, or_false] at hq
    rcases hq with rfl
    · have hGe : G = MB := hG.1
      rw [hGe] at hb HK
      clear hG hGe
      replace hd : ∀ j ∈ waits .any _ 8, j ∉ [] → j ∉ [8] → lc5F MB C NB c lo dr n0 n1 n2 n3 j (u j) := hd
      have e7 : u 7 = .pointer (some ⟨MB, 2, none⟩) := hd 7 (by decide +kernel) (by decide) (by decide)
      have e6 : u 6 = .int .i64 (amV 0 c.dra n0) := hd 6 (by decide +kernel) (by decide) (by decide)
      replace hb : Blk W MB 34 #[.int .i64 c.wax, .int .i64 c.dia, .int .i64 c.dra, .int .i64 c.clo, .int .i64 c.chi] := hb
      have hb2 := (hb).set_ 2 (.int .i64 (amV 0 c.dra n0))
      simp only [List.setIfInBounds_toArray, List.set_cons_zero, List.set_cons_succ] at hb2
      have hg2 : W.grownBy _ (some (MB)) := grown_more (World.grownBy.refl W (some MB)) 2 (.int .i64 (amV 0 c.dra n0))
      have fz2 := hb.frozen 2
      have cl2 := hb.cell 2
      have gl := hb.lt
      have HB2 := Lib.hid hb2
      have HG2 := Lib.hid hg2
      clear hb2 hg2
      refine wpOp_of rfl (by rfl) ?_
      go_simp
      exact k_of (HK.out _ HB2.out HG2.out) (by rw [← u1_eq e7, ← u1_eq e6] <;> kernel_rfl)
  case step =>
    iterate 9 (refine all_succ ?_ ?_)
    · exact all_zero
    · intro _ _ u W hB hv hd K hK
      have HK := Lib.hid hK; clear hK
      refine wpOp_of rfl (by rfl) ?_
      go_simp
      exact k_of (HK.out (.pointer (some ⟨C, 2, none⟩)) _ rfl hB (Below.refl _ _)) (by kernel_rfl)
    · intro _ _ u W hB hv hd K hK
      have HK := Lib.hid hK; clear hK
      have e0 : u 0 = .pointer (some ⟨C, 2, none⟩) := hd 0 (by decide +kernel) (by decide) (by decide)
      refine wpOp_of rfl (by rfl) ?_
      have z2 := (hC W hB.out).cell 2
      go_simp
      exact k_of (HK.out (.int .i64 c.dra) _ rfl hB (Below.refl _ _)) (by rw [← u1_eq e0]; kernel_rfl)
    · intro _ _ u W hB hv hd K hK
      have HK := Lib.hid hK; clear hK
      have e1 : u 1 = .int .i64 c.dra := hd 1 (by decide +kernel) (by decide) (by decide)
      refine wpOp_of rfl (by rfl) ?_
      go_simp
      refine (lspan_any 0 c.dra _).mono ?_
      rintro e w' ⟨rfl, hb⟩
      exact k_of (HK.out (.agg #[.int .i64 0, .int .i64 c.dra]) _ rfl (hon _ _ hB.out hb) hb) (by rw [← u1_eq e1]; kernel_rfl)
    · intro _ _ u W hB hv hd K hK
      have HK := Lib.hid hK; clear hK
      refine wpOp_of rfl (by rfl) ?_
      go_simp
      exact k_of (HK.out (.pointer (some ⟨NB, 0, none⟩)) _ rfl hB (Below.refl _ _)) (by kernel_rfl)
    · intro _ _ u W hB hv hd K hK
      have HK := Lib.hid hK; clear hK
      have e3 : u 3 = .pointer (some ⟨NB, 0, none⟩) := hd 3 (by decide +kernel) (by decide) (by decide)
      refine wpOp_of rfl (by rfl) ?_
      have z0 := (hN4 W hB.out).cell 0
      go_simp
      exact k_of (HK.out (.int .u16 n0) _ rfl hB (Below.refl _ _)) (by rw [← u1_eq e3]; kernel_rfl)
    · intro _ _ u W hB hv hd K hK
      have HK := Lib.hid hK; clear hK
      have e4 : u 4 = .int .u16 n0 := hd 4 (by decide +kernel) (by decide) (by decide)
      refine wpOp_of rfl (by rfl) ?_
      go_simp
      exact k_of (HK.out (.int .i64 n0) _ rfl hB (Below.refl _ _)) (by rw [← u1_eq e4]; kernel_rfl)
    · intro _ _ u W hB hv hd K hK
      have HK := Lib.hid hK; clear hK
      have e2 : u 2 = .agg #[.int .i64 0, .int .i64 c.dra] := hd 2 (by decide +kernel) (by decide) (by decide)
      have e5 : u 5 = .int .i64 n0 := hd 5 (by decide +kernel) (by decide) (by decide)
      refine wpOp_of rfl (by rfl) ?_
      go_simp
      refine (lamong_any (by omega) (by omega) (by omega) hn _).mono ?_
      rintro e w' ⟨rfl, hb⟩
      exact k_of (HK.out (.int .i64 (amV 0 c.dra n0)) _ rfl (hon _ _ hB.out hb) hb) (by rw [← u1_eq e2, ← u1_eq e5]; kernel_rfl)
    · intro _ _ u W hB hv hd K hK
      have HK := Lib.hid hK; clear hK
      refine wpOp_of rfl (by rfl) ?_
      go_simp
      exact k_of (HK.out (.pointer (some ⟨MB, 2, none⟩)) _ rfl hB (Below.refl _ _)) (by kernel_rfl)
    · intro _ ha; exact absurd (by decide) ha
  case done =>
    intro L u W hL hB hd hV
    have hv0 := hV.ok ⟨none, MB, 8, 34, #[.int .i64 c.wax, .int .i64 c.dia, .int .i64 c.dra, .int .i64 c.clo, .int .i64 c.chi], #[.int .i64 c.wax, .int .i64 c.dia, .int .i64 (amV 0 c.dra n0), .int .i64 c.clo, .int .i64 c.chi]⟩ (by simp)
    have hB0 := hv0.2 (MB) ⟨rfl, hg0⟩
    rw [if_pos (hL 8 (by decide))] at hB0
    exact k_of (HQ.out u W hB.out hB0) (rfl)

/-- What each operation leaves. -/
def lc7F (MB C NB : Nat) (c : Cd) (lo _dr _n0 _n1 n2 _n3 : Int) : Nat → Value → Prop
  | 0, v => v = .int .i64 lo
  | 1, v => v = .int .i64 lo
  | 2, v => v = .pointer (some ⟨C, 3, none⟩)
  | 3, v => v = .pointer (some ⟨C, 4, none⟩)
  | 4, v => v = .int .i64 c.chi
  | 5, v => v = .agg #[.int .i64 lo, .int .i64 c.chi]
  | 6, v => v = .pointer (some ⟨NB, 2, none⟩)
  | 7, v => v = .int .u16 n2
  | 8, v => v = .int .i64 n2
  | 9, v => v = .int .i64 (amV lo c.chi n2)
  | 10, v => v = .agg #[.int .i64 lo, .int .i64 (amV lo c.chi n2)]
  | 11, v => v = .pointer (some ⟨MB, 3, none⟩)
  | 12, _ => True
  | _, _ => True
set_option maxRecDepth 100000 in
set_option maxHeartbeats 8000000 in
theorem lc7_region {N MB C NB : Nat} {c : Cd} {lo dr n0 n1 n2 n3 : Int} {S : World → Prop} (ht : -1000 ≤ lo ∧ lo ≤ c.chi ∧ c.chi ≤ 2000) (hn : 0 ≤ n2 ∧ n2 ≤ 65535) (hwn : IntKind.i64.wrap n2 = n2) (hC : ∀ W, S W → Blk W C 34 #[.int .i64 c.wax, .int .i64 c.dia, .int .i64 c.dra, .int .i64 c.clo, .int .i64 c.chi]) (hN4 : ∀ W, S W → Blk W NB 63 #[.int .u16 n0, .int .u16 n1, .int .u16 n2, .int .u16 n3]) (hon : ∀ W W', S W → Below W.heap.size W W' → S W') (hput : ∀ W W' G, S W → W.grownBy W' (some G) → (N ≤ G ∨ G = MB) → S W') (hN : ∀ W, S W → N ≤ W.heap.size) {Q : Exit → Act → World → Prop} {s0 s1 s2 s3 s5 s6 s7 s11 s12 s13 s14 s15 s16 s17 s18 s19 s20 s21 s22 s23 s24 s25 s26 s27 s28 s29 s30 s31 s32 s33 s34 s35 s36 s37 s38 s39 s40 s41 s42 s43 s44 s45 s46 s47 s48 s49 s50 s51 s52 s65 s66 s67 s68 s69 s70 s71 s72 s73 s74 s75 s76 s77 s78 s79 s80 s81 s82 s83 s84 s85 s86 s87 s88 s89 s90 s91 s92 s93 s94 s95 s96 s97 s98 s99 s100 s101 s102 s103 s104 s105 s106 s107 s108 s109 s110 s111 s112 s113 s114 s115 s116 s117 s118 s119 s120 s121 s122 s123 s124 s125 s126 s127 s128 s129 s130 s131 s132 s133 s134 s135 s136 s137 s138 s139 s140 s141 s142 s143 s144 s145 s146 s147 s148 s149 s150 s151 s152 s153 s154 s155 s156 s157 s158 s159 s160 s161 s162 s163 s164 s165 s166 s167 s168 s169 s170 s171 s172 s173 s174 s175 s176 s177 s178 s179 s180 s181 s182 s183 s184 s185 s186 s187 : Value} {W0 : World} (HL : Hid (S W0)) (hk0 : Blk W0 (MB) 34 #[.int .i64 c.wax, .int .i64 c.dia, .int .i64 dr, .int .i64 c.clo, .int .i64 c.chi]) (hg0 : MB < N)
    (HQ : Hid (∀ (u : Nat → Value) (W : World), S W → Blk W (MB) 34 #[.int .i64 c.wax, .int .i64 c.dia, .int .i64 dr, .int .i64 lo, .int .i64 (amV lo c.chi n2)] → Q .normal ⟨#[s0, s1, s2, s3, .pointer (some ⟨C, 0, none⟩), s5, s6, s7, .pointer (some ⟨NB, 0, none⟩), .pointer (some ⟨MB, 0, none⟩), .int .i64 lo, s11, s12, s13, s14, s15, s16, s17, s18, s19, s20, s21, s22, s23, s24, s25, s26, s27, s28, s29, s30, s31, s32, s33, s34, s35, s36, s37, s38, s39, s40, s41, s42, s43, s44, s45, s46, s47, s48, s49, s50, s51, s52, u 0, u 1, u 2, u 3, u 4, u 5, u 6, u 7, u 8, u 9, u 10, u 11, s65, s66, s67, s68, s69, s70, s71, s72, s73, s74, s75, s76, s77, s78, s79, s80, s81, s82, s83, s84, s85, s86, s87, s88, s89, s90, s91, s92, s93, s94, s95, s96, s97, s98, s99, s100, s101, s102, s103, s104, s105, s106, s107, s108, s109, s110, s111, s112, s113, s114, s115, s116, s117, s118, s119, s120, s121, s122, s123, s124, s125, s126, s127, s128, s129, s130, s131, s132, s133, s134, s135, s136, s137, s138, s139, s140, s141, s142, s143, s144, s145, s146, s147, s148, s149, s150, s151, s152, s153, s154, s155, s156, s157, s158, s159, s160, s161, s162, s163, s164, s165, s166, s167, s168, s169, s170, s171, s172, s173, s174, s175, s176, s177, s178, s179, s180, s181, s182, s183, s184, s185, s186, s187], []⟩ W)) :
    Code.wp Try.prog ((Try.f11.body.bind (regionAt 7)).getD .skip) Q ⟨#[s0, s1, s2, s3, .pointer (some ⟨C, 0, none⟩), s5, s6, s7, .pointer (some ⟨NB, 0, none⟩), .pointer (some ⟨MB, 0, none⟩), .int .i64 lo, s11, s12, s13, s14, s15, s16, s17, s18, s19, s20, s21, s22, s23, s24, s25, s26, s27, s28, s29, s30, s31, s32, s33, s34, s35, s36, s37, s38, s39, s40, s41, s42, s43, s44, s45, s46, s47, s48, s49, s50, s51, s52, undef, undef, undef, undef, undef, undef, undef, undef, undef, undef, undef, undef, s65, s66, s67, s68, s69, s70, s71, s72, s73, s74, s75, s76, s77, s78, s79, s80, s81, s82, s83, s84, s85, s86, s87, s88, s89, s90, s91, s92, s93, s94, s95, s96, s97, s98, s99, s100, s101, s102, s103, s104, s105, s106, s107, s108, s109, s110, s111, s112, s113, s114, s115, s116, s117, s118, s119, s120, s121, s122, s123, s124, s125, s126, s127, s128, s129, s130, s131, s132, s133, s134, s135, s136, s137, s138, s139, s140, s141, s142, s143, s144, s145, s146, s147, s148, s149, s150, s151, s152, s153, s154, s155, s156, s157, s158, s159, s160, s161, s162, s163, s164, s165, s166, s167, s168, s169, s170, s171, s172, s173, s174, s175, s176, s177, s178, s179, s180, s181, s182, s183, s184, s185, s186, s187], []⟩ W0 := by
  conv => arg 2; whnf
  refine wp_region_vars (by kernel_rfl) 13 (by kernel_rfl) (fun u => ⟨#[s0, s1, s2, s3, .pointer (some ⟨C, 0, none⟩), s5, s6, s7, .pointer (some ⟨NB, 0, none⟩), .pointer (some ⟨MB, 0, none⟩), .int .i64 lo, s11, s12, s13, s14, s15, s16, s17, s18, s19, s20, s21, s22, s23, s24, s25, s26, s27, s28, s29, s30, s31, s32, s33, s34, s35, s36, s37, s38, s39, s40, s41, s42, s43, s44, s45, s46, s47, s48, s49, s50, s51, s52, u 0, u 1, u 2, u 3, u 4, u 5, u 6, u 7, u 8, u 9, u 10, u 11, s65, s66, s67, s68, s69, s70, s71, s72, s73, s74, s75, s76, s77, s78, s79, s80, s81, s82, s83, s84, s85, s86, s87, s88, s89, s90, s91, s92, s93, s94, s95, s96, s97, s98, s99, s100, s101, s102, s103, s104, s105, s106, s107, s108, s109, s110, s111, s112, s113, s114, s115, s116, s117, s118, s119, s120, s121, s122, s123, s124, s125, s126, s127, s128, s129, s130, s131, s132, s133, s134, s135, s136, s137, s138, s139, s140, s141, s142, s143, s144, s145, s146, s147, s148, s149, s150, s151, s152, s153, s154, s155, s156, s157, s158, s159, s160, s161, s162, s163, s164, s165, s166, s167, s168, s169, s170, s171, s172, s173, s174, s175, s176, s177, s178, s179, s180, s181, s182, s183, s184, s185, s186, s187], []⟩) (fun i => undef) (fun W => Hid (S W)) (lc7F MB C NB c lo dr n0 n1 n2 n3) (N) [⟨none, MB, 12, 34, #[.int .i64 c.wax, .int .i64 c.dia, .int .i64 dr, .int .i64 c.clo, .int .i64 c.chi], #[.int .i64 c.wax, .int .i64 c.dia, .int .i64 dr, .int .i64 lo, .int .i64 (amV lo c.chi n2)]⟩] [] [12] rfl rfl (by kernel_rfl) (hon _ _ HL.out (Below.refl _ _).drew) ?hV (fun W h => hN W h.out) ?hg (by decide +kernel) (fun W W' h hb => hon W W' h.out hb) ?hp ?hA ?hP (by decide) (by decide) (by decide) (by decide) (by decide) ?step ?done
  case hV =>
    refine ⟨fun q hq => ⟨fun a e hl => (by cases hl), fun G hG => ?_⟩, fun q hq r hr hne G h1 h2 => ?_⟩
    · simp only [List.mem_cons, List.not_mem_nil, or_false] at hq
      rcases hq with rfl
      · obtain ⟨rfl, -⟩ := hG; exact hk0.drew
    · simp only [List.mem_cons, List.not_mem_nil, or_false] at hq
      rcases hq with rfl
      · simp only [List.mem_cons, List.not_mem_nil, or_false] at hr
        rcases hr with rfl
        · exact absurd rfl hne
  case hg =>
    intro q hq ha
    simp only [List.mem_cons, List.not_mem_nil, or_false] at hq
    rcases hq with rfl
    · exact hg0
  case hp =>
    intro W W' G h hg hG
    refine hput W W' G h.out hg ?_
    rcases hG with h1 | ⟨q, hq, ha, h2⟩
    · exact .inl h1
    · simp only [List.mem_cons, List.not_mem_nil, or_false] at hq
      rcases hq with rfl
      · exact .inr h2
  case hA =>
    intro q hq i ha
    simp only [List.mem_cons, List.not_mem_nil, or_false] at hq
    rcases hq with rfl
    · cases ha
  case hP =>
    intro q hq u W hB hd G hG hb K hK
    have HK := Lib.hid hK; clear hK
    simp only [List.mem_cons, List.not_mem_nil, or_false] at hq
    rcases hq with rfl
    · have hGe : G = MB := hG.1
      rw [hGe] at hb HK
      clear hG hGe
      replace hd : ∀ j ∈ waits .any _ 12, j ∉ [] → j ∉ [12] → lc7F MB C NB c lo dr n0 n1 n2 n3 j (u j) := hd
      have e11 : u 11 = .pointer (some ⟨MB, 3, none⟩) := hd 11 (by decide +kernel) (by decide) (by decide)
      have e10 : u 10 = .agg #[.int .i64 lo, .int .i64 (amV lo c.chi n2)] := hd 10 (by decide +kernel) (by decide) (by decide)
      replace hb : Blk W MB 34 #[.int .i64 c.wax, .int .i64 c.dia, .int .i64 dr, .int .i64 c.clo, .int .i64 c.chi] := hb
      have hb2 := ((hb).set_ 3 (.int .i64 lo)).set_ 4 (.int .i64 (amV lo c.chi n2))
      simp only [List.setIfInBounds_toArray, List.set_cons_zero, List.set_cons_succ] at hb2
      have hg2 : W.grownBy _ (some (MB)) := grown_more (grown_more (World.grownBy.refl W (some MB)) 3 (.int .i64 lo)) 4 (.int .i64 (amV lo c.chi n2))
      have fz3 := hb.frozen 3
      have cl3 := hb.cell 3
      have fz4 := hb.frozen 4
      have cl4 := hb.cell 4
      have gl := hb.lt
      have HB2 := Lib.hid hb2
      have HG2 := Lib.hid hg2
      clear hb2 hg2
      refine wpOp_of rfl (by rfl) ?_
      go_simp
      exact k_of (HK.out _ HB2.out HG2.out) (by rw [← u1_eq e11, ← u1_eq e10] <;> kernel_rfl)
  case step =>
    iterate 13 (refine all_succ ?_ ?_)
    · exact all_zero
    · intro _ _ u W hB hv hd K hK
      have HK := Lib.hid hK; clear hK
      refine wpOp_of rfl (by rfl) ?_
      go_simp
      exact k_of (HK.out (.int .i64 lo) _ rfl hB (Below.refl _ _)) (by kernel_rfl)
    · intro _ _ u W hB hv hd K hK
      have HK := Lib.hid hK; clear hK
      refine wpOp_of rfl (by rfl) ?_
      go_simp
      exact k_of (HK.out (.int .i64 lo) _ rfl hB (Below.refl _ _)) (by kernel_rfl)
    · intro _ _ u W hB hv hd K hK
      have HK := Lib.hid hK; clear hK
      refine wpOp_of rfl (by rfl) ?_
      go_simp
      exact k_of (HK.out (.pointer (some ⟨C, 3, none⟩)) _ rfl hB (Below.refl _ _)) (by kernel_rfl)
    · intro _ _ u W hB hv hd K hK
      have HK := Lib.hid hK; clear hK
      have e2 : u 2 = .pointer (some ⟨C, 3, none⟩) := hd 2 (by decide +kernel) (by decide) (by decide)
      refine wpOp_of rfl (by rfl) ?_
      go_simp
      exact k_of (HK.out (.pointer (some ⟨C, 4, none⟩)) _ rfl hB (Below.refl _ _)) (by rw [← u1_eq e2]; kernel_rfl)
    · intro _ _ u W hB hv hd K hK
      have HK := Lib.hid hK; clear hK
      have e3 : u 3 = .pointer (some ⟨C, 4, none⟩) := hd 3 (by decide +kernel) (by decide) (by decide)
      refine wpOp_of rfl (by rfl) ?_
      have z4 := (hC W hB.out).cell 4
      go_simp
      exact k_of (HK.out (.int .i64 c.chi) _ rfl hB (Below.refl _ _)) (by rw [← u1_eq e3]; kernel_rfl)
    · intro _ _ u W hB hv hd K hK
      have HK := Lib.hid hK; clear hK
      have e1 : u 1 = .int .i64 lo := hd 1 (by decide +kernel) (by decide) (by decide)
      have e4 : u 4 = .int .i64 c.chi := hd 4 (by decide +kernel) (by decide) (by decide)
      refine wpOp_of rfl (by rfl) ?_
      go_simp
      refine (lspan_any lo c.chi _).mono ?_
      rintro e w' ⟨rfl, hb⟩
      exact k_of (HK.out (.agg #[.int .i64 lo, .int .i64 c.chi]) _ rfl (hon _ _ hB.out hb) hb) (by rw [← u1_eq e1, ← u1_eq e4]; kernel_rfl)
    · intro _ _ u W hB hv hd K hK
      have HK := Lib.hid hK; clear hK
      refine wpOp_of rfl (by rfl) ?_
      go_simp
      exact k_of (HK.out (.pointer (some ⟨NB, 2, none⟩)) _ rfl hB (Below.refl _ _)) (by kernel_rfl)
    · intro _ _ u W hB hv hd K hK
      have HK := Lib.hid hK; clear hK
      have e6 : u 6 = .pointer (some ⟨NB, 2, none⟩) := hd 6 (by decide +kernel) (by decide) (by decide)
      refine wpOp_of rfl (by rfl) ?_
      have z2 := (hN4 W hB.out).cell 2
      go_simp
      exact k_of (HK.out (.int .u16 n2) _ rfl hB (Below.refl _ _)) (by rw [← u1_eq e6]; kernel_rfl)
    · intro _ _ u W hB hv hd K hK
      have HK := Lib.hid hK; clear hK
      have e7 : u 7 = .int .u16 n2 := hd 7 (by decide +kernel) (by decide) (by decide)
      refine wpOp_of rfl (by rfl) ?_
      go_simp
      exact k_of (HK.out (.int .i64 n2) _ rfl hB (Below.refl _ _)) (by rw [← u1_eq e7]; kernel_rfl)
    · intro _ _ u W hB hv hd K hK
      have HK := Lib.hid hK; clear hK
      have e5 : u 5 = .agg #[.int .i64 lo, .int .i64 c.chi] := hd 5 (by decide +kernel) (by decide) (by decide)
      have e8 : u 8 = .int .i64 n2 := hd 8 (by decide +kernel) (by decide) (by decide)
      refine wpOp_of rfl (by rfl) ?_
      go_simp
      refine (lamong_any (by omega) (by omega) (by omega) hn _).mono ?_
      rintro e w' ⟨rfl, hb⟩
      exact k_of (HK.out (.int .i64 (amV lo c.chi n2)) _ rfl (hon _ _ hB.out hb) hb) (by rw [← u1_eq e5, ← u1_eq e8]; kernel_rfl)
    · intro _ _ u W hB hv hd K hK
      have HK := Lib.hid hK; clear hK
      have e0 : u 0 = .int .i64 lo := hd 0 (by decide +kernel) (by decide) (by decide)
      have e9 : u 9 = .int .i64 (amV lo c.chi n2) := hd 9 (by decide +kernel) (by decide) (by decide)
      refine wpOp_of rfl (by rfl) ?_
      go_simp
      refine (lspan_any lo (amV lo c.chi n2) _).mono ?_
      rintro e w' ⟨rfl, hb⟩
      exact k_of (HK.out (.agg #[.int .i64 lo, .int .i64 (amV lo c.chi n2)]) _ rfl (hon _ _ hB.out hb) hb) (by rw [← u1_eq e0, ← u1_eq e9]; kernel_rfl)
    · intro _ _ u W hB hv hd K hK
      have HK := Lib.hid hK; clear hK
      refine wpOp_of rfl (by rfl) ?_
      go_simp
      exact k_of (HK.out (.pointer (some ⟨MB, 3, none⟩)) _ rfl hB (Below.refl _ _)) (by kernel_rfl)
    · intro _ ha; exact absurd (by decide) ha
  case done =>
    intro L u W hL hB hd hV
    have hv0 := hV.ok ⟨none, MB, 12, 34, #[.int .i64 c.wax, .int .i64 c.dia, .int .i64 dr, .int .i64 c.clo, .int .i64 c.chi], #[.int .i64 c.wax, .int .i64 c.dia, .int .i64 dr, .int .i64 lo, .int .i64 (amV lo c.chi n2)]⟩ (by simp)
    have hB0 := hv0.2 (MB) ⟨rfl, hg0⟩
    rw [if_pos (hL 12 (by decide))] at hB0
    exact k_of (HQ.out u W hB.out hB0) (rfl)
end Go.Proofs.Ytkjfommdeljefaa
