/- Wicks and candles: how a candle burns, what can be wrong with it: the mathematics, apart from the program. -/
import Derived.Lib.Hide
namespace Go.Proofs.Ytkjfommdeljefaa

/-- The rest of a name, behind a byte. -/
def nameRest : Nat → List UInt8 → Bool
  | bef, [] => bef != 45
  | bef, c :: cs => if 97 ≤ c.toNat ∧ c.toNat ≤ 122 then nameRest c.toNat cs else if c.toNat = 45 ∧ bef ≠ 45 then nameRest 45 cs else false
def nameB (s : ByteArray) : Bool := decide (s.size ≤ 20) && nameRest 45 s.data.toList
/-- The error of a name among those before it. -/
def nameErr (bef : List ByteArray) (s : ByteArray) : Int := if nameB s then (if bef.any (fun y => y.toList == s.toList) then 5 else 0) else 6
def inB (n lo hi : Int) : Bool := decide (lo ≤ n) && decide (n ≤ hi)
theorem inB_iff {n lo hi : Int} : inB n lo hi = true ↔ lo ≤ n ∧ n ≤ hi := by simp [inB]
theorem inB_t {n lo hi : Int} (h1 : lo ≤ n) (h2 : n ≤ hi) : inB n lo hi = true := by simp [inB, h1, h2]
theorem inB_f {n lo hi : Int} (h : ¬ (lo ≤ n ∧ n ≤ hi)) : inB n lo hi = false := by
  unfold inB
  rw [Bool.and_eq_false_iff, decide_eq_false_iff_not, decide_eq_false_iff_not]
  omega
def emptyB (x : Int × Int) : Bool := decide (x.2 < x.1)
/-- The error of numbers that have to be from a to b. -/
def rangeE (a b : Int) (l : List Int) : Int := if l.all (fun x => inB x a b) = true then 0 else 7
theorem rangeE_cons (a b x : Int) (l : List Int) : rangeE a b (x :: l) = if inB x a b = true then rangeE a b l else 7 := by
  unfold rangeE
  rw [List.all_cons]
  cases inB x a b <;> simp
theorem rangeE_zero {a b : Int} {l : List Int} : rangeE a b l = 0 ↔ ∀ x ∈ l, a ≤ x ∧ x ≤ b := by
  unfold rangeE
  by_cases h : l.all (fun x => inB x a b) = true
  · rw [if_pos h]
    simp only [List.all_eq_true, inB_iff] at h
    simpa using h
  · rw [if_neg h]
    simp only [List.all_eq_true, inB_iff] at h
    simpa using h
def orderE (l : List (Int × Int)) : Int := if l.any emptyB = true then 2 else 0
theorem orderE_zero {l : List (Int × Int)} : orderE l = 0 ↔ ∀ x ∈ l, x.1 ≤ x.2 := by
  unfold orderE
  by_cases h : l.any emptyB = true
  · rw [if_pos h]
    simp only [List.any_eq_true, emptyB, decide_eq_true_eq] at h
    obtain ⟨x, hx, hl⟩ := h
    constructor
    · intro h2; cases h2
    · intro h2; have := h2 x hx; omega
  · rw [if_neg h]
    simp only [List.any_eq_true, emptyB, decide_eq_true_eq] at h
    refine ⟨fun _ x hx => ?_, fun _ => rfl⟩
    by_cases hl : x.1 ≤ x.2
    · exact hl
    · exact absurd ⟨x, hx, by omega⟩ h
/-- The first of some errors. -/
def orE : List Int → Int
  | [] => 0
  | e :: l => if e ≠ 0 then e else orE l
theorem orE_zero : ∀ {l : List Int}, orE l = 0 ↔ ∀ e ∈ l, e = 0
  | [] => by simp [orE]
  | e :: l => by
    unfold orE
    by_cases h : e = 0
    · subst h
      simp [orE_zero]
    · simp [h]
/-- The error of a range, as the reference tells it. -/
def spanErr (x : Int × Int) (a b : Int) : Int := if inB x.1 a b = false ∨ inB x.2 a b = false then 7 else if x.2 < x.1 then 2 else 0
theorem spanErr_or (x : Int × Int) (a b : Int) : spanErr x a b = orE [rangeE a b [x.1, x.2], orderE [x]] := by
  unfold spanErr orderE rangeE
  simp only [List.all_cons, List.all_nil, List.any_cons, List.any_nil, emptyB, Bool.or_false, Bool.and_true, decide_eq_true_eq]
  cases inB x.1 a b <;> cases inB x.2 a b <;> by_cases h : x.2 < x.1 <;> simp [orE, h]

/-- The first number below n at which f is not 0. -/
def firstAt (f : Nat → Int) (n : Nat) : Option (Nat × Int) := ((List.range n).find? fun i => f i != 0).map fun i => (i, f i)
theorem firstAt_hit {f : Nat → Int} {n k : Nat} (h : ∀ i, i < k → f i = 0) (hk : k < n) (hf : f k ≠ 0) : firstAt f n = some (k, f k) := by
  unfold firstAt
  have : (List.range n).find? (fun i => f i != 0) = some k := by
    rw [List.find?_range_eq_some]
    exact ⟨by simp [hf], by simpa using hk, fun j hj => by simp [h j hj]⟩
  rw [this]; rfl
theorem firstAt_none {f : Nat → Int} {n : Nat} (h : ∀ i, i < n → f i = 0) : firstAt f n = none := by
  unfold firstAt
  have : (List.range n).find? (fun i => f i != 0) = none := by
    rw [List.find?_eq_none]
    intro i hi
    simp [h i (by simpa using hi)]
  rw [this]; rfl
theorem firstAt_zero {f : Nat → Int} {n : Nat} (h : firstAt f n = none) : ∀ i, i < n → f i = 0 := by
  intro i hi
  unfold firstAt at h
  rw [Option.map_eq_none_iff, List.find?_eq_none] at h
  have := h i (by simpa using hi)
  simpa using this
theorem firstAt_ne {f : Nat → Int} {n k : Nat} {e : Int} (h : firstAt f n = some (k, e)) : e ≠ 0 := by
  unfold firstAt at h
  rw [Option.map_eq_some_iff] at h
  obtain ⟨j, hj, hh⟩ := h
  cases hh
  have := List.find?_some hj
  simpa using this

/-- A wick, a wax, a shop, a candle; a truth, and how it burns. -/
structure Wk where
  nm : ByteArray
  th : Int
  plo : Int
  phi : Int
structure Wx where
  nm : ByteArray
  flo : Int
  fhi : Int
  rlo : Int
  rhi : Int
  slo : Int
  shi : Int
  ch : Int
structure Sh where
  ks : List Wk
  xs : List Wx
  flo : Int
  fhi : Int
  plo : Int
  phi : Int
structure Cd where
  wax : Int
  dia : Int
  dra : Int
  clo : Int
  chi : Int
structure Tu where
  pull : Int
  flow : Int
  rise : Int
  spr : Int
  dra : Int
  cold : Int
structure Bn where
  rate : Int
  flame : Int
  pool : Int

/-- The error of a wick, of a wax, of a shop. -/
def wickE (l : List Wk) (i : Nat) : Int := match l[i]? with
  | some x => orE [nameErr ((l.take i).map Wk.nm) x.nm, rangeE 1 100 [x.th], rangeE 1 1000 [x.plo, x.phi], orderE [(x.plo, x.phi)]]
  | none => 0
def waxE (l : List Wx) (i : Nat) : Int := match l[i]? with
  | some x => orE [nameErr ((l.take i).map Wx.nm) x.nm, rangeE 0 50 [x.ch], rangeE 1 300 [x.flo, x.fhi], rangeE 1 1000 [x.rlo, x.rhi], rangeE 1 2000 [x.slo, x.shi], orderE [(x.flo, x.fhi), (x.rlo, x.rhi), (x.slo, x.shi)]]
  | none => 0
def boundE (s : Sh) : Int := if inB s.ks.length 1 12 = true ∧ inB s.xs.length 1 6 = true then orE [rangeE 0 2000 [s.flo, s.fhi, s.plo, s.phi], orderE [(s.flo, s.fhi), (s.plo, s.phi)]] else 3
def checkOf (b : Int) (k x : Option (Nat × Int)) : Int × Int × Int := if b ≠ 0 then (1, 0, b) else match k with
  | some (i, e) => (2, i, e)
  | none => match x with
    | some (i, e) => (3, i, e)
    | none => (0, 0, 0)
def checkS (s : Sh) : Int × Int × Int := checkOf (boundE s) (firstAt (wickE s.ks) s.ks.length) (firstAt (waxE s.xs) s.xs.length)
def shopE (s : Sh) : Int := (checkS s).2.2
def idxE (n : Nat) (i : Int) : Int := if inB i 0 (n - 1) = true then 0 else 4
def candE (s : Sh) (c : Cd) : Int := orE [idxE s.xs.length c.wax, rangeE 1 2000 [c.dia], rangeE 0 90 [c.dra], rangeE 0 300 [c.clo, c.chi], orderE [(c.clo, c.chi)]]
def askE (s : Sh) (k : Int) (c : Cd) : Int := orE [shopE s, idxE s.ks.length k, candE s c]

/-- A valid wick, wax, shop, candle. -/
structure WkOk (x : Wk) : Prop where
  th : 1 ≤ x.th ∧ x.th ≤ 100
  p : 1 ≤ x.plo ∧ x.plo ≤ x.phi ∧ x.phi ≤ 1000
structure WxOk (x : Wx) : Prop where
  ch : 0 ≤ x.ch ∧ x.ch ≤ 50
  f : 1 ≤ x.flo ∧ x.flo ≤ x.fhi ∧ x.fhi ≤ 300
  r : 1 ≤ x.rlo ∧ x.rlo ≤ x.rhi ∧ x.rhi ≤ 1000
  s : 1 ≤ x.slo ∧ x.slo ≤ x.shi ∧ x.shi ≤ 2000
structure ShOk (s : Sh) : Prop where
  nk : 1 ≤ s.ks.length ∧ s.ks.length ≤ 12
  nx : 1 ≤ s.xs.length ∧ s.xs.length ≤ 6
  fl : 0 ≤ s.flo ∧ s.flo ≤ s.fhi ∧ s.fhi ≤ 2000
  po : 0 ≤ s.plo ∧ s.plo ≤ s.phi ∧ s.phi ≤ 2000
  ks : ∀ x ∈ s.ks, WkOk x
  xs : ∀ x ∈ s.xs, WxOk x
structure CdOk (s : Sh) (c : Cd) : Prop where
  wax : 0 ≤ c.wax ∧ c.wax < s.xs.length
  dia : 1 ≤ c.dia ∧ c.dia ≤ 2000
  dra : 0 ≤ c.dra ∧ c.dra ≤ 90
  cold : 0 ≤ c.clo ∧ c.clo ≤ c.chi ∧ c.chi ≤ 300
theorem shopE_ok {s : Sh} (h : shopE s = 0) : ShOk s := by
  unfold shopE checkS checkOf at h
  by_cases hb : boundE s = 0
  · rw [if_neg (by simpa using hb)] at h
    cases h1 : firstAt (wickE s.ks) s.ks.length with
    | some x => rw [h1] at h; exact absurd h (firstAt_ne h1)
    | none =>
      rw [h1] at h
      cases h2 : firstAt (waxE s.xs) s.xs.length with
      | some x => rw [h2] at h; exact absurd h (firstAt_ne h2)
      | none =>
        unfold boundE at hb
        split at hb
        · rename_i hn
          rw [orE_zero] at hb
          have e1 := rangeE_zero.1 (hb (rangeE 0 2000 [s.flo, s.fhi, s.plo, s.phi]) (by simp))
          have e2 := orderE_zero.1 (hb (orderE [(s.flo, s.fhi), (s.plo, s.phi)]) (by simp))
          simp only [List.mem_cons, List.not_mem_nil, or_false, forall_eq_or_imp, forall_eq, inB_iff] at e1 e2 hn
          refine ⟨by omega, by omega, by omega, by omega, fun x hx => ?_, fun x hx => ?_⟩
          · obtain ⟨i, hi, rfl⟩ := List.getElem_of_mem hx
            have h3 := firstAt_zero h1 i hi
            simp only [wickE, List.getElem?_eq_getElem hi] at h3
            rw [orE_zero] at h3
            simp only [List.mem_cons, List.not_mem_nil, or_false, forall_eq_or_imp, forall_eq, rangeE_zero, orderE_zero] at h3
            exact ⟨by omega, by omega⟩
          · obtain ⟨i, hi, rfl⟩ := List.getElem_of_mem hx
            have h3 := firstAt_zero h2 i hi
            simp only [waxE, List.getElem?_eq_getElem hi] at h3
            rw [orE_zero] at h3
            simp only [List.mem_cons, List.not_mem_nil, or_false, forall_eq_or_imp, forall_eq, rangeE_zero, orderE_zero] at h3
            exact ⟨by omega, by omega, by omega, by omega⟩
        · simp at hb
  · rw [if_pos hb] at h
    exact absurd h hb
theorem idxE_zero {n : Nat} {i : Int} : idxE n i = 0 ↔ 0 ≤ i ∧ i < n := by
  unfold idxE
  by_cases h : inB i 0 (n - 1) = true
  · rw [if_pos h]; rw [inB_iff] at h; omega
  · rw [if_neg h]; rw [inB_iff] at h; omega
theorem candE_zero {s : Sh} {c : Cd} : candE s c = 0 ↔ CdOk s c := by
  unfold candE
  rw [orE_zero]
  simp only [List.mem_cons, List.not_mem_nil, or_false, forall_eq_or_imp, forall_eq, rangeE_zero, orderE_zero, idxE_zero]
  constructor
  · intro h; exact ⟨by omega, by omega, by omega, by omega⟩
  · intro h
    have h1 := h.wax; have h2 := h.dia; have h3 := h.dra; have h4 := h.cold
    omega
theorem askE_zero {s : Sh} {k : Int} {c : Cd} : askE s k c = 0 ↔ shopE s = 0 ∧ (0 ≤ k ∧ k < s.ks.length) ∧ candE s c = 0 := by
  unfold askE
  rw [orE_zero]
  simp only [List.mem_cons, List.not_mem_nil, or_false, forall_eq_or_imp, forall_eq, idxE_zero]

/-- The truths at the ends, and how a candle burns in a truth. -/
def weakT (k : Wk) (x : Wx) (c : Cd) : Tu := ⟨k.plo, x.flo, x.rlo, x.slo, -c.dra, c.chi⟩
def strongT (k : Wk) (x : Wx) (c : Cd) : Tu := ⟨k.phi, x.fhi, x.rhi, x.shi, c.dra, c.clo⟩
def drawn (t : Tu) : Int := t.pull * t.flow * (100 + t.dra)
def burn (x : Wx) (t : Tu) : Bn := ⟨drawn t * 100, drawn t * t.rise, drawn t * t.spr - t.cold * x.ch * 100000⟩
/-- A truth of a candle with a wick. -/
structure TuOk (k : Wk) (x : Wx) (c : Cd) (t : Tu) : Prop where
  pull : k.plo ≤ t.pull ∧ t.pull ≤ k.phi
  flow : x.flo ≤ t.flow ∧ t.flow ≤ x.fhi
  rise : x.rlo ≤ t.rise ∧ t.rise ≤ x.rhi
  spr : x.slo ≤ t.spr ∧ t.spr ≤ x.shi
  dra : -c.dra ≤ t.dra ∧ t.dra ≤ c.dra
  cold : c.clo ≤ t.cold ∧ t.cold ≤ c.chi
def tuB (k : Wk) (x : Wx) (c : Cd) (t : Tu) : Bool := inB t.pull k.plo k.phi && inB t.flow x.flo x.fhi && inB t.rise x.rlo x.rhi && inB t.spr x.slo x.shi && inB t.dra (-c.dra) c.dra && inB t.cold c.clo c.chi
theorem tuB_iff {k : Wk} {x : Wx} {c : Cd} {t : Tu} : tuB k x c t = true ↔ TuOk k x c t := by
  unfold tuB
  simp only [Bool.and_eq_true, inB_iff]
  constructor
  · rintro ⟨⟨⟨⟨⟨h1, h2⟩, h3⟩, h4⟩, h5⟩, h6⟩; exact ⟨h1, h2, h3, h4, h5, h6⟩
  · intro h; exact ⟨⟨⟨⟨⟨h.pull, h.flow⟩, h.rise⟩, h.spr⟩, h.dra⟩, h.cold⟩
/-- The numbers of a truth are as great as a program's words hold. -/
structure TuIn (t : Tu) : Prop where
  pull : 1 ≤ t.pull ∧ t.pull ≤ 1000
  flow : 1 ≤ t.flow ∧ t.flow ≤ 300
  rise : 1 ≤ t.rise ∧ t.rise ≤ 1000
  spr : 1 ≤ t.spr ∧ t.spr ≤ 2000
  dra : -90 ≤ t.dra ∧ t.dra ≤ 90
  cold : 0 ≤ t.cold ∧ t.cold ≤ 300
section
variable {s : Sh} {k : Wk} {x : Wx} {c : Cd} {t u : Tu}
theorem TuOk.in_ (h : TuOk k x c t) (hk : WkOk k) (hx : WxOk x) (hc : CdOk s c) : TuIn t := by
  have a1 := h.pull; have a2 := h.flow; have a3 := h.rise; have a4 := h.spr; have a5 := h.dra; have a6 := h.cold
  have b1 := hk.p; have b2 := hx.f; have b3 := hx.r; have b4 := hx.s; have b5 := hc.dra; have b6 := hc.cold
  exact ⟨by omega, by omega, by omega, by omega, by omega, by omega⟩
theorem weak_ok (hk : WkOk k) (hx : WxOk x) (hc : CdOk s c) : TuOk k x c (weakT k x c) := by
  have b1 := hk.p; have b2 := hx.f; have b3 := hx.r; have b4 := hx.s; have b5 := hc.dra; have b6 := hc.cold
  exact ⟨⟨Int.le_refl _, b1.2.1⟩, ⟨Int.le_refl _, b2.2.1⟩, ⟨Int.le_refl _, b3.2.1⟩, ⟨Int.le_refl _, b4.2.1⟩, ⟨Int.le_refl _, by show -c.dra ≤ c.dra; omega⟩, ⟨b6.2.1, Int.le_refl _⟩⟩
theorem strong_ok (hk : WkOk k) (hx : WxOk x) (hc : CdOk s c) : TuOk k x c (strongT k x c) := by
  have b1 := hk.p; have b2 := hx.f; have b3 := hx.r; have b4 := hx.s; have b5 := hc.dra; have b6 := hc.cold
  exact ⟨⟨b1.2.1, Int.le_refl _⟩, ⟨b2.2.1, Int.le_refl _⟩, ⟨b3.2.1, Int.le_refl _⟩, ⟨b4.2.1, Int.le_refl _⟩, ⟨by show -c.dra ≤ c.dra; omega, Int.le_refl _⟩, ⟨Int.le_refl _, b6.2.1⟩⟩
theorem drawn_mono (h1 : 0 ≤ t.pull) (h2 : 0 ≤ t.flow) (h3 : 0 ≤ 100 + t.dra) (e1 : t.pull ≤ u.pull) (e2 : t.flow ≤ u.flow) (e3 : t.dra ≤ u.dra) : drawn t ≤ drawn u := by
  unfold drawn
  have a : t.pull * t.flow ≤ u.pull * u.flow := Int.mul_le_mul e1 e2 h2 (by omega)
  exact Int.mul_le_mul a (by omega) h3 (Int.mul_nonneg (by omega) (by omega))
theorem drawn_in (h : TuIn t) : 10 ≤ drawn t ∧ drawn t ≤ 57000000 ∧ 1 ≤ t.pull * t.flow ∧ t.pull * t.flow ≤ 300000 := by
  have a1 := h.pull; have a2 := h.flow; have a5 := h.dra
  have p1 : 1 * 1 ≤ t.pull * t.flow := Int.mul_le_mul a1.1 a2.1 (by omega) (by omega)
  have p2 : t.pull * t.flow ≤ 1000 * 300 := Int.mul_le_mul a1.2 a2.2 (by omega) (by omega)
  have q1 : 1 * 10 ≤ t.pull * t.flow * (100 + t.dra) := Int.mul_le_mul (by omega) (by omega) (by omega) (by omega)
  have q2 : t.pull * t.flow * (100 + t.dra) ≤ 300000 * 190 := Int.mul_le_mul (by omega) (by omega) (by omega) (by omega)
  unfold drawn
  omega
theorem burn_mono (hx : 0 ≤ x.ch) (h : TuIn t) (_h' : TuIn u) (e1 : t.pull ≤ u.pull) (e2 : t.flow ≤ u.flow) (e3 : t.dra ≤ u.dra) (e4 : t.rise ≤ u.rise) (e5 : t.spr ≤ u.spr) (e6 : u.cold ≤ t.cold) :
    (burn x t).rate ≤ (burn x u).rate ∧ (burn x t).flame ≤ (burn x u).flame ∧ (burn x t).pool ≤ (burn x u).pool := by
  have d := drawn_mono (t := t) (u := u) (by have := h.pull; omega) (by have := h.flow; omega) (by have := h.dra; omega) e1 e2 e3
  have d1 := (drawn_in h).1
  have r := h.rise; have s := h.spr
  have f1 : drawn t * t.rise ≤ drawn u * u.rise := Int.mul_le_mul d e4 (by omega) (by omega)
  have f2 : drawn t * t.spr ≤ drawn u * u.spr := Int.mul_le_mul d e5 (by omega) (by omega)
  have f3 : u.cold * x.ch ≤ t.cold * x.ch := Int.mul_le_mul_of_nonneg_right e6 hx
  simp only [burn]
  omega
theorem burn_weak (hk : WkOk k) (hx : WxOk x) (hc : CdOk s c) (h : TuOk k x c t) : (burn x (weakT k x c)).rate ≤ (burn x t).rate ∧ (burn x (weakT k x c)).flame ≤ (burn x t).flame ∧ (burn x (weakT k x c)).pool ≤ (burn x t).pool :=
  burn_mono hx.ch.1 ((weak_ok hk hx hc).in_ hk hx hc) (h.in_ hk hx hc) h.pull.1 h.flow.1 h.dra.1 h.rise.1 h.spr.1 h.cold.2
theorem burn_strong (hk : WkOk k) (hx : WxOk x) (hc : CdOk s c) (h : TuOk k x c t) : (burn x t).rate ≤ (burn x (strongT k x c)).rate ∧ (burn x t).flame ≤ (burn x (strongT k x c)).flame ∧ (burn x t).pool ≤ (burn x (strongT k x c)).pool :=
  burn_mono hx.ch.1 (h.in_ hk hx hc) ((strong_ok hk hx hc).in_ hk hx hc) h.pull.2 h.flow.2 h.dra.2 h.rise.2 h.spr.2 h.cold.1
/-- How great what burns is. -/
structure BnIn (b : Bn) : Prop where
  rate : 1000 ≤ b.rate ∧ b.rate ≤ 5700000000
  flame : 10 ≤ b.flame ∧ b.flame ≤ 57000000000
  pool : -1500000000 ≤ b.pool ∧ b.pool ≤ 114000000000
theorem burn_in (h : TuIn t) (hx : WxOk x) : BnIn (burn x t) := by
  have d := drawn_in h
  have r := h.rise; have s := h.spr; have cc := h.cold; have ch := hx.ch
  have f1 : 10 * 1 ≤ drawn t * t.rise := Int.mul_le_mul d.1 r.1 (by omega) (by omega)
  have f2 : drawn t * t.rise ≤ 57000000 * 1000 := Int.mul_le_mul d.2.1 r.2 (by omega) (by omega)
  have f3 : 10 * 1 ≤ drawn t * t.spr := Int.mul_le_mul d.1 s.1 (by omega) (by omega)
  have f4 : drawn t * t.spr ≤ 57000000 * 2000 := Int.mul_le_mul d.2.1 s.2 (by omega) (by omega)
  have f5 : 0 ≤ t.cold * x.ch := Int.mul_nonneg cc.1 ch.1
  have f6 : t.cold * x.ch ≤ 300 * 50 := Int.mul_le_mul cc.2 ch.2 ch.1 (by omega)
  refine ⟨?_, ?_, ?_⟩ <;> simp only [burn] <;> omega
end
end Go.Proofs.Ytkjfommdeljefaa
