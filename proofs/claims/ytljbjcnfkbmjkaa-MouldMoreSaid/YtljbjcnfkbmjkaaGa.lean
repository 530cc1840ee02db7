/- Layer mould, a part: the mathematics of rings, plans and hollows. No statement is proved here. -/
import Derived.Lib.Hide
namespace Go.Proofs.Ytljbjcnfkbmjkaa

/-- A mould, its numbers alone. -/
structure Md where
  rings : Int
  give : Int
  plo : Int
  phi : Int
  wlo : Int
  whi : Int
  st : Int
  shrink : Int
  skin : Int
  fill : Int
  gap : Int
  deep : Int

/-- All numbers of a mould are as stated. -/
structure MdIn (m : Md) : Prop where
  rings : 1 ≤ m.rings ∧ m.rings ≤ 8
  give : 1 ≤ m.give ∧ m.give ≤ 500
  plo : 0 ≤ m.plo ∧ m.plo ≤ 2000
  phi : 0 ≤ m.phi ∧ m.phi ≤ 2000
  wlo : 0 ≤ m.wlo ∧ m.wlo ≤ 2000
  whi : 0 ≤ m.whi ∧ m.whi ≤ 2000
  st : 0 ≤ m.st ∧ m.st ≤ 2000
  shrink : 0 ≤ m.shrink ∧ m.shrink ≤ 200
  skin : 0 ≤ m.skin ∧ m.skin ≤ m.rings
  fill : 1 ≤ m.fill ∧ m.fill ≤ 100000
  gap : 1 ≤ m.gap ∧ m.gap ≤ 60
  deep : 0 ≤ m.deep ∧ m.deep ≤ 100000
structure MdOk (m : Md) : Prop extends MdIn m where
  pour : m.plo ≤ m.phi
  wall : m.wlo ≤ m.whi

/-- n is from a to b. -/
def inB (n a b : Int) : Bool := decide (a ≤ n) && decide (n ≤ b)
theorem inB_iff {n a b : Int} : inB n a b = true ↔ a ≤ n ∧ n ≤ b := by simp [inB]

def mdInB (m : Md) : Bool :=
  inB m.rings 1 8 && inB m.give 1 500 && inB m.plo 0 2000 && inB m.phi 0 2000 && inB m.wlo 0 2000 && inB m.whi 0 2000 && inB m.st 0 2000 && inB m.shrink 0 200 && inB m.skin 0 m.rings && inB m.fill 1 100000 && inB m.gap 1 60 && inB m.deep 0 100000
theorem mdInB_iff (m : Md) : mdInB m = true ↔ MdIn m := by
  unfold mdInB
  simp only [Bool.and_eq_true, inB_iff]
  constructor
  · rintro ⟨⟨⟨⟨⟨⟨⟨⟨⟨⟨⟨a, b⟩, c⟩, d⟩, e⟩, f⟩, g⟩, h⟩, i⟩, j⟩, k⟩, l⟩
    exact ⟨a, b, c, d, e, f, g, h, i, j, k, l⟩
  · rintro ⟨a, b, c, d, e, f, g, h, i, j, k, l⟩
    exact ⟨⟨⟨⟨⟨⟨⟨⟨⟨⟨⟨a, b⟩, c⟩, d⟩, e⟩, f⟩, g⟩, h⟩, i⟩, j⟩, k⟩, l⟩
def checkM (m : Md) : Int := if mdInB m = true then (if m.plo > m.phi ∨ m.wlo > m.whi then 2 else 0) else 7
theorem checkM_ok {m : Md} : checkM m = 0 ↔ MdOk m := by
  unfold checkM
  by_cases h : mdInB m = true
  · rw [if_pos h]
    have h2 := (mdInB_iff m).1 h
    by_cases h3 : m.plo > m.phi ∨ m.wlo > m.whi
    · rw [if_pos h3]
      constructor
      · intro h; cases h
      · rintro ⟨-, h4, h5⟩; omega
    · rw [if_neg h3]
      exact ⟨fun _ => ⟨h2, by omega, by omega⟩, fun _ => rfl⟩
  · rw [if_neg h]
    constructor
    · intro h; cases h
    · rintro ⟨h4, -, -⟩; exact absurd ((mdInB_iff m).2 h4) h

/-- The warmth of all rings a minute later: 'before' is how warm the ring before was. -/
def nextL (g : Int) (before : Int) : List Int → List Int
  | [] => []
  | [x] => [(g * before + g * x + (1000 - 2 * g) * x) / 1000]
  | x :: y :: r => (g * before + g * y + (1000 - 2 * g) * x) / 1000 :: nextL g x (y :: r)
theorem nextL_length (g : Int) : ∀ (l : List Int) (b : Int), (nextL g b l).length = l.length
  | [], _ => rfl
  | [_], _ => rfl
  | x :: y :: r, b => by simp [nextL, nextL_length g (y :: r) x]

/-- No number of the one list is above that of the other. -/
def Lle : List Int → List Int → Prop
  | [], [] => True
  | a :: l, b :: m => a ≤ b ∧ Lle l m
  | _, _ => False
theorem Lle.refl : ∀ l : List Int, Lle l l
  | [] => trivial
  | _ :: l => ⟨Int.le_refl _, Lle.refl l⟩
theorem Lle.length : ∀ {l m : List Int}, Lle l m → l.length = m.length
  | [], [], _ => rfl
  | _ :: l, _ :: m, h => by simp [Lle.length h.2]
theorem Lle.get : ∀ {l m : List Int}, Lle l m → ∀ {i : Nat} {a b : Int}, l[i]? = some a → m[i]? = some b → a ≤ b
  | [], [], _, i, a, b, h, _ => by simp at h
  | x :: l, y :: m, h, 0, a, b, ha, hb => by
    simp only [List.getElem?_cons_zero, Option.some.injEq] at ha hb
    subst ha; subst hb; exact h.1
  | x :: l, y :: m, h, i + 1, a, b, ha, hb => by
    simp only [List.getElem?_cons_succ] at ha hb
    exact Lle.get h.2 ha hb
theorem Lle.of_get : ∀ {l m : List Int}, l.length = m.length → (∀ (i : Nat) (a b : Int), l[i]? = some a → m[i]? = some b → a ≤ b) → Lle l m
  | [], [], _, _ => trivial
  | x :: l, y :: m, hl, h => ⟨h 0 x y rfl rfl, Lle.of_get (by simpa using hl) (fun i a b ha hb => h (i + 1) a b (by simpa using ha) (by simpa using hb))⟩
  | [], _ :: _, hl, _ => by simp at hl
  | _ :: _, [], hl, _ => by simp at hl
theorem Lle.trans : ∀ {a b c : List Int}, Lle a b → Lle b c → Lle a c
  | [], [], [], _, _ => trivial
  | _ :: _a, _ :: _b, _ :: _c, h, k => ⟨Int.le_trans h.1 k.1, Lle.trans h.2 k.2⟩
theorem Lle.lo : ∀ {l : List Int} {n : Nat} {a : Int}, l.length = n → (∀ x ∈ l, a ≤ x) → Lle (List.replicate n a) l
  | [], n, a, hn, _ => by subst hn; exact trivial
  | x :: l, n, a, hn, h => by
    subst hn
    exact ⟨h x (by simp), Lle.lo rfl (fun y hy => h y (by simp [hy]))⟩
theorem Lle.hi : ∀ {l : List Int} {n : Nat} {a : Int}, l.length = n → (∀ x ∈ l, x ≤ a) → Lle l (List.replicate n a)
  | [], n, a, hn, _ => by subst hn; exact trivial
  | x :: l, n, a, hn, h => by
    subst hn
    exact ⟨h x (by simp), Lle.hi rfl (fun y hy => h y (by simp [hy]))⟩
theorem Lle.mem_lo : ∀ {l : List Int} {n : Nat} {a : Int}, Lle (List.replicate n a) l → ∀ x ∈ l, a ≤ x
  | [], _, _, _, x, hx => by cases hx
  | y :: l, 0, _, h, _, _ => by simp [Lle] at h
  | y :: l, n + 1, a, h, x, hx => by
    rw [List.replicate_succ] at h
    rcases List.mem_cons.1 hx with rfl | hx
    · exact h.1
    · exact Lle.mem_lo h.2 x hx
theorem Lle.mem_hi : ∀ {l : List Int} {n : Nat} {a : Int}, Lle l (List.replicate n a) → ∀ x ∈ l, x ≤ a
  | [], _, _, _, x, hx => by cases hx
  | y :: l, 0, _, h, _, _ => by simp [Lle] at h
  | y :: l, n + 1, a, h, x, hx => by
    rw [List.replicate_succ] at h
    rcases List.mem_cons.1 hx with rfl | hx
    · exact h.1
    · exact Lle.mem_hi h.2 x hx

theorem next_mono1 {g b b' x x' y y' : Int} (hg : 0 ≤ g) (hg2 : g ≤ 500) (hb : b ≤ b') (hx : x ≤ x') (hy : y ≤ y') :
    (g * b + g * y + (1000 - 2 * g) * x) / 1000 ≤ (g * b' + g * y' + (1000 - 2 * g) * x') / 1000 := by
  have h1 := Int.mul_le_mul_of_nonneg_left hb hg
  have h2 := Int.mul_le_mul_of_nonneg_left hy hg
  have h3 := Int.mul_le_mul_of_nonneg_left hx (show 0 ≤ 1000 - 2 * g by omega)
  exact Int.ediv_le_ediv (by decide) (by omega)
theorem nextL_mono {g : Int} (hg : 0 ≤ g) (hg2 : g ≤ 500) : ∀ {l l' : List Int} {b b' : Int}, b ≤ b' → Lle l l' → Lle (nextL g b l) (nextL g b' l')
  | [], [], _, _, _, _ => trivial
  | [_x], [_x'], _b, _b', hb, h => ⟨next_mono1 hg hg2 hb h.1 h.1, trivial⟩
  | _x :: _y :: _r, _x' :: _y' :: _r', _b, _b', hb, h => ⟨next_mono1 hg hg2 hb h.1 h.2.1, nextL_mono hg hg2 h.1 h.2⟩
  | [], _ :: _, _, _, _, h => h.elim
  | _ :: _, [], _, _, _, h => h.elim
  | [_], _ :: _ :: _, _, _, _, h => h.2.elim
  | _ :: _ :: _, [_], _, _, _, h => h.2.elim
theorem next_even1 (g w : Int) : (g * w + g * w + (1000 - 2 * g) * w) / 1000 = w := by
  have h : g * w + g * w + (1000 - 2 * g) * w = 1000 * w := by rw [Int.sub_mul, Int.mul_assoc]; omega
  rw [h]; omega
theorem nextL_even (g w : Int) : ∀ n : Nat, nextL g w (List.replicate n w) = List.replicate n w
  | 0 => rfl
  | 1 => by show [_] = [_]; rw [next_even1]
  | n + 2 => by
    show _ :: nextL g w (List.replicate (n + 1) w) = _
    rw [next_even1, nextL_even g w (n + 1)]; rfl

/-- The warmth after some minutes. -/
def afterL (g : Int) : List Int → List Int → List Int
  | l, [] => l
  | l, w :: ws => afterL g (nextL g w l) ws
theorem afterL_length (g : Int) : ∀ (ws l : List Int), (afterL g l ws).length = l.length
  | [], _ => rfl
  | w :: ws, l => by rw [afterL, afterL_length g ws, nextL_length]
theorem afterL_mono {g : Int} (hg : 0 ≤ g) (hg2 : g ≤ 500) : ∀ {ws ws' l l' : List Int}, Lle ws ws' → Lle l l' → Lle (afterL g l ws) (afterL g l' ws')
  | [], [], _, _, _, h => h
  | w :: ws, w' :: ws', l, l', hw, h => afterL_mono (ws := ws) (ws' := ws') (l := nextL g w l) (l' := nextL g w' l') hg hg2 hw.2 (nextL_mono hg hg2 hw.1 h)
theorem afterL_even (g w : Int) (k : Nat) : ∀ n : Nat, afterL g (List.replicate k w) (List.replicate n w) = List.replicate k w
  | 0 => rfl
  | n + 1 => by rw [List.replicate_succ, afterL, nextL_even, afterL_even g w k n]
theorem afterL_stays {g w : Int} {l : List Int} (h : nextL g w l = l) : ∀ n : Nat, afterL g l (List.replicate n w) = l
  | 0 => rfl
  | n + 1 => by rw [List.replicate_succ, afterL, h, afterL_stays h n]
theorem afterL_append (g : Int) : ∀ (ws vs l : List Int), afterL g l (ws ++ vs) = afterL g (afterL g l ws) vs
  | [], _, _ => rfl
  | w :: ws, vs, l => by rw [List.cons_append, afterL, afterL_append g ws vs, afterL]

/-- A ring that has not set sets in this minute, if it is cold enough. -/
def upd (st : Int) (n : Int) (o x : Int) : Int := if o < 0 ∧ x ≤ st then n else o
def updL (st n : Int) (out l : List Int) : List Int := List.zipWith (upd st n) out l
/-- In which minute each ring sets, from the minute n on; -1: in none. -/
def whenL (g st : Int) : List Int → Int → List Int → List Int → List Int
  | [], n, l, out => updL st n out l
  | w :: ws, n, l, out => whenL g st ws (n + 1) (nextL g w l) (updL st n out l)
theorem updL_length {st n : Int} {out l : List Int} (h : out.length = l.length) : (updL st n out l).length = l.length := by
  unfold updL; rw [List.length_zipWith]; omega
theorem whenL_length (g st : Int) : ∀ (ws : List Int) (n : Int) (l out : List Int), out.length = l.length → (whenL g st ws n l out).length = l.length
  | [], n, l, out, h => updL_length h
  | w :: ws, n, l, out, h => by
    rw [whenL, whenL_length g st ws _ _ _ (by rw [updL_length h, nextL_length]), nextL_length]

/-- The first one sets no later. -/
def Wle : List Int → List Int → Prop
  | [], [] => True
  | a :: l, b :: m => (b < 0 ∨ (0 ≤ a ∧ a ≤ b)) ∧ Wle l m
  | _, _ => False
def Bef (n : Int) (l : List Int) : Prop := ∀ x ∈ l, -1 ≤ x ∧ x < n
theorem upd_bef {st n o x : Int} (hn : 0 ≤ n) (h : -1 ≤ o ∧ o < n) : -1 ≤ upd st n o x ∧ upd st n o x < n + 1 := by
  unfold upd
  split <;> omega
theorem updL_bef {st n : Int} (hn : 0 ≤ n) : ∀ {out l : List Int}, Bef n out → Bef (n + 1) (updL st n out l)
  | [], l, _ => by intro x hx; simp [updL] at hx
  | o :: out, [], _ => by intro x hx; simp [updL] at hx
  | o :: out, y :: l, h => by
    intro x hx
    rcases List.mem_cons.1 hx with rfl | hx
    · exact upd_bef hn (h o (by simp))
    · exact updL_bef hn (fun z hz => h z (by simp [hz])) x hx
theorem updL_mono {st n : Int} (hn : 0 ≤ n) : ∀ {o o' l l' : List Int}, Wle o o' → Lle l l' → Bef n o → Bef n o' → Wle (updL st n o l) (updL st n o' l')
  | [], [], _, _, _, _, _, _ => by simp [updL, Wle]
  | a :: o, b :: o', [], [], _, _, _, _ => by simp [updL, Wle]
  | a :: o, b :: o', x :: l, y :: l', h, hl, ha, hb => by
    refine ⟨?_, updL_mono hn h.2 hl.2 (fun z hz => ha z (by simp [hz])) (fun z hz => hb z (by simp [hz]))⟩
    have h1 := h.1
    have h2 := hl.1
    have h3 := ha a (by simp)
    have h4 := hb b (by simp)
    unfold upd
    split <;> split <;> omega
  | a :: o, b :: o', [], y :: l', _, hl, _, _ => hl.elim
  | a :: o, b :: o', x :: l, [], _, hl, _, _ => hl.elim
theorem whenL_mono {g st : Int} (hg : 0 ≤ g) (hg2 : g ≤ 500) : ∀ {ws ws' : List Int} {n : Int} {l l' o o' : List Int}, 0 ≤ n → Lle ws ws' → Lle l l' → Wle o o' → Bef n o → Bef n o' → Wle (whenL g st ws n l o) (whenL g st ws' n l' o')
  | [], [], n, l, l', o, o', hn, _, hl, ho, h1, h2 => updL_mono hn ho hl h1 h2
  | w :: ws, w' :: ws', n, l, l', o, o', hn, hw, hl, ho, h1, h2 => whenL_mono (ws := ws) (ws' := ws') (n := n + 1) (l := nextL g w l) (l' := nextL g w' l') (o := updL st n o l) (o' := updL st n o' l') hg hg2 (by omega) hw.2 (nextL_mono hg hg2 hw.1 hl) (updL_mono hn ho hl h1 h2) (updL_bef hn h1) (updL_bef hn h2)
theorem whenL_bef {g st : Int} : ∀ {ws : List Int} {n : Int} {l o : List Int}, 0 ≤ n → Bef n o → Bef (n + ws.length + 1) (whenL g st ws n l o)
  | [], n, l, o, hn, h => by
    have := updL_bef (st := st) (l := l) hn h
    simpa [whenL] using this
  | w :: ws, n, l, o, hn, h => by
    have := whenL_bef (g := g) (st := st) (ws := ws) (l := nextL g w l) (show 0 ≤ n + 1 by omega) (updL_bef (st := st) (l := l) hn h)
    intro x hx
    have h2 := this x hx
    simp only [List.length_cons]
    omega

/-- All that have set by a minute, weighed. -/
def gsum : List Int → List Int → Int → Int
  | s :: ss, a :: as, t => (if 0 ≤ a ∧ a ≤ t then s else 0) + gsum ss as t
  | _, _, _ => 0
theorem gsum_mono {ss : List Int} (hs : ∀ s ∈ ss, 0 ≤ s) : ∀ {w w' : List Int} {t t' : Int}, Wle w w' → t' ≤ t → gsum ss w' t' ≤ gsum ss w t := by
  induction ss with
  | nil => intro w w' t t' _ _; simp [gsum]
  | cons s ss ih =>
    intro w w' t t' h ht
    match w, w', h with
    | [], [], _ => simp [gsum]
    | a :: w, b :: w', h =>
      have h1 := ih (fun x hx => hs x (by simp [hx])) (w := w) (w' := w') h.2 ht
      have h2 := h.1
      have h3 := hs s (by simp)
      simp only [gsum]
      split <;> split <;> omega
theorem gsum_nonneg {ss : List Int} (hs : ∀ s ∈ ss, 0 ≤ s) : ∀ (w : List Int) (t : Int), 0 ≤ gsum ss w t := by
  induction ss with
  | nil => intro w t; simp [gsum]
  | cons s ss ih =>
    intro w t
    cases w with
    | nil => simp [gsum]
    | cons a w =>
      have h1 := ih (fun x hx => hs x (by simp [hx])) w t
      have h3 := hs s (by simp)
      simp only [gsum]
      split <;> omega
theorem Wle.refl : ∀ {l : List Int}, Wle l l
  | [] => trivial
  | a :: l => ⟨by omega, Wle.refl⟩
/-- What all toppings pour: each at a minute, with what has shrunk by then. -/
def pourL (fill : Int) (G : Int → Int) : Int → List Int → Int
  | p, [] => p
  | p, t :: ts => pourL fill G (min (p + fill) (G t)) ts
theorem pourL_mono {fill : Int} {G H : Int → Int} : ∀ {ts ts' : List Int} {p q : Int}, p ≤ q → ts.length = ts'.length → (∀ (i : Nat) (a b : Int), ts[i]? = some a → ts'[i]? = some b → G a ≤ H b) → pourL fill G p ts ≤ pourL fill H q ts'
  | [], [], _, _, h, _, _ => h
  | t :: ts, t' :: ts', p, q, h, hl, hi => by
    refine pourL_mono (ts := ts) (ts' := ts') (p := min (p + fill) (G t)) (q := min (q + fill) (H t')) ?_ (by simpa using hl) (fun i a b ha hb => hi (i + 1) a b (by simpa using ha) (by simpa using hb))
    have := hi 0 t t' rfl rfl
    omega
  | [], _ :: _, _, _, _, hl, _ => by simp at hl
  | _ :: _, [], _, _, _, hl, _ => by simp at hl
theorem pourL_le {fill : Int} {G : Int → Int} {B : Int} (hB : ∀ t, G t ≤ B) : ∀ {ts : List Int} {p : Int}, p ≤ B → pourL fill G p ts ≤ B
  | [], _, h => h
  | t :: ts, p, h => pourL_le (ts := ts) (p := min (p + fill) (G t)) hB (by have := hB t; omega)
end Go.Proofs.Ytljbjcnfkbmjkaa

namespace Go.Proofs.Ytljbjcnfkbmjkaa

def kR (m : Md) : Nat := m.rings.toNat
/-- How warm wax is poured, and how warm the wall is, in the coldest and in the warmest truth. -/
def pourV (m : Md) (e : Bool) : Int := if e then m.phi else m.plo
def wallV (m : Md) (e : Bool) : Int := if e then m.whi else m.wlo
def samP (m : Md) (e : Bool) : List Int := List.replicate (kR m) (pourV m e)
def samW (m : Md) (e : Bool) (n : Nat) : List Int := List.replicate n (wallV m e)
def warmL (m : Md) (e : Bool) (n : Nat) : List Int := afterL m.give (samP m e) (samW m e n)
def neg1 (n : Nat) : List Int := List.replicate n (-1)
def whenM (m : Md) (ps ws : List Int) : List Int := whenL m.give m.st ws 0 ps (neg1 ps.length)
def whN (m : Md) (e : Bool) (n : Nat) : List Int := whenM m (samP m e) (samW m e n)
def wh (m : Md) (e : Bool) : List Int := whN m e 600
def shrV (m : Md) (i : Nat) : Int := m.shrink * (1 + 2 * (m.rings - 1 - i))
def shrL (m : Md) : List Int := (List.range (kR m)).map (shrV m)
def setN (w : List Int) (t : Int) : Int := gsum (List.replicate w.length 1) w t
def gM (m : Md) (w : List Int) (t : Int) : Int := gsum (shrL m) w t
def never (w : List Int) : Bool := w.any (fun x => decide (x < 0))
def zipS (a b : List Int) : List (Int × Int) := List.zipWith Prod.mk a b
def warmR (m : Md) (n : Int) : List (Int × Int) × Int :=
  if checkM m ≠ 0 then ([], checkM m) else if inB n 0 600 = true then (zipS (warmL m false n.toNat) (warmL m true n.toNat), 0) else ([], 7)
def setsR (m : Md) : List (Int × Int) × Int :=
  if checkM m ≠ 0 then ([], checkM m) else if never (wh m true) = true then ([], 9) else (zipS (wh m false) (wh m true), 0)
def skinR (m : Md) (n : Int) : (Int × Int) × Int :=
  if checkM m ≠ 0 then ((0, 0), checkM m) else if inB n 0 600 = true then ((setN (wh m true) n, setN (wh m false) n), 0) else ((0, 0), 7)
/-- The error of a truth. -/
def truthE (m : Md) (ps ws : List Int) : Int :=
  if ps.length ≠ kR m ∨ 600 < ws.length then 3 else if ps.all (fun x => inB x m.plo m.phi) = true then (if ws.all (fun x => inB x m.wlo m.whi) = true then 0 else 7) else 7
def coolR (m : Md) (ps ws : List Int) : List Int × Int :=
  if checkM m ≠ 0 then ([], checkM m) else if truthE m ps ws ≠ 0 then ([], truthE m ps ws) else (afterL m.give ps ws, 0)
/-- The error of the toppings of a plan behind one at p, if there is one. -/
def planL (gap : Int) : Option Int → List Int → Int
  | _, [] => 0
  | p, t :: ts => if inB t 0 600 = true then (match p with
    | some q => if t - q < gap then 2 else planL gap (some t) ts
    | none => planL gap (some t) ts) else 7
def planE (m : Md) (l : List Int) : Int := if 40 < l.length then 3 else planL m.gap none l
def pourM (m : Md) (w l : List Int) : Int := pourL m.fill (gM m w) 0 l
def hollM (m : Md) (w l : List Int) : Int := gM m w 600 - pourM m w l
def shut (m : Md) (w : List Int) (t : Int) : Bool := decide (setN w t > m.skin)
def pours (m : Md) (w l : List Int) : Bool := l.all (fun t => !shut m w t)
def hollR (m : Md) (l : List Int) : ((Int × Int) × (Int × Int)) × Int :=
  if checkM m ≠ 0 then (((0, 0), (0, 0)), checkM m) else if planE m l ≠ 0 then (((0, 0), (0, 0)), planE m l) else if never (wh m true) = true then (((0, 0), (0, 0)), 9)
  else if pours m (wh m false) l = true then (((hollM m (wh m false) l, hollM m (wh m true) l), (pourM m (wh m true) l, pourM m (wh m false) l)), 0) else (((0, 0), (0, 0)), 9)
/-- The last minute, at most n - 1, in which a topping can be poured; or -1. -/
def lastAt (m : Md) (w : List Int) : Nat → Int
  | 0 => -1
  | n + 1 => if shut m w n = true then lastAt m w n else n
/-- A topping more, as late as it can be, until the hollow is not too deep. -/
def fewL (m : Md) (w : List Int) : Nat → List Int → Int → List Int × Int
  | 0, _, _ => ([], 9)
  | k + 1, l, n => if hollM m w l ≤ m.deep then (l, 0) else if n < 0 ∨ l.length = 40 then ([], 9) else fewL m w k (n :: l) (n - m.gap)
def fewR (m : Md) : List Int × Int :=
  if checkM m ≠ 0 then ([], checkM m) else if never (wh m true) = true then ([], 9) else fewL m (wh m true) 42 [] (lastAt m (wh m false) 601)

theorem samP_length (m : Md) (e : Bool) : (samP m e).length = kR m := List.length_replicate
theorem samW_length (m : Md) (e : Bool) (n : Nat) : (samW m e n).length = n := List.length_replicate
theorem warmL_length (m : Md) (e : Bool) (n : Nat) : (warmL m e n).length = kR m := by rw [warmL, afterL_length, samP_length]
theorem whenM_length (m : Md) (ps ws : List Int) : (whenM m ps ws).length = ps.length := by rw [whenM, whenL_length]; simp [neg1]
theorem wh_length (m : Md) (e : Bool) : (wh m e).length = kR m := by rw [wh, whN, whenM_length, samP_length]
theorem shrL_length (m : Md) : (shrL m).length = kR m := by simp [shrL]
theorem neg1_bef (n : Nat) : Bef 0 (neg1 n) := by intro x hx; rw [neg1, List.mem_replicate] at hx; omega
theorem wle_neg1 : ∀ n : Nat, Wle (neg1 n) (neg1 n) := fun _ => Wle.refl
theorem whenM_bef (m : Md) (ps ws : List Int) : Bef (ws.length + 1) (whenM m ps ws) := by
  have h := whenL_bef (g := m.give) (st := m.st) (ws := ws) (n := 0) (l := ps) (o := neg1 ps.length) (Int.le_refl _) (neg1_bef _)
  rwa [Int.zero_add] at h
theorem kR_eq {m : Md} (h : MdIn m) : (kR m : Int) = m.rings := by have := h.rings; unfold kR; omega
theorem kR_le {m : Md} (h : MdIn m) : 1 ≤ kR m ∧ kR m ≤ 8 := by have := h.rings; unfold kR; omega
theorem shrV_nonneg {m : Md} (h : MdIn m) {i : Nat} (hi : i < kR m) : 0 ≤ shrV m i ∧ shrV m i ≤ 3000 := by
  have h1 := h.shrink
  have h2 := h.rings
  have h3 : (i : Int) < m.rings := by rw [← kR_eq h]; omega
  unfold shrV
  have h4 : 0 ≤ 1 + 2 * (m.rings - 1 - i) := by omega
  have h5 : 1 + 2 * (m.rings - 1 - (i : Int)) ≤ 15 := by omega
  refine ⟨Int.mul_nonneg h1.1 h4, ?_⟩
  have h6 := Int.mul_le_mul h1.2 h5 h4 (by decide)
  omega
theorem shrL_nonneg {m : Md} (h : MdIn m) : ∀ s ∈ shrL m, 0 ≤ s := by
  intro s hs
  simp only [shrL, List.mem_map, List.mem_range] at hs
  obtain ⟨i, hi, rfl⟩ := hs
  exact (shrV_nonneg h hi).1
theorem gsum_le (ss w : List Int) (t : Int) (hs : ∀ s ∈ ss, 0 ≤ s ∧ s ≤ 3000) : gsum ss w t ≤ 3000 * (ss.length : Int) := by
  induction ss generalizing w with
  | nil => simp [gsum]
  | cons s ss ih =>
    cases w with
    | nil => simp only [gsum, List.length_cons]; omega
    | cons a w =>
      have h1 := ih w (fun x hx => hs x (by simp [hx]))
      have h2 := hs s (by simp)
      simp only [gsum, List.length_cons]
      split <;> omega
theorem gM_bounds {m : Md} (h : MdIn m) (w : List Int) (t : Int) : 0 ≤ gM m w t ∧ gM m w t ≤ 24000 := by
  refine ⟨gsum_nonneg (shrL_nonneg h) _ _, ?_⟩
  have h1 := gsum_le (shrL m) w t (by
    intro s hs
    simp only [shrL, List.mem_map, List.mem_range] at hs
    obtain ⟨i, hi, rfl⟩ := hs
    exact shrV_nonneg h hi)
  rw [shrL_length] at h1
  have := kR_le h
  unfold gM
  omega
theorem gsum_ones (w : List Int) (t : Int) : 0 ≤ gsum (List.replicate w.length 1) w t ∧ gsum (List.replicate w.length 1) w t ≤ w.length := by
  induction w with
  | nil => simp [gsum]
  | cons a w ih =>
    simp only [List.length_cons, List.replicate_succ, gsum]
    split <;> omega
theorem pourL_bounds {fill : Int} (hf : 0 ≤ fill) {G : Int → Int} {B : Int} (hG : ∀ t, 0 ≤ G t ∧ G t ≤ B) : ∀ (l : List Int) (p : Int), 0 ≤ p ∧ p ≤ B → 0 ≤ pourL fill G p l ∧ pourL fill G p l ≤ B
  | [], _, h => h
  | t :: ts, p, h => pourL_bounds hf hG ts _ (by have := hG t; omega)
theorem pourM_bounds {m : Md} (h : MdIn m) (w l : List Int) : 0 ≤ pourM m w l ∧ pourM m w l ≤ 24000 := pourL_bounds (by have := h.fill; omega) (gM_bounds h w) l 0 (by omega)

/-- Any truth lies between the coldest one and the warmest one. -/
theorem truth_lo {m : Md} {ps : List Int} (hl : ps.length = kR m) (h : ∀ x ∈ ps, m.plo ≤ x ∧ x ≤ m.phi) : Lle (samP m false) ps ∧ Lle ps (samP m true) :=
  ⟨Lle.lo hl (fun x hx => (h x hx).1), Lle.hi hl (fun x hx => (h x hx).2)⟩
theorem wall_lo {m : Md} {ws : List Int} {n : Nat} (hl : ws.length = n) (h : ∀ x ∈ ws, m.wlo ≤ x ∧ x ≤ m.whi) : Lle (samW m false n) ws ∧ Lle ws (samW m true n) :=
  ⟨Lle.lo hl (fun x hx => (h x hx).1), Lle.hi hl (fun x hx => (h x hx).2)⟩
theorem after_between {m : Md} (h : MdIn m) {ps ws : List Int} (hp : ps.length = kR m) (hps : ∀ x ∈ ps, m.plo ≤ x ∧ x ≤ m.phi) (hws : ∀ x ∈ ws, m.wlo ≤ x ∧ x ≤ m.whi) :
    Lle (warmL m false ws.length) (afterL m.give ps ws) ∧ Lle (afterL m.give ps ws) (warmL m true ws.length) :=
  ⟨afterL_mono (by have := h.give; omega) h.give.2 (wall_lo rfl hws).1 (truth_lo hp hps).1, afterL_mono (by have := h.give; omega) h.give.2 (wall_lo rfl hws).2 (truth_lo hp hps).2⟩
theorem whenM_mono {m : Md} (h : MdIn m) {ps ps' ws ws' : List Int} (hp : Lle ps ps') (hw : Lle ws ws') : Wle (whenM m ps ws) (whenM m ps' ws') := by
  unfold whenM
  rw [hp.length]
  exact whenL_mono (by have := h.give; omega) h.give.2 (Int.le_refl _) hw hp Wle.refl (neg1_bef _) (neg1_bef _)
theorem when_betweenN {m : Md} (h : MdIn m) {ps ws : List Int} (hp : ps.length = kR m) (hps : ∀ x ∈ ps, m.plo ≤ x ∧ x ≤ m.phi) (hws : ∀ x ∈ ws, m.wlo ≤ x ∧ x ≤ m.whi) :
    Wle (whN m false ws.length) (whenM m ps ws) ∧ Wle (whenM m ps ws) (whN m true ws.length) :=
  ⟨whenM_mono h (truth_lo hp hps).1 (wall_lo rfl hws).1, whenM_mono h (truth_lo hp hps).2 (wall_lo rfl hws).2⟩
theorem when_between {m : Md} (h : MdIn m) {ps ws : List Int} (hp : ps.length = kR m) (hw : ws.length = 600) (hps : ∀ x ∈ ps, m.plo ≤ x ∧ x ≤ m.phi) (hws : ∀ x ∈ ws, m.wlo ≤ x ∧ x ≤ m.whi) :
    Wle (wh m false) (whenM m ps ws) ∧ Wle (whenM m ps ws) (wh m true) := by
  have := when_betweenN h hp hps hws
  rwa [hw] at this
theorem whN_mono {m : Md} (h : MdOk m) (n : Nat) : Wle (whN m false n) (whN m true n) := by
  have hp := h.pour
  have hw := h.wall
  refine whenM_mono h.toMdIn (Lle.hi (samP_length m false) ?_) (Lle.hi (samW_length m false n) ?_)
  · intro x hx; unfold samP at hx; rw [List.mem_replicate] at hx; simp only [pourV, Bool.false_eq_true, if_false, if_true] at hx ⊢; omega
  · intro x hx; unfold samW at hx; rw [List.mem_replicate] at hx; simp only [wallV, Bool.false_eq_true, if_false, if_true] at hx ⊢; omega
theorem wh_mono {m : Md} (h : MdOk m) : Wle (wh m false) (wh m true) := by
  unfold wh
  generalize (600 : Nat) = n
  exact whN_mono h n
theorem Wle.length : ∀ {l m : List Int}, Wle l m → l.length = m.length
  | [], [], _ => rfl
  | _ :: l, _ :: m, h => by simp [Wle.length h.2]
theorem setN_mono {w w' : List Int} {t t' : Int} (h : Wle w w') (ht : t' ≤ t) : setN w' t' ≤ setN w t := by
  unfold setN
  rw [h.length]
  exact gsum_mono (by intro s hs; rw [List.mem_replicate] at hs; omega) h ht
theorem gM_mono {m : Md} (hm : MdIn m) {w w' : List Int} {t t' : Int} (h : Wle w w') (ht : t' ≤ t) : gM m w' t' ≤ gM m w t := gsum_mono (shrL_nonneg hm) h ht
/-- Who sets in the later one sets in the earlier one, too. -/
theorem never_mono {w w' : List Int} (h : Wle w w') (hn : never w' = false) : never w = false := by
  induction w generalizing w' with
  | nil => rfl
  | cons a w ih =>
    cases w' with
    | nil => exact h.elim
    | cons b w' =>
      simp only [never, List.any_cons, Bool.or_eq_false_iff, decide_eq_false_iff_not] at hn ⊢
      have h1 := h.1
      exact ⟨by omega, ih h.2 hn.2⟩
def sumL : List Int → Int
  | [] => 0
  | s :: ss => s + sumL ss
theorem gsum_all : ∀ {ss w : List Int} {t : Int}, w.length = ss.length → (∀ x ∈ w, 0 ≤ x ∧ x ≤ t) → gsum ss w t = sumL ss
  | [], [], _, _, _ => rfl
  | s :: ss, a :: w, t, hl, h => by
    have h1 := h a (by simp)
    rw [gsum, if_pos h1, sumL, gsum_all (by simpa using hl) (fun x hx => h x (by simp [hx]))]
  | [], _ :: _, _, hl, _ => by simp at hl
  | _ :: _, [], _, hl, _ => by simp at hl
theorem never_get {w : List Int} (h : never w = false) : ∀ x ∈ w, 0 ≤ x := by
  intro x hx
  have : ¬ x < 0 := by
    intro hlt
    have : never w = true := List.any_eq_true.2 ⟨x, hx, by simpa using hlt⟩
    rw [h] at this; cases this
  omega
/-- All rings have set in the end: so much they shrink. -/
theorem gM_end {m : Md} {w : List Int} (hl : w.length = kR m) (hn : never w = false) (hb : Bef 601 w) : gM m w 600 = sumL (shrL m) :=
  gsum_all (by rw [hl, shrL_length]) (fun x hx => ⟨never_get hn x hx, by have := hb x hx; omega⟩)
theorem pourM_mono {m : Md} (hm : MdIn m) {w w' : List Int} (h : Wle w w') (l : List Int) : pourM m w' l ≤ pourM m w l :=
  pourL_mono (Int.le_refl _) rfl (fun i a b ha hb => by rw [ha] at hb; cases hb; exact gM_mono hm h (Int.le_refl _))
end Go.Proofs.Ytljbjcnfkbmjkaa

namespace Go.Proofs.Ytljbjcnfkbmjkaa

/-- What sets in just this minute, weighed; and what sets from one minute to another one. -/
def gat : List Int → List Int → Int → Int
  | s :: ss, a :: as, t => (if a = t then s else 0) + gat ss as t
  | _, _, _ => 0
def gbtw : List Int → List Int → Int → Int → Int
  | s :: ss, a :: as, f, t => (if f ≤ a ∧ a ≤ t then s else 0) + gbtw ss as f t
  | _, _, _, _ => 0
theorem gsum_step {t : Int} (ht : 0 ≤ t) : ∀ (ss w : List Int), gsum ss w t = gsum ss w (t - 1) + gat ss w t
  | s :: ss, a :: as => by
    simp only [gsum, gat, gsum_step ht ss as]
    split <;> split <;> split <;> omega
  | [], _ => by simp [gsum, gat]
  | _ :: _, [] => by simp [gsum, gat]
theorem gsum_btw {f t : Int} (hf : 0 ≤ f) (ht : f ≤ t + 1) : ∀ (ss w : List Int), gsum ss w t = gsum ss w (f - 1) + gbtw ss w f t
  | s :: ss, a :: as => by
    simp only [gsum, gbtw, gsum_btw hf ht ss as]
    split <;> split <;> split <;> omega
  | [], _ => by simp [gsum, gbtw]
  | _ :: _, [] => by simp [gsum, gbtw]
theorem gsum_neg {t : Int} (ht : t < 0) : ∀ (ss w : List Int), gsum ss w t = 0
  | s :: ss, a :: as => by
    simp only [gsum, gsum_neg ht ss as]
    split <;> omega
  | [], _ => by simp [gsum]
  | _ :: _, [] => by simp [gsum]
theorem pourL_append (fill : Int) (G : Int → Int) : ∀ (a b : List Int) (p : Int), pourL fill G p (a ++ b) = pourL fill G (pourL fill G p a) b
  | [], _, _ => rfl
  | t :: a, b, p => by rw [List.cons_append, pourL, pourL_append fill G a b, pourL]
/-- The toppings of just this minute, one after another. -/
def pourK (fill n : Int) : List Int → Int × Int → Int × Int
  | [], s => s
  | t :: ts, s => pourK fill n ts (if t = n then (s.1 - min fill s.1, s.2 + min fill s.1) else s)
theorem pourK_eq (fill n : Int) (G : Int → Int) : ∀ (l : List Int) (p : Int), pourK fill n l (G n - p, p) = (G n - pourL fill G p (l.filter (fun t => decide (t = n))), pourL fill G p (l.filter (fun t => decide (t = n))))
  | [], p => rfl
  | t :: l, p => by
    by_cases h : t = n
    · subst h
      have h1 := pourK_eq fill t G l (min (p + fill) (G t))
      rw [pourK, if_pos rfl, List.filter_cons_of_pos (by simp), pourL, ← h1]
      congr 1
      simp only [Prod.mk.injEq]
      omega
    · rw [pourK, if_neg h, List.filter_cons_of_neg (by simpa using h)]
      exact pourK_eq fill n G l p
/-- Each is above those before it. -/
def Asc (l : List Int) : Prop := l.Pairwise (· < ·)
theorem filt_none {l : List Int} (p : Int → Bool) (h : ∀ x ∈ l, p x = false) : l.filter p = [] := by
  rw [List.filter_eq_nil_iff]
  intro x hx
  rw [h x hx]; simp
theorem filt_step (n : Int) : ∀ {l : List Int}, Asc l → l.filter (fun t => decide (t < n + 1)) = l.filter (fun t => decide (t < n)) ++ l.filter (fun t => decide (t = n))
  | [], _ => rfl
  | a :: l, h => by
    have h1 := List.pairwise_cons.1 h
    by_cases h2 : a < n
    · rw [List.filter_cons_of_pos (by simp; omega), List.filter_cons_of_pos (by simpa using h2), List.filter_cons_of_neg (by simp; omega), filt_step n h1.2]; rfl
    · have hlt : ∀ x ∈ l, n < x := fun x hx => by have := h1.1 x hx; omega
      rw [List.filter_cons_of_neg (p := fun t => decide (t < n)) (by simpa using h2), filt_none (fun t => decide (t < n)) (fun x hx => by have := hlt x hx; simp; omega), List.nil_append]
      by_cases h3 : a = n
      · rw [List.filter_cons_of_pos (by simp; omega), List.filter_cons_of_pos (by simpa using h3), filt_none (fun t => decide (t < n + 1)) (fun x hx => by have := hlt x hx; simp; omega), filt_none (fun t => decide (t = n)) (fun x hx => by have := hlt x hx; simp; omega)]
      · rw [List.filter_cons_of_neg (by simp; omega), List.filter_cons_of_neg (by simpa using h3), filt_none (fun t => decide (t < n + 1)) (fun x hx => by have := hlt x hx; simp; omega), filt_none (fun t => decide (t = n)) (fun x hx => by have := hlt x hx; simp; omega)]
/-- Hollow and what was poured ahead of minute n. -/
def endP (m : Md) (w l : List Int) (n : Int) : Int := pourL m.fill (gM m w) 0 (l.filter (fun t => decide (t < n)))
theorem endP_zero (m : Md) (w : List Int) {l : List Int} (h : ∀ t ∈ l, 0 ≤ t) : endP m w l 0 = 0 := by
  unfold endP
  rw [filt_none _ (fun x hx => by have := h x hx; simp; omega)]; rfl
theorem endP_end (m : Md) (w : List Int) {l : List Int} {n : Int} (h : ∀ t ∈ l, t < n) : endP m w l n = pourM m w l := by
  unfold endP
  rw [List.filter_eq_self.2 (fun x hx => by have := h x hx; simpa using this)]; rfl
theorem endP_step (m : Md) (w : List Int) {l : List Int} (h : Asc l) (n : Int) :
    pourK m.fill n l (gM m w n - endP m w l n, endP m w l n) = (gM m w n - endP m w l (n + 1), endP m w l (n + 1)) := by
  rw [pourK_eq]
  unfold endP
  rw [filt_step n h, pourL_append]
theorem gM_step (m : Md) (w : List Int) {n : Int} (h : 0 ≤ n) : gM m w n = gM m w (n - 1) + gat (shrL m) w n := gsum_step h _ _

/-- Plans without an error. -/
def Gaps (g : Int) : List Int → Prop
  | [] => True
  | [_] => True
  | t :: u :: r => g ≤ u - t ∧ Gaps g (u :: r)
theorem planL_some {g : Int} : ∀ {l : List Int} {q : Int}, planL g (some q) l = 0 ↔ ((∀ t ∈ l, 0 ≤ t ∧ t ≤ 600) ∧ Gaps g (q :: l))
  | [], q => by simp [planL, Gaps]
  | t :: l, q => by
    rw [planL]
    by_cases h : inB t 0 600 = true
    · rw [if_pos h]
      rw [inB_iff] at h
      try dsimp only
      by_cases h2 : t - q < g
      · rw [if_pos h2]
        simp only [Gaps]
        constructor
        · intro h; cases h
        · rintro ⟨-, h3, -⟩; omega
      · rw [if_neg h2, planL_some, Gaps, List.forall_mem_cons]
        constructor
        · rintro ⟨h3, h4⟩; exact ⟨⟨h, h3⟩, by omega, h4⟩
        · rintro ⟨⟨-, h3⟩, -, h4⟩; exact ⟨h3, h4⟩
    · rw [if_neg h]
      rw [inB_iff] at h
      constructor
      · intro h; cases h
      · rintro ⟨h3, -⟩; exact absurd (h3 t (by simp)) h
theorem planL_none {g : Int} : ∀ {l : List Int}, planL g none l = 0 ↔ ((∀ t ∈ l, 0 ≤ t ∧ t ≤ 600) ∧ Gaps g l)
  | [] => by simp [planL, Gaps]
  | t :: l => by
    rw [planL]
    by_cases h : inB t 0 600 = true
    · rw [if_pos h]
      rw [inB_iff] at h
      try dsimp only
      rw [planL_some, List.forall_mem_cons]
      constructor
      · rintro ⟨h3, h4⟩; exact ⟨⟨h, h3⟩, h4⟩
      · rintro ⟨⟨-, h3⟩, h4⟩; exact ⟨h3, h4⟩
    · rw [if_neg h]
      rw [inB_iff] at h
      constructor
      · intro h; cases h
      · rintro ⟨h3, -⟩; exact absurd (h3 t (by simp)) h
theorem planE_ok {m : Md} {l : List Int} : planE m l = 0 ↔ (l.length ≤ 40 ∧ (∀ t ∈ l, 0 ≤ t ∧ t ≤ 600) ∧ Gaps m.gap l) := by
  unfold planE
  by_cases h : 40 < l.length
  · rw [if_pos h]
    constructor
    · intro h; cases h
    · rintro ⟨h2, -⟩; omega
  · rw [if_neg h, planL_none]
    exact ⟨fun h2 => ⟨by omega, h2⟩, fun h2 => h2.2⟩
theorem Gaps.tail {g : Int} : ∀ {t : Int} {l : List Int}, Gaps g (t :: l) → Gaps g l
  | _, [], _ => trivial
  | _, _ :: _, h => h.2
theorem Gaps.lt {g : Int} (hg : 1 ≤ g) : ∀ {l : List Int} {t : Int}, Gaps g (t :: l) → ∀ u ∈ l, t + g ≤ u
  | [], _, _, u, hu => by cases hu
  | a :: l, t, h, u, hu => by
    have h1 := h.1
    rcases List.mem_cons.1 hu with rfl | hu
    · omega
    · have := Gaps.lt hg h.2 u hu; omega
theorem Gaps.asc {g : Int} (hg : 1 ≤ g) : ∀ {l : List Int}, Gaps g l → Asc l
  | [], _ => List.Pairwise.nil
  | t :: l, h => List.pairwise_cons.2 ⟨fun u hu => by have := Gaps.lt hg h u hu; omega, Gaps.asc hg h.tail⟩
end Go.Proofs.Ytljbjcnfkbmjkaa

namespace Go.Proofs.Ytljbjcnfkbmjkaa

theorem shut_mono {m : Md} {w : List Int} {t t' : Int} (h : t ≤ t') (hs : shut m w t = true) : shut m w t' = true := by
  have h1 := setN_mono (w := w) (w' := w) Wle.refl h
  simp only [shut, gt_iff_lt, decide_eq_true_eq] at hs ⊢
  omega
theorem lastAt_of {m : Md} {w : List Int} {i : Nat} (h0 : i = 0 ∨ shut m w ((i : Int) - 1) = false) : ∀ n : Nat, i ≤ n → (∀ t : Nat, i ≤ t → t < n → shut m w t = true) → lastAt m w n = (i : Int) - 1
  | 0, h, _ => by
    obtain rfl : i = 0 := by omega
    rfl
  | n + 1, h, hs => by
    by_cases h1 : i = n + 1
    · subst h1
      have h2 : shut m w (n : Int) = false := by
        rcases h0 with h0 | h0
        · omega
        · rwa [show ((n + 1 : Nat) : Int) - 1 = n by omega] at h0
      rw [lastAt, h2]
      simp
    · rw [lastAt, hs n (by omega) (by omega), if_pos rfl]
      exact lastAt_of h0 n (by omega) fun t ht htn => hs t ht (by omega)
/-- Where a search by halves ends. -/
def SeaAt (m : Md) (w : List Int) (n i j : Nat) : Prop := i ≤ j ∧ j ≤ n ∧ (i = 0 ∨ shut m w ((i : Int) - 1) = false) ∧ (j = n ∨ shut m w (j : Int) = true)
theorem SeaAt.start (m : Md) (w : List Int) (n : Nat) : SeaAt m w n 0 n := ⟨by omega, by omega, .inl rfl, .inl rfl⟩
theorem SeaAt.up {m : Md} {w : List Int} {n i j h : Nat} (s : SeaAt m w n i j) (hj : h < j) (hh : shut m w (h : Int) = false) : SeaAt m w n (h + 1) j :=
  ⟨by omega, s.2.1, .inr (by rw [show ((h + 1 : Nat) : Int) - 1 = h by omega]; exact hh), s.2.2.2⟩
theorem SeaAt.down {m : Md} {w : List Int} {n i j h : Nat} (s : SeaAt m w n i j) (hi : i ≤ h) (hj : h < j) (hh : shut m w (h : Int) = true) : SeaAt m w n i h :=
  ⟨hi, by have := s.2.1; omega, s.2.2.1, .inr hh⟩
theorem SeaAt.last {m : Md} {w : List Int} {n i : Nat} (s : SeaAt m w n i i) : lastAt m w n = (i : Int) - 1 :=
  lastAt_of s.2.2.1 n s.2.1 fun t ht htn => by
    rcases s.2.2.2 with h | h
    · omega
    · exact shut_mono (by omega) h
theorem lastAt_bounds (m : Md) (w : List Int) : ∀ n : Nat, -1 ≤ lastAt m w n ∧ lastAt m w n < n
  | 0 => by simp [lastAt]
  | n + 1 => by
    have := lastAt_bounds m w n
    rw [lastAt]
    split <;> omega

/-- The topping ahead of the one at k. -/
def prevL (l : List Int) : Nat → Option Int
  | 0 => none
  | k + 1 => l[k]?
theorem planL_take {g : Int} {l : List Int} {k : Nat} {x : Int} (hx : l[k]? = some x) : planL g (prevL l k) (l.drop k) = if inB x 0 600 = true then (match prevL l k with
    | some q => if x - q < g then 2 else planL g (prevL l (k + 1)) (l.drop (k + 1))
    | none => planL g (prevL l (k + 1)) (l.drop (k + 1))) else 7 := by
  have hd : l.drop k = x :: l.drop (k + 1) := by
    rw [List.drop_eq_getElem_cons (List.getElem?_eq_some_iff.1 hx).1, (List.getElem?_eq_some_iff.1 hx).2]
  rw [hd, show prevL l (k + 1) = some x from hx]
  cases prevL l k <;> rfl

/-- Hollow and what was poured, a topping later. -/
theorem pour_step {m : Md} (hm : MdIn m) {w : List Int} {p t : Int} (_hp : 0 ≤ p) :
    p + min m.fill (gM m w t - p) = min (p + m.fill) (gM m w t) ∧ gM m w t - p - min m.fill (gM m w t - p) = gM m w t - min (p + m.fill) (gM m w t) := by
  have := hm.fill
  omega
/-- What k toppings pour is no more than what has shrunk by the last one of them. -/
theorem pourL_last {m : Md} {w : List Int} (hm : MdIn m) : ∀ {l : List Int} {p t : Int}, p ≤ gM m w t → (∀ x ∈ l, x ≤ t) → pourL m.fill (gM m w) p l ≤ gM m w t
  | [], _, _, h, _ => h
  | x :: l, p, t, h, hx => by
    refine pourL_last hm (l := l) ?_ (fun y hy => hx y (by simp [hy]))
    have := gM_mono hm (w := w) (w' := w) Wle.refl (hx x (by simp))
    omega
theorem pourL_take {fill : Int} {G : Int → Int} {l : List Int} {k : Nat} {x : Int} (hx : l[k]? = some x) : pourL fill G 0 (l.take (k + 1)) = min (pourL fill G 0 (l.take k) + fill) (G x) := by
  rw [List.take_add_one, hx, pourL_append]; rfl
theorem gM_neg {m : Md} {w : List Int} {t : Int} (ht : t < 0) : gM m w t = 0 := gsum_neg ht _ _
end Go.Proofs.Ytljbjcnfkbmjkaa

namespace Go.Proofs.Ytljbjcnfkbmjkaa

theorem pourL_ge {m : Md} (hm : MdIn m) {w : List Int} : ∀ {l : List Int} {p q : Int}, p ≤ q → pourL m.fill (gM m w) p l ≤ pourL m.fill (gM m w) q l
  | [], _, _, h => h
  | x :: l, p, q, h => pourL_ge hm (l := l) (by omega)
/-- One topping more, behind all that are no later. -/
theorem pour_more {m : Md} (hm : MdIn m) {w a b : List Int} {n : Int} (_hn : 0 ≤ n) (ha : ∀ x ∈ a, x ≤ n) : pourM m w (a ++ b) ≤ pourM m w (a ++ n :: b) := by
  unfold pourM
  rw [pourL_append, pourL_append, pourL]
  refine pourL_ge hm ?_
  have h0 := gM_bounds hm w n
  have h1 := pourL_last hm (w := w) (l := a) (p := 0) (t := n) h0.1 ha
  have := hm.fill
  omega
/-- The same with a later one. -/
theorem pour_later {m : Md} (hm : MdIn m) {w l l' : List Int} (hl : l.length = l'.length) (h : ∀ (i : Nat) (a b : Int), l[i]? = some a → l'[i]? = some b → a ≤ b) : pourM m w l ≤ pourM m w l' :=
  pourL_mono (Int.le_refl _) hl fun i a b ha hb => gM_mono hm Wle.refl (h i a b ha hb)

/-- k toppings, the last one at L, each as late as it can be. -/
def lateL (g : Int) : Nat → Int → List Int
  | 0, _ => []
  | k + 1, L => lateL g k (L - g) ++ [L]
theorem lateL_length (g : Int) : ∀ (k : Nat) (L : Int), (lateL g k L).length = k
  | 0, _ => rfl
  | k + 1, L => by simp [lateL, lateL_length g k]
theorem lateL_cons (g : Int) : ∀ (k : Nat) (L : Int), lateL g (k + 1) L = (L - k * g) :: lateL g k L
  | 0, L => by simp [lateL]
  | k + 1, L => by
    rw [lateL, lateL_cons g k, List.cons_append]
    show _ = _ :: (lateL g k (L - g) ++ [L])
    congr 1
    rw [show ((k + 1 : Nat) : Int) * g = k * g + g by rw [Int.natCast_add, Int.add_mul]; simp]
    omega
theorem lateL_get (g : Int) : ∀ (k : Nat) (L : Int) (i : Nat) (x : Int), (lateL g k L)[i]? = some x → x = L - ((k : Int) - 1 - i) * g
  | 0, _, _, _, h => by simp [lateL] at h
  | k + 1, L, 0, x, h => by
    rw [lateL_cons] at h
    obtain rfl : L - k * g = x := by simpa using h
    rw [show ((k + 1 : Nat) : Int) - 1 - ((0 : Nat) : Int) = k by omega]
  | k + 1, L, i + 1, x, h => by
    rw [lateL_cons] at h
    have h2 := lateL_get g k L i x (by simpa using h)
    rw [h2, show ((k + 1 : Nat) : Int) - 1 - ((i + 1 : Nat) : Int) = (k : Int) - 1 - i by omega]
theorem lateL_bounds {g : Int} (hg : 0 ≤ g) {k : Nat} {L : Int} (h : 0 ≤ L - ((k : Int) - 1) * g) : ∀ x ∈ lateL g k L, 0 ≤ x ∧ x ≤ L := by
  intro x hx
  obtain ⟨i, hi, rfl⟩ := List.mem_iff_getElem.1 hx
  rw [lateL_length] at hi
  have h1 := lateL_get g k L i _ (List.getElem?_eq_getElem (by rw [lateL_length]; exact hi))
  rw [h1]
  have h2 : 0 ≤ ((k : Int) - 1 - i) * g := Int.mul_nonneg (by omega) hg
  have h3 : ((k : Int) - 1 - i) * g ≤ ((k : Int) - 1) * g := Int.mul_le_mul_of_nonneg_right (by omega) hg
  omega
theorem lateL_gaps (g : Int) : ∀ (k : Nat) (L : Int), Gaps g (lateL g k L)
  | 0, _ => trivial
  | 1, _ => trivial
  | k + 2, L => by
    have h := lateL_gaps g (k + 1) L
    rw [lateL_cons] at h
    rw [lateL_cons, lateL_cons]
    refine ⟨?_, h⟩
    rw [show ((k + 1 : Nat) : Int) * g = k * g + g by rw [Int.natCast_add, Int.add_mul]; simp]
    omega
theorem Gaps.take {g : Int} : ∀ {l : List Int} (k : Nat), Gaps g l → Gaps g (l.take k)
  | [], k, _ => by simp [Gaps]
  | _ :: _, 0, _ => trivial
  | [_], _ + 1, _ => by simp [Gaps]
  | t :: u :: r, 1, _ => trivial
  | t :: u :: r, k + 2, h => by
    have := Gaps.take (l := u :: r) (k + 1) h.2
    exact ⟨h.1, this⟩
/-- A plan with gaps, whose last topping is not behind L, is nowhere later. -/
theorem gaps_late {g : Int} : ∀ {l : List Int} {L : Int}, Gaps g l → (∀ x, l.getLast? = some x → x ≤ L) → ∀ (i : Nat) (x : Int), l[i]? = some x → x ≤ L - ((l.length : Int) - 1 - i) * g
  | [], _, _, _, i, x, h => by simp at h
  | [t], L, _, hL, i, x, h => by
    match i, h with
    | 0, h =>
      obtain rfl : t = x := by simpa using h
      have := hL t rfl
      simpa using this
    | i + 1, h => simp at h
  | t :: u :: r, L, hg, hL, i, x, h => by
    have ih := gaps_late (l := u :: r) (L := L) hg.2 (fun x hx => hL x (by simpa using hx))
    match i, h with
    | 0, h =>
      obtain rfl : t = x := by simpa using h
      have h0 := ih 0 u rfl
      have h1 := hg.1
      simp only [List.length_cons] at h0 ⊢
      rw [show ((r.length + 1 + 1 : Nat) : Int) - 1 - ((0 : Nat) : Int) = (((r.length + 1 : Nat) : Int) - 1 - ((0 : Nat) : Int)) + 1 by omega, Int.add_mul]
      omega
    | i + 1, h =>
      have h0 := ih i x (by simpa using h)
      simp only [List.length_cons] at h0 ⊢
      rw [show ((r.length + 1 + 1 : Nat) : Int) - 1 - ((i + 1 : Nat) : Int) = ((r.length + 1 : Nat) : Int) - 1 - i by omega]
      exact h0
theorem late_pours {m : Md} (hm : MdIn m) {w l : List Int} {L : Int} (hg : Gaps m.gap l) (hL : ∀ x, l.getLast? = some x → x ≤ L) : pourM m w l ≤ pourM m w (lateL m.gap l.length L) :=
  pour_later hm (lateL_length _ _ _).symm fun i a b ha hb => by
    rw [lateL_get _ _ _ _ _ hb]
    exact gaps_late hg hL i a ha
/-- What Fewest goes through. -/
theorem fewL_late {m : Md} (hm : MdIn m) {w : List Int} {L : Int} (hL : L ≤ 600) : ∀ (f k : Nat), 42 ≤ f + k → k ≤ 40 → (∀ x ∈ lateL m.gap k L, 0 ≤ x) →
    (∃ j, k ≤ j ∧ j ≤ 40 ∧ fewL m w f (lateL m.gap k L) (L - k * m.gap) = (lateL m.gap j L, 0) ∧ hollM m w (lateL m.gap j L) ≤ m.deep ∧ (∀ x ∈ lateL m.gap j L, 0 ≤ x) ∧ ∀ i, k ≤ i → i < j → ¬ hollM m w (lateL m.gap i L) ≤ m.deep) ∨
    (fewL m w f (lateL m.gap k L) (L - k * m.gap) = ([], 9) ∧ ∀ i, k ≤ i → i ≤ 40 → (∀ x ∈ lateL m.gap i L, 0 ≤ x) → ¬ hollM m w (lateL m.gap i L) ≤ m.deep)
  | 0, k, hf, hk, _ => by omega
  | f + 1, k, hf, hk, hx => by
    rw [fewL]
    by_cases h1 : hollM m w (lateL m.gap k L) ≤ m.deep
    · rw [if_pos h1]
      exact .inl ⟨k, Nat.le_refl _, hk, rfl, h1, hx, fun i h2 h3 => by omega⟩
    · rw [if_neg h1]
      by_cases h2 : L - k * m.gap < 0 ∨ (lateL m.gap k L).length = 40
      · rw [if_pos h2]
        refine .inr ⟨rfl, fun i h3 h4 h5 => ?_⟩
        by_cases h6 : i = k
        · rw [h6]; exact h1
        · exfalso
          rw [lateL_length] at h2
          rcases h2 with h2 | h2
          · obtain ⟨j, rfl⟩ : ∃ j, i = k + 1 + j := ⟨i - (k + 1), by omega⟩
            have h7 := h5 (L - ((k + j : Nat) : Int) * m.gap) (by rw [show k + 1 + j = (k + j) + 1 by omega, lateL_cons]; simp)
            have h8 : (k : Int) * m.gap ≤ ((k + j : Nat) : Int) * m.gap := Int.mul_le_mul_of_nonneg_right (by omega) (by have := hm.gap; omega)
            omega
          · omega
      · rw [if_neg h2]
        rw [lateL_length] at h2
        have h3 : (L - k * m.gap) :: lateL m.gap k L = lateL m.gap (k + 1) L := (lateL_cons _ _ _).symm
        have h4 : L - k * m.gap - m.gap = L - ((k + 1 : Nat) : Int) * m.gap := by
          rw [show ((k + 1 : Nat) : Int) * m.gap = k * m.gap + m.gap by rw [Int.natCast_add, Int.add_mul]; simp]
          omega
        rw [h3, h4]
        rcases fewL_late hm hL f (k + 1) (by omega) (by omega) (by rw [← h3]; intro x hxm; rcases List.mem_cons.1 hxm with rfl | h; · omega
                                                                   · exact hx x h) with ⟨j, h5, h6, h7, h8, h9, h10⟩ | ⟨h5, h6⟩
        · refine .inl ⟨j, by omega, h6, h7, h8, h9, fun i hi hij => ?_⟩
          by_cases h11 : i = k
          · rw [h11]; exact h1
          · exact h10 i (by omega) hij
        · refine .inr ⟨h5, fun i hi hi4 hp => ?_⟩
          by_cases h11 : i = k
          · rw [h11]; exact h1
          · exact h6 i (by omega) hi4 hp
end Go.Proofs.Ytljbjcnfkbmjkaa

namespace Go.Proofs.Ytljbjcnfkbmjkaa

theorem Wle.trans : ∀ {a b c : List Int}, Wle a b → Wle b c → Wle a c
  | [], [], [], _, _ => trivial
  | _ :: a, _ :: b, _ :: c, h, k => ⟨by have h1 := h.1; have h2 := k.1; omega, Wle.trans h.2 k.2⟩
theorem Wle.get : ∀ {l m : List Int}, Wle l m → ∀ {i : Nat} {a b : Int}, l[i]? = some a → m[i]? = some b → b < 0 ∨ (0 ≤ a ∧ a ≤ b)
  | [], [], _, i, a, b, h, _ => by simp at h
  | x :: l, y :: m, h, 0, a, b, ha, hb => by
    simp only [List.getElem?_cons_zero, Option.some.injEq] at ha hb
    subst ha; subst hb; exact h.1
  | x :: l, y :: m, h, i + 1, a, b, ha, hb => by
    simp only [List.getElem?_cons_succ] at ha hb
    exact Wle.get h.2 ha hb
theorem whN_bef (m : Md) (e : Bool) (n : Nat) : Bef ((n : Int) + 1) (whN m e n) := by
  have h := whenM_bef m (samP m e) (samW m e n)
  rwa [samW_length] at h
theorem wh_bef (m : Md) (e : Bool) : Bef 601 (wh m e) := by
  unfold wh
  generalize hn : (600 : Nat) = n
  have h := whN_bef m e n
  rwa [show (n : Int) + 1 = 601 by omega] at h
/-- All rings set: what is poured and the hollow are, together, what all rings shrink. -/
theorem holl_end {m : Md} {w : List Int} (hl : w.length = kR m) (hn : never w = false) (hb : Bef 601 w) (l : List Int) : hollM m w l = sumL (shrL m) - pourM m w l := by
  unfold hollM
  rw [gM_end hl hn hb]
theorem holl_mono {m : Md} (hm : MdIn m) {w w' : List Int} (h : Wle w w') (hl : w.length = kR m) (hn : never w' = false) (hb : Bef 601 w) (hb' : Bef 601 w') (l : List Int) : hollM m w l ≤ hollM m w' l := by
  rw [holl_end hl (never_mono h hn) hb, holl_end (by rw [← h.length]; exact hl) hn hb']
  have := pourM_mono hm h l
  omega
theorem holl_le {m : Md} {w l l' : List Int} (h : pourM m w l ≤ pourM m w l') : hollM m w l' ≤ hollM m w l := by unfold hollM; omega
/-- The same mould, with wider ranges of warmth. -/
def widen (m : Md) (a b c d : Int) : Md := { m with plo := a, phi := b, wlo := c, whi := d }
theorem warm_wide {m : Md} (hm : MdIn m) {a b c d : Int} (h1 : a ≤ m.plo) (h2 : m.phi ≤ b) (h3 : c ≤ m.wlo) (h4 : m.whi ≤ d) (n : Nat) :
    Lle (warmL (widen m a b c d) false n) (warmL m false n) ∧ Lle (warmL m true n) (warmL (widen m a b c d) true n) := by
  constructor
  · refine afterL_mono (by have := hm.give; omega) hm.give.2 (Lle.lo (samW_length m false n) ?_) (Lle.lo (samP_length m false) ?_)
    · intro x hx; unfold samW at hx; rw [List.mem_replicate] at hx; rw [hx.2]; exact h3
    · intro x hx; unfold samP at hx; rw [List.mem_replicate] at hx; rw [hx.2]; exact h1
  · refine afterL_mono (by have := hm.give; omega) hm.give.2 (Lle.hi (samW_length m true n) ?_) (Lle.hi (samP_length m true) ?_)
    · intro x hx; unfold samW at hx; rw [List.mem_replicate] at hx; rw [hx.2]; exact h4
    · intro x hx; unfold samP at hx; rw [List.mem_replicate] at hx; rw [hx.2]; exact h2
theorem whN_wide {m : Md} (hm : MdIn m) {a b c d : Int} (h1 : a ≤ m.plo) (h2 : m.phi ≤ b) (h3 : c ≤ m.wlo) (h4 : m.whi ≤ d) (n : Nat) :
    Wle (whN (widen m a b c d) false n) (whN m false n) ∧ Wle (whN m true n) (whN (widen m a b c d) true n) := by
  constructor
  · refine whenM_mono (m := m) hm (Lle.lo (samP_length m false) ?_) (Lle.lo (samW_length m false n) ?_)
    · intro x hx; unfold samP at hx; rw [List.mem_replicate] at hx; rw [hx.2]; exact h1
    · intro x hx; unfold samW at hx; rw [List.mem_replicate] at hx; rw [hx.2]; exact h3
  · refine whenM_mono (m := m) hm (Lle.hi (samP_length m true) ?_) (Lle.hi (samW_length m true n) ?_)
    · intro x hx; unfold samP at hx; rw [List.mem_replicate] at hx; rw [hx.2]; exact h2
    · intro x hx; unfold samW at hx; rw [List.mem_replicate] at hx; rw [hx.2]; exact h4
theorem wh_wide {m : Md} (hm : MdIn m) {a b c d : Int} (h1 : a ≤ m.plo) (h2 : m.phi ≤ b) (h3 : c ≤ m.wlo) (h4 : m.whi ≤ d) :
    Wle (wh (widen m a b c d) false) (wh m false) ∧ Wle (wh m true) (wh (widen m a b c d) true) := by
  unfold wh
  generalize (600 : Nat) = n
  exact whN_wide hm h1 h2 h3 h4 n
theorem pours_mono {m : Md} {w w' l : List Int} (h : Wle w w') (hp : pours m w l = true) : pours m w' l = true := by
  unfold pours at hp ⊢
  rw [List.all_eq_true] at hp ⊢
  intro x hx
  have h1 := hp x hx
  have h2 := setN_mono (w := w) (w' := w') (t := x) (t' := x) h (Int.le_refl _)
  simp only [shut, gt_iff_lt, Bool.not_eq_true', decide_eq_false_iff_not] at h1 ⊢
  omega
/-- A plan that can be poured has no topping behind the last minute. -/
theorem pours_last {m : Md} {w l : List Int} (hp : pours m w l = true) (hl : ∀ t ∈ l, 0 ≤ t ∧ t ≤ 600) : ∀ t ∈ l, t ≤ lastAt m w 601 := by
  intro t ht
  unfold pours at hp
  rw [List.all_eq_true] at hp
  have h1 := hp t ht
  have h2 := hl t ht
  obtain ⟨k, rfl⟩ : ∃ k : Nat, t = k := ⟨t.toNat, by omega⟩
  have key : ∀ n : Nat, k < n → (k : Int) ≤ lastAt m w n := by
    intro n
    induction n with
    | zero => intro h; omega
    | succ n ih =>
      intro h
      rw [lastAt]
      by_cases h3 : shut m w n = true
      · rw [if_pos h3]
        by_cases h4 : k = n
        · subst h4; rw [h3] at h1; cases h1
        · exact ih (by omega)
      · rw [if_neg h3]; omega
  exact key 601 (by omega)
theorem lastAt_open {m : Md} {w : List Int} : ∀ {n : Nat}, 0 ≤ lastAt m w n → shut m w (lastAt m w n) = false
  | 0, h => by simp [lastAt] at h
  | n + 1, h => by
    rw [lastAt] at h ⊢
    by_cases h3 : shut m w n = true
    · rw [if_pos h3] at h ⊢; exact lastAt_open h
    · rw [if_neg h3]; simpa using h3
theorem open_before {m : Md} {w : List Int} {t t' : Int} (h : t' ≤ t) (hs : shut m w t = false) : shut m w t' = false := by
  cases h1 : shut m w t' with
  | false => rfl
  | true => rw [shut_mono h h1] at hs; cases hs
/-- The plan of Fewest is a plan, can be poured, and is deep enough. -/
structure Best (m : Md) (l : List Int) : Prop where
  len : l.length ≤ 40
  rng : ∀ t ∈ l, 0 ≤ t ∧ t ≤ 600
  gaps : Gaps m.gap l
  pours : pours m (wh m false) l = true
  deep : hollM m (wh m true) l ≤ m.deep
theorem late_ok {m : Md} (hm : MdIn m) {w : List Int} {j : Nat} (h0 : ∀ x ∈ lateL m.gap j (lastAt m w 601), 0 ≤ x) :
    (∀ t ∈ lateL m.gap j (lastAt m w 601), 0 ≤ t ∧ t ≤ 600) ∧ pours m w (lateL m.gap j (lastAt m w 601)) = true := by
  have hb := lastAt_bounds m w 601
  have h1 : ∀ t ∈ lateL m.gap j (lastAt m w 601), t ≤ lastAt m w 601 := by
    intro x hx
    obtain ⟨i, hi, rfl⟩ := List.mem_iff_getElem.1 hx
    rw [lateL_length] at hi
    have h2 := lateL_get m.gap j (lastAt m w 601) i _ (List.getElem?_eq_getElem (by rw [lateL_length]; exact hi))
    have h3 : 0 ≤ ((j : Int) - 1 - i) * m.gap := Int.mul_nonneg (by omega) (by have := hm.gap; omega)
    omega
  refine ⟨fun t ht => ⟨h0 t ht, by have := h1 t ht; omega⟩, ?_⟩
  unfold pours
  rw [List.all_eq_true]
  intro t ht
  have h2 := h1 t ht
  have h3 := h0 t ht
  rw [open_before h2 (lastAt_open (by omega))]; rfl
theorem few_cases {m : Md} (hm : MdOk m) (hn : never (wh m true) = false) :
    (∃ j, j ≤ 40 ∧ fewR m = (lateL m.gap j (lastAt m (wh m false) 601), 0) ∧ Best m (lateL m.gap j (lastAt m (wh m false) 601)) ∧ ∀ i, i < j → ¬ hollM m (wh m true) (lateL m.gap i (lastAt m (wh m false) 601)) ≤ m.deep) ∨
    (fewR m = ([], 9) ∧ ∀ i, i ≤ 40 → (∀ x ∈ lateL m.gap i (lastAt m (wh m false) 601), 0 ≤ x) → ¬ hollM m (wh m true) (lateL m.gap i (lastAt m (wh m false) 601)) ≤ m.deep) := by
  have hb := lastAt_bounds m (wh m false) 601
  have h := fewL_late hm.toMdIn (w := wh m true) (L := lastAt m (wh m false) 601) (by omega) 42 0 (by omega) (by omega) (by simp [lateL])
  have hf : fewR m = fewL m (wh m true) 42 (lateL m.gap 0 (lastAt m (wh m false) 601)) (lastAt m (wh m false) 601 - ((0 : Nat) : Int) * m.gap) := by
    unfold fewR
    rw [if_neg (by rw [checkM_ok.2 hm]; decide), hn, if_neg (by decide)]
    generalize lastAt m (wh m false) 601 = L
    rw [show L - ((0 : Nat) : Int) * m.gap = L by simp, show lateL m.gap 0 L = [] from rfl]
  rw [← hf] at h
  rcases h with ⟨j, _, h2, h3, h4, h5, h6⟩ | ⟨h2, h3⟩
  · obtain ⟨h7, h8⟩ := late_ok hm.toMdIn h5
    exact .inl ⟨j, h2, h3, ⟨by rw [lateL_length]; exact h2, h7, lateL_gaps _ _ _, h8, h4⟩, fun i hi => h6 i (by omega) hi⟩
  · exact .inr ⟨h2, fun i hi => h3 i (by omega) hi⟩
/-- No sound plan has fewer toppings, or as many of which the last one is later. -/
theorem few_best {m : Md} (hm : MdOk m) (hn : never (wh m true) = false) {l : List Int} (hl : Best m l) :
    ∃ j, j ≤ l.length ∧ fewR m = (lateL m.gap j (lastAt m (wh m false) 601), 0) ∧ (j = l.length → 0 < j → ∀ x, l[j - 1]? = some x → x ≤ lastAt m (wh m false) 601) := by
  have hlast := pours_last hl.pours hl.rng
  have hp := late_pours hm.toMdIn (w := wh m true) (L := lastAt m (wh m false) 601) hl.gaps (fun x hx => hlast x (List.mem_of_getLast? hx))
  have hd : hollM m (wh m true) (lateL m.gap l.length (lastAt m (wh m false) 601)) ≤ m.deep := by
    have := holl_le hp
    have := hl.deep
    omega
  have h0 : ∀ x ∈ lateL m.gap l.length (lastAt m (wh m false) 601), 0 ≤ x := by
    intro x hx
    obtain ⟨i, hi, hxi⟩ := List.mem_iff_getElem.1 hx
    rw [lateL_length] at hi
    have h1 := lateL_get m.gap l.length (lastAt m (wh m false) 601) i x (by rw [List.getElem?_eq_getElem (by rw [lateL_length]; exact hi), hxi])
    have h2 := gaps_late hl.gaps (fun x hx => hlast x (List.mem_of_getLast? hx)) i (l[i]) (List.getElem?_eq_getElem hi)
    have h3 := hl.rng l[i] (List.getElem_mem hi)
    omega
  rcases few_cases hm hn with ⟨j, h2, h3, h4, h5⟩ | ⟨h2, h3⟩
  · refine ⟨j, ?_, h3, fun hj h0 x hx => hlast x (List.mem_of_getElem? hx)⟩
    rcases Nat.lt_or_ge l.length j with h6 | h6
    · exact absurd hd (h5 _ h6)
    · exact h6
  · exact absurd hd (h3 _ hl.len h0)
end Go.Proofs.Ytljbjcnfkbmjkaa
