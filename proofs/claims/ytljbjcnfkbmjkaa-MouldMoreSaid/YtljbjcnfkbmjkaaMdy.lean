/- mould.sets: contract. -/
import Derived.Test.YtljbjcnfkbmjkaaMdx
import Derived.Test.YtljbjcnfkbmjkaaMds
import Derived.Sort.MapsRangeIn
import Derived.Sort.QuietIn
namespace Go.Proofs.Ytljbjcnfkbmjkaa
open Go.RowKit Go.Shelf Go.Maps
attribute [local go_sem] Oper.semAt_some

/-- In which minute each ring has set behind some minutes, one after another. -/
def outF (m : Md) (p q : Int) (pre : List (Fin 601)) : List Int := pre.foldl (fun o x => updL m.st x.1 o (stW m p q x.1)) (neg1 (kR m))
theorem outF_snoc (m : Md) (p q : Int) (pre : List (Fin 601)) (x : Fin 601) : outF m p q (pre ++ [x]) = updL m.st x.1 (outF m p q pre) (stW m p q x.1) := by simp [outF]
theorem outF_rng (m : Md) (p q : Int) : ∀ k, k ≤ 601 → outF m p q (rng k) = outN m p q k
  | 0, _ => rfl
  | k + 1, h => by rw [rng_succ (by omega), outF_snoc, outF_rng m p q k (by omega), outN]
theorem outF_len (m : Md) (p q : Int) : ∀ (pre : List (Fin 601)) (o : List Int), o.length = kR m → (pre.foldl (fun o x => updL m.st x.1 o (stW m p q x.1)) o).length = kR m
  | [], _, h => h
  | x :: pre, o, h => outF_len m p q pre _ (by rw [updL_length (by rw [h, stW_length]), stW_length])
theorem outF_length (m : Md) (p q : Int) (pre : List (Fin 601)) : (outF m p q pre).length = kR m := outF_len m p q pre _ List.length_replicate
/-- r rings of a minute are done. -/
def mixO (o o' : List Int) (r : Nat) : List Int := o'.take r ++ o.drop r
theorem mixO_zero (o o' : List Int) : mixO o o' 0 = o := by simp [mixO]
theorem mixO_end {o o' : List Int} (h : o.length = o'.length) : mixO o o' o.length = o' := by
  unfold mixO
  rw [List.drop_length, List.append_nil, h, List.take_length]
theorem mixO_length {o o' : List Int} (h : o.length = o'.length) {r : Nat} (hr : r ≤ o.length) : (mixO o o' r).length = o.length := by
  unfold mixO
  rw [List.length_append, List.length_take, List.length_drop]; omega
theorem mixO_at {o o' : List Int} (h : o.length = o'.length) {r : Nat} {y : Int} (hr : o[r]? = some y) : (mixO o o' r)[r]? = some y := by
  unfold mixO
  have hlt := (List.getElem?_eq_some_iff.1 hr).1
  rw [List.getElem?_append_right (by rw [List.length_take]; omega), List.length_take, List.getElem?_drop, show r + (r - min r o'.length) = r by omega, hr]
theorem mixO_succ {o o' : List Int} (h : o.length = o'.length) {r : Nat} {z : Int} (hz : o'[r]? = some z) : mixO o o' (r + 1) = (mixO o o' r).set r z := by
  have hlt := (List.getElem?_eq_some_iff.1 hz).1
  apply List.ext_getElem?
  intro j
  unfold mixO
  by_cases hj : j = r
  · subst hj
    rw [List.getElem?_set_self (by rw [List.length_append, List.length_take, List.length_drop]; omega), List.getElem?_append_left (by rw [List.length_take]; omega), List.getElem?_take_of_lt (by omega), hz]
  · rw [List.getElem?_set_ne (by omega)]
    by_cases h1 : j < r
    · rw [List.getElem?_append_left (by rw [List.length_take]; omega), List.getElem?_append_left (by rw [List.length_take]; omega), List.getElem?_take_of_lt (by omega), List.getElem?_take_of_lt h1]
    · rw [List.getElem?_append_right (by rw [List.length_take]; omega), List.getElem?_append_right (by rw [List.length_take]; omega), List.length_take, List.length_take, List.getElem?_drop, List.getElem?_drop]
      congr 1; omega
theorem mixO_same {o o' : List Int} (h : o.length = o'.length) {r : Nat} {y : Int} (hy : o[r]? = some y) (hz : o'[r]? = some y) : mixO o o' (r + 1) = mixO o o' r := by
  rw [mixO_succ h hz]
  have h1 := mixO_at h hy
  obtain ⟨hlt, he⟩ := List.getElem?_eq_some_iff.1 h1
  rw [← he]
  exact List.set_getElem_self hlt
/-- A map that tells in which minute each ring set. -/
def MapAt (W : World) (b : Nat) (o : List Int) : Prop := ∃ D : DataW Unit, W.ownsMap Try.prog 3 (plainElem (H := Unit) Try.prog 3) b (size D) D ∧ MRep D o
theorem MapAt.grown {W W' : World} {b : Nat} {o : List Int} {row : Option Nat} (h : MapAt W b o) (hg : W.grownBy W' row) (hr : row ≠ some b) : MapAt W' b o := by
  obtain ⟨D, hm, hr2⟩ := h
  exact ⟨D, hm.kept hg (fun e => hr e.symm), hr2⟩
theorem MapAt.on {W W' : World} {b : Nat} {o : List Int} (h : MapAt W b o) (hb : Below W.heap.size W W') : MapAt W' b o := h.grown (grown_of_below hb none) (by simp)
theorem MapAt.noBlk {W : World} {b : Nat} {o : List Int} (h : MapAt W b o) {T : TypeId} {cs : Array Value} (hb : Blk W b T cs) : False := by
  obtain ⟨D, ⟨es, clock, hh, _⟩, _⟩ := h
  unfold Blk at hb
  rw [hb] at hh; cases hh
theorem MRep.size_le {H : Type} {D : DataW H} {o : List Int} (h : MRep D o) : size D ≤ o.length := by rw [h.size_]; exact List.countP_le_length
/-- What lies in memory while sets goes on. -/
structure StI (w : World) (m : Md) (o : List Int) (W : World) : Prop where
  b0 : MdBk w w.heap.size 88 m W
  b3 : Blk W (w.heap.size + 1 + 1 + 1) 105 #[.map (some (w.heap.size + 1 + 1))]
  mp : MapAt W (w.heap.size + 1 + 1) o
theorem StI.stays {w : World} {m : Md} {B : Nat} (hB : w.heap.size + 4 ≤ B) {β : Type} (f : β → List Int) : StaysC B (fun s W => StI w m (f s) W) := by
  rintro s W W' row ⟨h0, h3, hm⟩ hg hrow
  exact ⟨⟨h0.bk.grownB hg hrow (by omega), h0.b.grown hg h0.b.size (fun r e => by have := hrow r e; omega)⟩, h3.grownB hg hrow (by omega), hm.grown hg (fun e => by have := hrow _ e; omega)⟩
/-- .. in a round. -/
structure SrI (w : World) (m : Md) (B NB : Nat) (a : Nat → Int) (W2 : World) (o : List Int) (W : World) : Prop where
  st : StI w m o W
  nb : W8 W NB a
  kf : KeepsFrom B W2 W
  kp : KeepL w.heap.size (w.heap.size + 1) W2 W
theorem SrI.put {w W2 W W' : World} {m : Md} {B NB : Nat} {a : Nat → Int} {o o' : List Int} (h : SrI w m B NB a W2 o W) (hg : W.grownBy W' (some (w.heap.size + 1 + 1))) (hB : w.heap.size + 6 ≤ B) (_hN : B ≤ NB) (hm : MapAt W' (w.heap.size + 1 + 1) o') : SrI w m B NB a W2 o' W' := by
  have hbl : ∀ {g : Nat} {T : TypeId} {cs : Array Value}, Blk W g T cs → Blk W' g T cs := fun {g T cs} hb =>
    (hg.block g hb.lt (fun e => by
      have e2 : g = w.heap.size + 1 + 1 := by simpa using e
      subst e2
      exact h.st.mp.noBlk hb)).trans hb
  have hbe : Below w.heap.size W W' := (Below.refl _ W).grown hg h.st.b0.b.size (fun r e => by cases e; omega)
  exact ⟨⟨⟨hbl h.st.b0.bk, h.st.b0.b.trans hbe⟩, hbl h.st.b3, hm⟩, ⟨hbl h.nb.bk⟩, h.kf.trans (KeepsFrom.of_grownBy hg (fun j e => by cases e; omega)), keepL_t h.kp ⟨hbe, fun g T cs _ hb => hbl hb⟩⟩
theorem SrI.below {w W2 W W' : World} {m : Md} {B NB : Nat} {a : Nat → Int} {o : List Int} (h : SrI w m B NB a W2 o W) (hb : Below W.heap.size W W') : SrI w m B NB a W2 o W' :=
  ⟨⟨h.st.b0.on hb, h.st.b3.on hb, h.st.mp.on hb⟩, h.nb.on hb, h.kf.trans (KeepsFrom.of_grownBy (grown_of_below hb none) (fun j e => by cases e)), keepL_t h.kp ⟨hb.mono h.st.b0.b.size, fun _ _ _ _ hc => hc.on hb⟩⟩
theorem map_on {W W' : World} {b n : Nat} {D : DataW Unit} (h : W.ownsMap Try.prog 3 (plainElem (H := Unit) Try.prog 3) b n D) (hb : Below W.heap.size W W') : W'.ownsMap Try.prog 3 (plainElem (H := Unit) Try.prog 3) b n D := h.kept (grown_of_below hb none) (by simp)
/-- All rings have set in the middle of a minute. -/
theorem mix_all {m : Md} {n : Int} {o l : List Int} (hl : o.length = l.length) {r : Nat} (h : ∀ z ∈ mixO o (updL m.st n o l) r, 0 ≤ z) : updL m.st n o l = mixO o (updL m.st n o l) r := by
  have hlen := updL_length (st := m.st) (n := n) hl
  apply List.ext_getElem?
  intro j
  by_cases hj : j < r
  · unfold mixO
    by_cases h2 : j < l.length
    · rw [List.getElem?_append_left (by rw [List.length_take]; omega), List.getElem?_take_of_lt hj]
    · rw [List.getElem?_eq_none (by omega), List.getElem?_eq_none (by rw [List.length_append, List.length_take, List.length_drop]; omega)]
  · by_cases h2 : j < l.length
    · have h3 : (mixO o (updL m.st n o l) r)[j]? = o[j]? := by
        unfold mixO
        rw [List.getElem?_append_right (by rw [List.length_take]; omega), List.length_take, List.getElem?_drop]
        congr 1; omega
      have h4 : o[j]? = some o[j] := List.getElem?_eq_getElem (by omega)
      have h5 := h o[j] (List.mem_of_getElem? (h3.trans h4))
      rw [h3]
      unfold updL
      rw [List.getElem?_zipWith, h4, List.getElem?_eq_getElem h2]
      simp [upd_nonneg h5]
    · rw [List.getElem?_eq_none (by omega), List.getElem?_eq_none (by unfold mixO; rw [List.length_append, List.length_take, List.length_drop]; omega)]
def StX (w : World) (m : Md) (p q : Int) (E : Code) (c : Code) (pre : List (Fin 601)) (W : World) : Prop := c = E ∧ (∀ z ∈ outF m p q pre, 0 ≤ z) ∧ StI w m (outF m p q pre) W
theorem StX.stays {w : World} {m : Md} {p q : Int} {E : Code} {B : Nat} (hB : w.heap.size + 4 ≤ B) (c : Code) : StaysC B (StX w m p q E c) := by
  rintro s W W' row ⟨hc, ha, hs⟩ hg hr
  exact ⟨hc, ha, StI.stays hB (outF m p q) _ _ _ _ hs hg hr⟩
theorem sets_done {m : Md} {p q : Int} {xs : List (Fin 601)} (h : AllMin m p q xs) : outF m p q xs = outN m p q 601 := by
  obtain ⟨k, hk, rfl, h⟩ := h
  rw [outF_rng m p q _ (by omega)]
  rcases h with rfl | h
  · rfl
  · have h2 := outN_fix h (600 - k)
    rw [show k + 1 + (600 - k) = 601 by omega] at h2
    exact h2.symm
theorem sets_stop {m : Md} {p q : Int} {xs : List (Fin 601)} (h : SomeMin xs) (ha : ∀ z ∈ outF m p q xs, 0 ≤ z) : outF m p q xs = outN m p q 601 := by
  obtain ⟨k, hk, rfl⟩ := h
  rw [outF_rng m p q _ (by omega)] at ha ⊢
  have h2 := outN_all ha (600 - k)
  rw [show k + 1 + (600 - k) = 601 by omega] at h2
  exact h2.symm

set_option maxRecDepth 100000 in
set_option maxHeartbeats 4000000 in
theorem sets_in {w : World} {m : Md} (hm : MdIn m) {p q : Int} (hp : 0 ≤ p ∧ p ≤ 2000) (hq : 0 ≤ q ∧ q ≤ 2000) :
    CallsIn Fence.wide 10 Try.prog 65 #[.agg #[.int .i64 m.rings, .int .i64 m.give, .int .i64 m.plo, .int .i64 m.phi, .int .i64 m.wlo, .int .i64 m.whi, .int .i64 m.st, .int .i64 m.shrink, .int .i64 m.skin, .int .i64 m.fill, .int .i64 m.gap, .int .i64 m.deep], .agg #[.int .i64 p, .int .i64 q]] w fun e w' => e = .returned (.map (some (w.heap.size + 1 + 1))) ∧ MapAt w' (w.heap.size + 1 + 1) (outN m p q 601) ∧ Below w.heap.size w w' := by
  have hro : Fence.wide.round = none := rfl
  have hn1 : 1 ≤ 10 := by decide
  have hmm := @run_makeMap Try.prog
  refine callsIn_of_wp_marks Try.func65 rfl trivial ?_ hro
  simp only [Try.ntmps65, List.size_toArray, List.length_cons, List.length_nil, Nat.reduceAdd, Nat.reduceSub, Array.replicate_succ, Array.replicate_zero, List.push_toArray, List.append_toArray, List.nil_append, List.cons_append]
  gi_wp2_with fail
  refine wpIn_scope_wide ?_
  gi_wp2_with fail
  refine wpIn_label ?_
  gi_wp2_with fail
  refine ⟨trivial, ?_⟩
  refine (callsIn_wide.2 (minutes_any _ _ _ _)).mono ?_
  rintro e w1 ⟨rfl, hw1⟩
  have hsz : w1.heap.size = w.heap.size + 6 := by rw [hw1]; simp
  have hb : Below w.heap.size w w1 := by rw [hw1]; exact ((((((Below.refl _ w).alloc (Nat.le_refl _) _).alloc (by simp) _).alloc (by simp; omega) _).alloc (by simp; omega) _).alloc (by simp; omega) _).alloc (by simp; omega) _
  have e0 : Blk w1 w.heap.size 88 #[.int .i64 m.rings, .int .i64 m.give, .int .i64 m.plo, .int .i64 m.phi, .int .i64 m.wlo, .int .i64 m.whi, .int .i64 m.st, .int .i64 m.shrink, .int .i64 m.skin, .int .i64 m.fill, .int .i64 m.gap, .int .i64 m.deep] := by rw [hw1]; exact (((((Blk.new w _ _).alloc _).alloc _).alloc _).alloc _).alloc _
  have e3 : Blk w1 (w.heap.size + 1 + 1 + 1) 105 #[.map (some (w.heap.size + 1 + 1))] := by rw [hw1]; exact ((Blk.new3 w _ _ _ _ _).alloc _).alloc _
  have em : w1.ownsMap Try.prog 3 (plainElem (H := Unit) Try.prog 3) (w.heap.size + 1 + 1) 0 (.map []) := by
    have h := World.ownsMap_made ((w.alloc (.cells #[.int .i64 m.rings, .int .i64 m.give, .int .i64 m.plo, .int .i64 m.phi, .int .i64 m.wlo, .int .i64 m.whi, .int .i64 m.st, .int .i64 m.shrink, .int .i64 m.skin, .int .i64 m.fill, .int .i64 m.gap, .int .i64 m.deep] 88)).alloc (.cells #[.int .i64 p, .int .i64 q] 98)) Try.prog 3 (plainElem (H := Unit) Try.prog 3)
    simp only [World.size_alloc] at h
    rw [hw1]; exact ((h.alloc _).alloc _).alloc _
  have e5 : Blk w1 (w.heap.size + 1 + 1 + 1 + 1) 88 #[.int .i64 m.rings, .int .i64 m.give, .int .i64 m.plo, .int .i64 m.phi, .int .i64 m.wlo, .int .i64 m.whi, .int .i64 m.st, .int .i64 m.shrink, .int .i64 m.skin, .int .i64 m.fill, .int .i64 m.gap, .int .i64 m.deep] := by rw [hw1]; exact (Blk.new4 w _ _ _ _ _ _).alloc _
  have e6 : Blk w1 (w.heap.size + 1 + 1 + 1 + 1 + 1) 98 #[.int .i64 p, .int .i64 q] := by
    rw [hw1]
    simpa using Blk.new (((((w.alloc _).alloc _).alloc _).alloc _).alloc _) 98 #[.int .i64 p, .int .i64 q]
  have HI0 := Lib.hid (show StI w m (outF m p q []) w1 from ⟨⟨e0, hb⟩, e3, .map [], em, MRep.nil _⟩)
  have HB := Lib.hid hb
  have HST := Lib.hid (minutes_stops hm hp hq e5 e6 (L := w.heap.size + 1) (by omega) (by omega) (by omega) hb 9 (by decide))
  have HSZ := Lib.hid hsz
  clear e0 e3 em e5 e6 hb hsz
  simp only [World.size_alloc]
  gi_wp2_with fail
  try rw [← hw1]
  clear hw1
  refine range_cells hro hn1 (gf := 99) (lb := #[.pointer (some ⟨w.heap.size + 1 + 1 + 1 + 1, 0, none⟩), .pointer (some ⟨w.heap.size + 1 + 1 + 1 + 1 + 1, 0, none⟩)]) rfl trivial (enters_of Try.func99 (by kernel_rfl) rfl)
    HST.out (Below.refl _ _) (fun _ => rfl) keepL_t (keepL_b HB.out.size) (fun pre W => StI w m (outF m p q pre) W) (StX w m p q (.exit 0)) (StI.stays (by have := HSZ.out; omega) _) (StX.stays (by have := HSZ.out; omega)) HI0.out ?round ?done ?stop
  case round =>
    intro l pre x W hI hlen hszW
    have HI := Lib.hid hI
    clear hI
    gi_wp2_with fail
    refine ⟨(KeepsOthers.alloc _ _).from _, ⟨(Below.refl _ W).alloc HI.out.b0.b.size _, fun g T cs _ hb => hb.alloc _⟩, fun W2 hT => ?_⟩
    have HA := Lib.hid (show StI w m (outF m p q pre) W2 from StI.stays (m := m) (B := w1.heap.size) (by have := HSZ.out; omega) (outF m p q) _ _ _ _ (StI.stays (B := w1.heap.size) (by have := HSZ.out; omega) (outF m p q) _ _ _ none HI.out (grown_of_below ((Below.refl _ W).alloc (Nat.le_refl _) (.cells #[.int .i64 (la (stW m p q x.1) 0), .int .i64 (la (stW m p q x.1) 1), .int .i64 (la (stW m p q x.1) 2), .int .i64 (la (stW m p q x.1) 3), .int .i64 (la (stW m p q x.1) 4), .int .i64 (la (stW m p q x.1) 5), .int .i64 (la (stW m p q x.1) 6), .int .i64 (la (stW m p q x.1) 7)] 90)) none) (fun r e => by cases e)) hT.grown (fun r e => by cases e; exact hT.low))
    have HN := Lib.hid (W8.mk (hT.cells (Blk.new W 90 #[.int .i64 (la (stW m p q x.1) 0), .int .i64 (la (stW m p q x.1) 1), .int .i64 (la (stW m p q x.1) 2), .int .i64 (la (stW m p q x.1) 3), .int .i64 (la (stW m p q x.1) 4), .int .i64 (la (stW m p q x.1) 5), .int .i64 (la (stW m p q x.1) 6), .int .i64 (la (stW m p q x.1) 7)])))
    have HNB := Lib.hid hszW
    clear HI hT hszW
    generalize W.heap.size = NB at *
    have HS0 : Hid (SrI w m w1.heap.size NB (la (stW m p q x.1)) W2 (mixO (outF m p q pre) (updL m.st x.1 (outF m p q pre) (stW m p q x.1)) 0) W2) := ⟨by rw [mixO_zero]; exact HA.out, HN.out, KeepsFrom.refl _ _, ⟨Below.refl _ _, fun g T cs _ hb => hb⟩⟩
    obtain ⟨d0, d1, d2, d3, d4, d5, d6, d7, d8, d9, d10, d11⟩ := HA.out.b0.cells
    gi_wp2_with fail
    have hol : (outF m p q pre).length = kR m := outF_length m p q pre
    have hsl : (stW m p q x.1).length = kR m := stW_length m p q x.1
    have hul : (updL m.st x.1 (outF m p q pre) (stW m p q x.1)).length = kR m := by rw [updL_length (by rw [hol, hsl]), hsl]
    have hx600 : x.1 < 601 := x.2
    gi_loopw [20] (fun i wi => ∃ r : Nat, r ≤ kR m ∧ i = .int .i64 r ∧ Hid (SrI w m w1.heap.size NB (la (stW m p q x.1)) W2 (mixO (outF m p q pre) (updL m.st x.1 (outF m p q pre) (stW m p q x.1)) r) wi)) (fun i _ => kR m - (intOf i).toNat)
    case atStart => exact ⟨0, Nat.zero_le _, rfl, HS0⟩
    case round =>
      obtain ⟨r, hrl, rfl, HS⟩ := hrel
      clear d0 d1 d2 d3 d4 d5 d6 d7 d8 d9 d10 d11
      obtain ⟨d0, d1, d2, d3, d4, d5, d6, d7, d8, d9, d10, d11⟩ := HS.out.st.b0.cells
      have m0 := HS.out.st.b3.cell 0
      by_cases hlt : r < kR m
      · have hy : (outF m p q pre)[r]? = some (la (outF m p q pre) r) := la_get (by rw [hol]; exact hlt)
        have hz : (updL m.st x.1 (outF m p q pre) (stW m p q x.1))[r]? = some (upd m.st x.1 (la (outF m p q pre) r) (la (stW m p q x.1) r)) := by
          unfold updL
          rw [List.getElem?_zipWith, hy, la_get (by rw [hsl]; exact hlt)]
        have hmx := mixO_at (by rw [hol, hul]) (o' := updL m.st x.1 (outF m p q pre) (stW m p q x.1)) hy
        have cn : wr.cell? ⟨NB, r, none⟩ = some (.int .i64 (la (stW m p q x.1) r)) := HS.out.nb.cell (by have := (kR_le hm).2; omega)
        obtain ⟨D, hown, hrep⟩ := HS.out.st.mp
        have hsd := hrep.size_le
        rw [mixO_length (by rw [hol, hul]) (by rw [hol]; exact hrl), hol] at hsd
        have hk8 := (kR_le hm).2
        have hkr := kR_eq hm
        have hkey : keyOf Try.prog 3 (.int .i64 (r : Int)) = some (.int .i64 (r : Int)) := keyOf_int_mk Try.underlying3 (WalkArith.wf_i64 (by omega))
        have hr8 : (r : Int) < 8 := by omega
        have hrr : (r : Int) < m.rings := by omega
        have HOW := Lib.hid hown
        have HON := Lib.hid (fun n : Nat => map_on hown (below_drewN' (Below.refl _ wr) n))
        have HRP := Lib.hid hrep
        have HY := Lib.hid hy
        have HZ := Lib.hid hz
        have HMX := Lib.hid hmx
        have hmx2 : size D < maxLen := by unfold maxLen; omega
        have hval : plainElem (H := Unit) Try.prog 3 (.int .i64 (x.1 : Int)) = some (.lit (.int .i64 (x.1 : Int)), []) := plainElem_int Try.underlying3 (WalkArith.wf_i64 (by omega))
        clear hown hrep hy hz hmx
        generalize la (outF m p q pre) r = y at *
        generalize la (stW m p q x.1) r = v at *
        by_cases hy0 : 0 ≤ y
        · have hh : has D (.int .i64 (r : Int)) = true := (HRP.out.has_ _).2 ⟨r, y, rfl, HMX.out, hy0⟩
          have HS2 : Hid (SrI w m w1.heap.size NB (la (stW m p q x.1)) W2 (mixO (outF m p q pre) (updL m.st x.1 (outF m p q pre) (stW m p q x.1)) (r + 1)) wr) := by
            show SrI _ _ _ _ _ _ _ _
            rw [mixO_same (by rw [hol, hul]) HY.out (by rw [HZ.out, upd_nonneg hy0])]; exact HS.out
          have HR2 : Hid (MRep D (mixO (outF m p q pre) (updL m.st x.1 (outF m p q pre) (stW m p q x.1)) (r + 1))) := by
            show MRep _ _
            rw [mixO_same (by rw [hol, hul]) HY.out (by rw [HZ.out, upd_nonneg hy0])]; exact HRP.out
          by_cases hse : size D = kR m
          · have hse2 : ((size D : Int) == m.rings) = true := by simp; omega
            have hse3 : (size D : Int) = m.rings := by omega
            have HAL := Lib.hid (count_all (show (mixO (outF m p q pre) (updL m.st x.1 (outF m p q pre) (stW m p q x.1)) (r + 1)).countP (fun z => decide (0 ≤ z)) = (mixO (outF m p q pre) (updL m.st x.1 (outF m p q pre) (stW m p q x.1)) (r + 1)).length by rw [← HR2.out.size_, hse, mixO_length (by rw [hol, hul]) (by rw [hol]; exact Nat.succ_le_of_lt hlt), hol]))
            have HEQ := Lib.hid (mix_all (m := m) (n := (x.1 : Int)) (by rw [hol, hsl]) HAL.out)
            clear hse
            gi_wp2_with (first | (gi_at_lookup; refine wpListIn_lookup_own_ok_int _ rfl _ _ 105 rfl 3 3 .i64 (int_keyed Try.underlying3) Try.underlying105 Try.underlying3 (Try.zeroValue3 _) (w.heap.size + 1 + 1) (size D) D rfl HOW.out _ _ rfl hkey ?_; intro c hat hwc) | (gi_at_len; refine wpListIn_len_own _ rfl _ 105 rfl 3 3 Try.underlying105 _ (w.heap.size + 1 + 1) _ _ rfl (HON.out _) ?_) | fail)
            refine quiet_round (F := Fence.wide) rfl (by kernel_rfl) (by kernel_rfl) (by kernel_rfl) ?_
            repeat (gi_big_quiet_step (fail))
            refine wpQuietIn_nil ?_
            rintro _ ⟨nq, rfl⟩
            gi_wp2_with (first | (gi_at_len; refine wpListIn_len_own _ rfl _ 105 rfl 3 3 Try.underlying105 _ (w.heap.size + 1 + 1) _ _ rfl (HON.out _) ?_) | fail)
            refine ⟨(HS2.out.below (below_drewN' (Below.refl _ _) _)).kf, rfl, ?_, ?_⟩
            · rw [outF_snoc, HEQ.out]; exact HAL.out
            · rw [outF_snoc, HEQ.out]; exact (HS2.out.below (below_drewN' (Below.refl _ _) _)).st
          · have hse2 : ((size D : Int) == m.rings) = false := by simp; omega
            have hse3 : ¬ ((size D : Int) = m.rings) := by omega
            clear hse
            gi_wp2_with (first | (gi_at_lookup; refine wpListIn_lookup_own_ok_int _ rfl _ _ 105 rfl 3 3 .i64 (int_keyed Try.underlying3) Try.underlying105 Try.underlying3 (Try.zeroValue3 _) (w.heap.size + 1 + 1) (size D) D rfl HOW.out _ _ rfl hkey ?_; intro c hat hwc) | (gi_at_len; refine wpListIn_len_own _ rfl _ 105 rfl 3 3 Try.underlying105 _ (w.heap.size + 1 + 1) _ _ rfl (HON.out _) ?_) | fail)
            refine quiet_round (F := Fence.wide) rfl (by kernel_rfl) (by kernel_rfl) (by kernel_rfl) ?_
            repeat (gi_big_quiet_step (fail))
            refine wpQuietIn_nil ?_
            rintro _ ⟨nq, rfl⟩
            gi_wp2_with (first | (gi_at_len; refine wpListIn_len_own _ rfl _ 105 rfl 3 3 Try.underlying105 _ (w.heap.size + 1 + 1) _ _ rfl (HON.out _) ?_) | fail)
            go_roundw
            case rel => exact ⟨r + 1, Nat.succ_le_of_lt hlt, by go_num, HS2.out.below (below_drewN' (Below.refl _ _) _)⟩
            case measure => exact meas_one hlt
        · by_cases hv : v ≤ m.st
          · have hh : has D (.int .i64 (r : Int)) = false := by
              cases hb : has D (.int .i64 (r : Int)) with
              | false => rfl
              | true =>
                obtain ⟨r', z, e, h1, h2⟩ := (HRP.out.has_ _).1 hb
                obtain rfl : r = r' := by omega
                rw [HMX.out] at h1; cases h1; exact absurd h2 hy0
            have HR2 : Hid (MRep (D.put (.int .i64 (r : Int)) (.lit (.int .i64 (x.1 : Int)))) (mixO (outF m p q pre) (updL m.st x.1 (outF m p q pre) (stW m p q x.1)) (r + 1))) := by
              show MRep _ _
              rw [mixO_succ (by rw [hol, hul]) HZ.out, show upd m.st x.1 y v = (x.1 : Int) by unfold upd; rw [if_pos ⟨by omega, hv⟩]]
              exact HRP.out.put HMX.out (by omega) (by omega)
            have hss : size (D.put (.int .i64 (r : Int)) (.lit (.int .i64 (x.1 : Int)))) = size D + 1 := by rw [size_put HRP.out.tidy, hh]; rfl
            have HSS := Lib.hid hss
            by_cases hse : size (D.put (.int .i64 (r : Int)) (.lit (.int .i64 (x.1 : Int)))) = kR m
            · have hse2 : ((size (D.put (.int .i64 (r : Int)) (.lit (.int .i64 (x.1 : Int)))) : Int) == m.rings) = true := by simp; omega
              have hse3 : (size (D.put (.int .i64 (r : Int)) (.lit (.int .i64 (x.1 : Int)))) : Int) = m.rings := by omega
              have HAL := Lib.hid (count_all (show (mixO (outF m p q pre) (updL m.st x.1 (outF m p q pre) (stW m p q x.1)) (r + 1)).countP (fun z => decide (0 ≤ z)) = (mixO (outF m p q pre) (updL m.st x.1 (outF m p q pre) (stW m p q x.1)) (r + 1)).length by rw [← HR2.out.size_, hse, mixO_length (by rw [hol, hul]) (by rw [hol]; exact Nat.succ_le_of_lt hlt), hol]))
              have HEQ := Lib.hid (mix_all (m := m) (n := (x.1 : Int)) (by rw [hol, hsl]) HAL.out)
              clear hse
              gi_wp2_with (first | (gi_at_lookup; refine wpListIn_lookup_own_ok_int _ rfl _ _ 105 rfl 3 3 .i64 (int_keyed Try.underlying3) Try.underlying105 Try.underlying3 (Try.zeroValue3 _) (w.heap.size + 1 + 1) (size D) D rfl HOW.out _ _ rfl hkey ?_; intro c hat hwc) | fail)
              refine quiet_round (F := Fence.wide) rfl (by kernel_rfl) (by kernel_rfl) (by kernel_rfl) ?_
              repeat (gi_big_quiet_step (fail))
              refine wpQuietIn_nil ?_
              rintro _ ⟨nq, rfl⟩
              gi_wp2_with (first | (gi_at_mapUpdate; refine wpListIn_mapUpdate_own _ rfl _ _ _ 105 rfl 3 3 (int_keyed Try.underlying3) Try.underlying105 _ (w.heap.size + 1 + 1) (size D) D rfl (HON.out _) hmx2 _ _ _ rfl rfl hkey _ _ hval ?_; intro w5 hown5 hg5; have HS5 := Lib.hid (SrI.put (HS.out.below (below_drewN' (Below.refl _ wr) nq)) hg5 (by have := HSZ.out; omega) HNB.out ⟨_, (by rw [HSS.out]; exact hown5), HR2.out⟩); have HO5 := Lib.hid hown5; clear hown5 hg5 d0 d1 d2 d3 d4 d5 d6 d7 d8 d9 d10 d11 m0; have m5 := HS5.out.st.b3.cell 0; obtain ⟨d0, d1, d2, d3, d4, d5, d6, d7, d8, d9, d10, d11⟩ := HS5.out.st.b0.cells) | (gi_at_len; refine wpListIn_len_own _ rfl _ 105 rfl 3 3 Try.underlying105 _ (w.heap.size + 1 + 1) _ _ rfl HO5.out ?_) | fail)
              refine ⟨HS5.out.kf, rfl, ?_, ?_⟩
              · rw [outF_snoc, HEQ.out]; exact HAL.out
              · rw [outF_snoc, HEQ.out]; exact HS5.out.st
            · have hse2 : ((size (D.put (.int .i64 (r : Int)) (.lit (.int .i64 (x.1 : Int)))) : Int) == m.rings) = false := by simp; omega
              have hse3 : ¬ ((size (D.put (.int .i64 (r : Int)) (.lit (.int .i64 (x.1 : Int)))) : Int) = m.rings) := by omega
              clear hse
              gi_wp2_with (first | (gi_at_lookup; refine wpListIn_lookup_own_ok_int _ rfl _ _ 105 rfl 3 3 .i64 (int_keyed Try.underlying3) Try.underlying105 Try.underlying3 (Try.zeroValue3 _) (w.heap.size + 1 + 1) (size D) D rfl HOW.out _ _ rfl hkey ?_; intro c hat hwc) | fail)
              refine quiet_round (F := Fence.wide) rfl (by kernel_rfl) (by kernel_rfl) (by kernel_rfl) ?_
              repeat (gi_big_quiet_step (fail))
              refine wpQuietIn_nil ?_
              rintro _ ⟨nq, rfl⟩
              gi_wp2_with (first | (gi_at_mapUpdate; refine wpListIn_mapUpdate_own _ rfl _ _ _ 105 rfl 3 3 (int_keyed Try.underlying3) Try.underlying105 _ (w.heap.size + 1 + 1) (size D) D rfl (HON.out _) hmx2 _ _ _ rfl rfl hkey _ _ hval ?_; intro w5 hown5 hg5; have HS5 := Lib.hid (SrI.put (HS.out.below (below_drewN' (Below.refl _ wr) nq)) hg5 (by have := HSZ.out; omega) HNB.out ⟨_, (by rw [HSS.out]; exact hown5), HR2.out⟩); have HO5 := Lib.hid hown5; clear hown5 hg5 d0 d1 d2 d3 d4 d5 d6 d7 d8 d9 d10 d11 m0; have m5 := HS5.out.st.b3.cell 0; obtain ⟨d0, d1, d2, d3, d4, d5, d6, d7, d8, d9, d10, d11⟩ := HS5.out.st.b0.cells) | (gi_at_len; refine wpListIn_len_own _ rfl _ 105 rfl 3 3 Try.underlying105 _ (w.heap.size + 1 + 1) _ _ rfl HO5.out ?_) | fail)
              go_roundw
              case rel => exact ⟨r + 1, Nat.succ_le_of_lt hlt, by go_num, HS5.out⟩
              case measure => exact meas_one hlt
          · have hh : has D (.int .i64 (r : Int)) = false := by
              cases hb : has D (.int .i64 (r : Int)) with
              | false => rfl
              | true =>
                obtain ⟨r', z, e, h1, h2⟩ := (HRP.out.has_ _).1 hb
                obtain rfl : r = r' := by omega
                rw [HMX.out] at h1; cases h1; exact absurd h2 hy0
            have hun : upd m.st x.1 y v = y := by unfold upd; rw [if_neg (fun h => hv h.2)]
            have HS2 : Hid (SrI w m w1.heap.size NB (la (stW m p q x.1)) W2 (mixO (outF m p q pre) (updL m.st x.1 (outF m p q pre) (stW m p q x.1)) (r + 1)) wr) := by
              show SrI _ _ _ _ _ _ _ _
              rw [mixO_same (by rw [hol, hul]) HY.out (by rw [HZ.out, hun])]; exact HS.out
            have HR2 : Hid (MRep D (mixO (outF m p q pre) (updL m.st x.1 (outF m p q pre) (stW m p q x.1)) (r + 1))) := by
              show MRep _ _
              rw [mixO_same (by rw [hol, hul]) HY.out (by rw [HZ.out, hun])]; exact HRP.out
            clear hun
            by_cases hse : size D = kR m
            · have hse2 : ((size D : Int) == m.rings) = true := by simp; omega
              have hse3 : (size D : Int) = m.rings := by omega
              have HAL := Lib.hid (count_all (show (mixO (outF m p q pre) (updL m.st x.1 (outF m p q pre) (stW m p q x.1)) (r + 1)).countP (fun z => decide (0 ≤ z)) = (mixO (outF m p q pre) (updL m.st x.1 (outF m p q pre) (stW m p q x.1)) (r + 1)).length by rw [← HR2.out.size_, hse, mixO_length (by rw [hol, hul]) (by rw [hol]; exact Nat.succ_le_of_lt hlt), hol]))
              have HEQ := Lib.hid (mix_all (m := m) (n := (x.1 : Int)) (by rw [hol, hsl]) HAL.out)
              clear hse
              gi_wp2_with (first | (gi_at_lookup; refine wpListIn_lookup_own_ok_int _ rfl _ _ 105 rfl 3 3 .i64 (int_keyed Try.underlying3) Try.underlying105 Try.underlying3 (Try.zeroValue3 _) (w.heap.size + 1 + 1) (size D) D rfl HOW.out _ _ rfl hkey ?_; intro c hat hwc) | (gi_at_len; refine wpListIn_len_own _ rfl _ 105 rfl 3 3 Try.underlying105 _ (w.heap.size + 1 + 1) _ _ rfl (HON.out _) ?_) | fail)
              refine quiet_round (F := Fence.wide) rfl (by kernel_rfl) (by kernel_rfl) (by kernel_rfl) ?_
              repeat (gi_big_quiet_step (fail))
              refine wpQuietIn_nil ?_
              rintro _ ⟨nq, rfl⟩
              gi_wp2_with (first | (gi_at_len; refine wpListIn_len_own _ rfl _ 105 rfl 3 3 Try.underlying105 _ (w.heap.size + 1 + 1) _ _ rfl (HON.out _) ?_) | fail)
              refine ⟨(HS2.out.below (below_drewN' (Below.refl _ _) _)).kf, rfl, ?_, ?_⟩
              · rw [outF_snoc, HEQ.out]; exact HAL.out
              · rw [outF_snoc, HEQ.out]; exact (HS2.out.below (below_drewN' (Below.refl _ _) _)).st
            · have hse2 : ((size D : Int) == m.rings) = false := by simp; omega
              have hse3 : ¬ ((size D : Int) = m.rings) := by omega
              clear hse
              gi_wp2_with (first | (gi_at_lookup; refine wpListIn_lookup_own_ok_int _ rfl _ _ 105 rfl 3 3 .i64 (int_keyed Try.underlying3) Try.underlying105 Try.underlying3 (Try.zeroValue3 _) (w.heap.size + 1 + 1) (size D) D rfl HOW.out _ _ rfl hkey ?_; intro c hat hwc) | (gi_at_len; refine wpListIn_len_own _ rfl _ 105 rfl 3 3 Try.underlying105 _ (w.heap.size + 1 + 1) _ _ rfl (HON.out _) ?_) | fail)
              refine quiet_round (F := Fence.wide) rfl (by kernel_rfl) (by kernel_rfl) (by kernel_rfl) ?_
              repeat (gi_big_quiet_step (fail))
              refine wpQuietIn_nil ?_
              rintro _ ⟨nq, rfl⟩
              gi_wp2_with (first | (gi_at_len; refine wpListIn_len_own _ rfl _ 105 rfl 3 3 Try.underlying105 _ (w.heap.size + 1 + 1) _ _ rfl (HON.out _) ?_) | fail)
              go_roundw
              case rel => exact ⟨r + 1, Nat.succ_le_of_lt hlt, by go_num, HS2.out.below (below_drewN' (Below.refl _ _) _)⟩
              case measure => exact meas_one hlt
      · obtain rfl : r = kR m := Nat.le_antisymm hrl (Nat.le_of_not_lt hlt)
        have hn2 : ¬ ((kR m : Int) < m.rings) := by have := kR_eq hm; omega
        have HE : Hid (SrI w m w1.heap.size NB (la (stW m p q x.1)) W2 (updL m.st x.1 (outF m p q pre) (stW m p q x.1)) wr) := by
          have h := HS.out
          rw [← hol, mixO_end (by rw [hol, hul])] at h
          exact h
        gi_wp2_with fail
        exact ⟨HE.out.kf, HE.out.kp, by show StI w m (outF m p q (pre ++ [x])) wr; rw [outF_snoc]; exact HE.out.st⟩
  case done =>
    intro D xs W hD hS hI hK
    have HK := Lib.hid hK
    have HI := Lib.hid hI
    have HL := Lib.hid (sets_done hS)
    have m0 := hI.b3.cell 0
    clear hI hK hS
    gi_wp2_with fail
    have HK2 := Lib.hid HK.out
    refine ⟨by simp, .inl ⟨_, _, rfl, run_takeDeferred HK2.out, ?_⟩⟩
    refine ⟨.map (some (w.heap.size + 1 + 1)), by simp [results, Try.results65, go_sem], rfl, ?_, HI.out.b0.b.trans (belowK_b (w := w) (Nat.le_refl _) W D _ _ (by have := HSZ.out; omega) HK2.out rfl rfl)⟩
    rw [← HL.out]
    exact HI.out.mp.grown (grownBy_putObj' W D _) (fun e => by have := HSZ.out; simp at e; omega)
  case stop =>
    rintro D c pre W hD hS ⟨rfl, ha, hI⟩ hK
    have HK := Lib.hid hK
    have HI := Lib.hid hI
    have HL := Lib.hid (sets_stop hS ha)
    have m0 := hI.b3.cell 0
    clear hI hK hS ha
    gi_wp2_with fail
    have HK2 := Lib.hid HK.out
    refine ⟨by simp, .inl ⟨_, _, rfl, run_takeDeferred HK2.out, ?_⟩⟩
    refine ⟨.map (some (w.heap.size + 1 + 1)), by simp [results, Try.results65, go_sem], rfl, ?_, HI.out.b0.b.trans (belowK_b (w := w) (Nat.le_refl _) W D _ _ (by have := HSZ.out; omega) HK2.out rfl rfl)⟩
    rw [← HL.out]
    exact HI.out.mp.grown (grownBy_putObj' W D _) (fun e => by have := HSZ.out; simp at e; omega)
end Go.Proofs.Ytljbjcnfkbmjkaa
