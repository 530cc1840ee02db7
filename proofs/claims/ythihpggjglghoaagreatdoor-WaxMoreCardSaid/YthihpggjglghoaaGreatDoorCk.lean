/- wax.Check and what it calls: contracts. No condition but that slices read as lists. -/
import Derived.Test.YthihpggjglghoaaGreatDoorPure
namespace Go.Proofs.YthihpggjglghoaaGreatDoor
open Go.RowKit Go.Shelf

theorem findProp_n (A : Option Addr) (n c : Nat) (l : List Pr) (s : ByteArray) (w : World) (hn : l.length = n) (hl : n ≤ 9223372036854775807) (hR : PropsAt w w.heap.size A l) :
    Calls Tryz.prog 101 #[.slice A n c, .string s, .func (.func 82) #[] #[]] w fun e w' => e = .returned (.int .i64 (idx (fun y => y.nm.toList == s.toList) l)) ∧ Below w.heap.size w w' := by
  subst hn
  exact findProp_any A c l s w hl hR

set_option maxHeartbeats 1000000 in
theorem checkNameProp (A : Option Addr) (c : Nat) (l : List Pr) (i : Nat) (x : Pr) (w : World) (hl : l.length ≤ 9223372036854775807) (hR : PropsAt w w.heap.size A l) (hi : i < l.length) (hx : l[i]? = some x) (hc : l.length ≤ c) (hs : x.nm.size ≤ 9223372036854775807) :
    Calls Tryz.prog 81 #[.slice A l.length c, .int .i64 i, .func (.func 82) #[] #[]] w fun e w' => e = .returned (.int .i64 (nameErr ((l.take i).map Pr.nm) x.nm)) ∧ Below w.heap.size w w' := by
  obtain ⟨b, o, rfl, hbB, hc1, hc2⟩ := props_at hR hx
  have eg : ∀ args w, (callFunc 82 args).run Tryz.prog w = .ok (.enter 82 args) w := enters_of Tryz.func82 (by kernel_rfl) rfl
  have HR := Lib.hid hR
  have HX := Lib.hid hx
  clear hR hx
  go_enter Tryz.func81, Tryz.ntmps81
  go_wp2_with fail
  refine (propName_any x _).mono ?_
  rintro e w1 ⟨rfl, hb1⟩
  go_wp2_with fail
  refine (name_any x.nm _ hs).mono ?_
  rintro e w2 ⟨rfl, hb2⟩
  have hb2' := hb1.trans (hb2.mono hb1.size)
  cases hn : nameB x.nm with
  | false =>
    go_wp2_with fail
    go_ret
    exact ⟨ret_i64 (by simp [nameErr, hn]), hb2'⟩
  | true =>
    have HF := Lib.hid (findProp_n (some ⟨b, o, none⟩) i c (l.take i) x.nm w2 (by rw [List.length_take]; omega) (by omega) (((RowAt.below HR.out hb2' (Nat.le_refl _)).take i).mono hb2'.size))
    go_wp2_with fail
    refine HF.out.mono ?_
    rintro e w3 ⟨rfl, hb3⟩
    have hb3' := hb2'.trans (hb3.mono hb2'.size)
    have hidx := idx_any (fun y : Pr => y.nm.toList == x.nm.toList) (l.take i)
    have HI := Lib.hid hidx
    clear hidx
    generalize hz : idx (fun y : Pr => y.nm.toList == x.nm.toList) (l.take i) = z at *
    have HZ := Lib.hid hz
    clear hz
    by_cases h0 : 0 ≤ z
    · go_wp2_with fail
      go_ret
      refine ⟨ret_i64 ?_, hb3'⟩
      rw [nameErr, if_pos hn, List.any_map, if_pos]
      exact HI.out.symm.trans (decide_eq_true h0)
    · go_wp2_with fail
      go_ret
      refine ⟨ret_i64 ?_, hb3'⟩
      rw [nameErr, if_pos hn, List.any_map, if_neg]
      rw [Bool.not_eq_true]
      exact HI.out.symm.trans (decide_eq_false (by omega))

theorem findKind_n (A : Option Addr) (n c : Nat) (l : List Kd) (s : ByteArray) (w : World) (hn : l.length = n) (hl : n ≤ 9223372036854775807) (hR : KindsAt w w.heap.size A l) :
    Calls Tryz.prog 102 #[.slice A n c, .string s, .func (.func 84) #[] #[]] w fun e w' => e = .returned (.int .i64 (idx (fun y => y.nm.toList == s.toList) l)) ∧ Below w.heap.size w w' := by
  subst hn
  exact findKind_any A c l s w hl hR

set_option maxHeartbeats 1000000 in
theorem checkNameKind (A : Option Addr) (c : Nat) (l : List Kd) (i : Nat) (x : Kd) (w : World) (hl : l.length ≤ 9223372036854775807) (hR : KindsAt w w.heap.size A l) (hi : i < l.length) (hx : l[i]? = some x) (hc : l.length ≤ c) (hs : x.nm.size ≤ 9223372036854775807) :
    Calls Tryz.prog 83 #[.slice A l.length c, .int .i64 i, .func (.func 84) #[] #[]] w fun e w' => e = .returned (.int .i64 (nameErr ((l.take i).map Kd.nm) x.nm)) ∧ Below w.heap.size w w' := by
  obtain ⟨b, o, rfl, hbB, hc1, hc2, _, _⟩ := kinds_at hR hx
  have eg : ∀ args w, (callFunc 84 args).run Tryz.prog w = .ok (.enter 84 args) w := enters_of Tryz.func84 (by kernel_rfl) rfl
  have HR := Lib.hid hR
  have HX := Lib.hid hx
  clear hR hx
  go_enter Tryz.func83, Tryz.ntmps83
  go_wp2_with fail
  refine (kindName_any x _).mono ?_
  rintro e w1 ⟨rfl, hb1⟩
  go_wp2_with fail
  refine (name_any x.nm _ hs).mono ?_
  rintro e w2 ⟨rfl, hb2⟩
  have hb2' := hb1.trans (hb2.mono hb1.size)
  cases hn : nameB x.nm with
  | false =>
    go_wp2_with fail
    go_ret
    exact ⟨ret_i64 (by simp [nameErr, hn]), hb2'⟩
  | true =>
    have HF := Lib.hid (findKind_n (some ⟨b, o, none⟩) i c (l.take i) x.nm w2 (by rw [List.length_take]; omega) (by omega) (((KindsAt.below HR.out hb2' (Nat.le_refl _)).take i).mono hb2'.size))
    go_wp2_with fail
    refine HF.out.mono ?_
    rintro e w3 ⟨rfl, hb3⟩
    have hb3' := hb2'.trans (hb3.mono hb2'.size)
    have hidx := idx_any (fun y : Kd => y.nm.toList == x.nm.toList) (l.take i)
    have HI := Lib.hid hidx
    clear hidx
    generalize hz : idx (fun y : Kd => y.nm.toList == x.nm.toList) (l.take i) = z at *
    have HZ := Lib.hid hz
    clear hz
    by_cases h0 : 0 ≤ z
    · go_wp2_with fail
      go_ret
      refine ⟨ret_i64 ?_, hb3'⟩
      rw [nameErr, if_pos hn, List.any_map, if_pos]
      exact HI.out.symm.trans (decide_eq_true h0)
    · go_wp2_with fail
      go_ret
      refine ⟨ret_i64 ?_, hb3'⟩
      rw [nameErr, if_pos hn, List.any_map, if_neg]
      rw [Bool.not_eq_true]
      exact HI.out.symm.trans (decide_eq_false (by omega))


set_option maxHeartbeats 1000000 in
theorem checkProp_any (A : Option Addr) (c : Nat) (l : List Pr) (i : Nat) (w : World) (hl : l.length ≤ 9223372036854775807) (hR : PropsAt w w.heap.size A l) (hi : i < l.length) (hc : l.length ≤ c) (hs : ∀ p ∈ l, p.nm.size ≤ 9223372036854775807) :
    Calls Tryz.prog 53 #[.slice A l.length c, .int .i64 i] w fun e w' => e = .returned (.int .i64 (propErr l i)) ∧ Below w.heap.size w w' := by
  obtain ⟨x, hx⟩ : ∃ x, l[i]? = some x := ⟨l[i], List.getElem?_eq_getElem hi⟩
  have hs' := hs x (List.mem_of_getElem? hx)
  have HC := Lib.hid (checkNameProp A c l i x w hl hR hi hx hc hs')
  have hpe : propErr l i = if nameErr ((l.take i).map Pr.nm) x.nm ≠ 0 then nameErr ((l.take i).map Pr.nm) x.nm else if 0 ≤ x.er ∧ x.er ≤ 10000 then 0 else 7 := by simp only [propErr, hx]
  rw [hpe]
  clear hpe hs
  generalize nameErr ((l.take i).map Pr.nm) x.nm = z at *
  obtain ⟨b, o, rfl, hbB, hc1, hc2⟩ := props_at hR hx
  have HR := Lib.hid hR
  have HX := Lib.hid hx
  clear hR hx
  go_enter Tryz.func53, Tryz.ntmps53
  go_wp2_with fail
  refine HC.out.mono ?_
  rintro e w1 ⟨rfl, hb1⟩
  have hc2' := (hb1.cell (p := ⟨b, o + i * 2 + 1, none⟩) hbB).trans hc2
  by_cases hz : z = 0
  · subst hz
    go_wp2_with fail
    refine (within_any x.er 0 10000 _).mono ?_
    rintro e w2 ⟨rfl, rfl⟩
    by_cases he : 0 ≤ x.er ∧ x.er ≤ 10000
    · have hd : decide (0 ≤ x.er ∧ x.er ≤ 10000) = true := decide_eq_true he
      rw [hd]
      go_wp2_with fail
      go_ret
      exact ⟨ret_i64 (by simp), hb1⟩
    · have hd : decide (0 ≤ x.er ∧ x.er ≤ 10000) = false := decide_eq_false he
      rw [hd]
      clear hd
      go_wp2_with fail
      go_ret
      exact ⟨ret_i64 (by simp), hb1⟩
  · have hz' : (z != 0) = true := by simpa using hz
    go_wp2_with fail
    go_ret
    exact ⟨ret_i64 (by simp), hb1⟩

set_option maxHeartbeats 1000000 in
theorem checkKind_any (A : Option Addr) (c : Nat) (l : List Kd) (i : Nat) (np : Int) (w : World) (hl : l.length ≤ 9223372036854775807) (hR : KindsAt w w.heap.size A l) (hi : i < l.length) (hc : l.length ≤ c) (hs : ∀ p ∈ l, p.nm.size ≤ 9223372036854775807) :
    Calls Tryz.prog 54 #[.slice A l.length c, .int .i64 i, .int .i64 np] w fun e w' => e = .returned (.int .i64 (kindErr l np i)) ∧ Below w.heap.size w w' := by
  obtain ⟨x, hx⟩ : ∃ x, l[i]? = some x := ⟨l[i], List.getElem?_eq_getElem hi⟩
  have hs' := hs x (List.mem_of_getElem? hx)
  have HC := Lib.hid (checkNameKind A c l i x w hl hR hi hx hc hs')
  have hpe : kindErr l np i = if nameErr ((l.take i).map Kd.nm) x.nm ≠ 0 then nameErr ((l.take i).map Kd.nm) x.nm else rangesErr x.rs np := by simp only [kindErr, hx]
  rw [hpe]
  clear hpe hs
  generalize nameErr ((l.take i).map Kd.nm) x.nm = z at *
  obtain ⟨b, o, rfl, hbB, hc1, hc2, hsp, hln⟩ := kinds_at hR hx
  have HR := Lib.hid hR
  have HX := Lib.hid hx
  have HS := Lib.hid hsp
  clear hR hx hsp
  go_enter Tryz.func54, Tryz.ntmps54
  go_wp2_with fail
  refine HC.out.mono ?_
  rintro e w1 ⟨rfl, hb1⟩
  have hc2' := (hb1.cell (p := ⟨b, o + i * 2 + 1, none⟩) hbB).trans hc2
  by_cases hz : z = 0
  · subst hz
    by_cases hn : (x.rs.length : Int) = np
    · have HN := Lib.hid hn
      have hnb : ((x.rs.length : Int) != np) = false := by simp [hn]
      clear hn
      have H1 := Lib.hid (hasSpan 86 beyondB x.ad x.cp x.rs w1 hln ((RowAt.below HS.out hb1 (Nat.le_refl _)).mono hb1.size) (enters_of Tryz.func86 (by kernel_rfl) rfl) (fun W y => beyond_any y W))
      rw [idx_any] at H1
      go_wp2_with fail
      refine H1.out.mono ?_
      rintro e w2 ⟨rfl, hb2⟩
      have hb2' := hb1.trans (hb2.mono hb1.size)
      cases h1 : x.rs.any beyondB with
      | true =>
        go_wp2_with fail
        go_ret
        exact ⟨ret_i64 (by simp [rangesErr, h1, HN.out]), hb2'⟩
      | false =>
        have H2 := Lib.hid (hasSpan 41 emptyB x.ad x.cp x.rs w2 hln ((RowAt.below HS.out hb2' (Nat.le_refl _)).mono hb2'.size) (enters_of Tryz.func41 (by kernel_rfl) rfl) (fun W y => emptyB_any y W))
        rw [idx_any] at H2
        go_wp2_with fail
        refine H2.out.mono ?_
        rintro e w3 ⟨rfl, hb3⟩
        have hb3' := hb2'.trans (hb3.mono hb2'.size)
        cases h2 : x.rs.any emptyB with
        | true =>
          go_wp2_with fail
          go_ret
          exact ⟨ret_i64 (by simp [rangesErr, h1, h2, HN.out]), hb3'⟩
        | false =>
          go_wp2_with fail
          go_ret
          exact ⟨ret_i64 (by simp [rangesErr, h1, h2, HN.out]), hb3'⟩
    · have hnb : ((x.rs.length : Int) != np) = true := by simp [hn]
      go_wp2_with fail
      go_ret
      exact ⟨ret_i64 (by simp [rangesErr, hn]), hb1⟩
  · have hz' : (z != 0) = true := by simpa using hz
    go_wp2_with fail
    go_ret
    exact ⟨ret_i64 (by simp), hb1⟩

set_option maxHeartbeats 1000000 in
theorem checkCounts_any (t : Tab) (pa ka : Option Addr) (pc kc : Nat) (w : World) (lp : t.ps.length ≤ 9223372036854775807) (lk : t.ks.length ≤ 9223372036854775807) :
    Calls Tryz.prog 52 #[.agg #[.slice pa t.ps.length pc, .slice ka t.ks.length kc, .int .i64 t.pu]] w fun e w' => e = .returned (.int .i64 (countsErr t)) ∧ Below w.heap.size w w' := by
  have hb0 : ∀ o, Below w.heap.size w (w.alloc o) := fun o => (Below.refl _ w).alloc (Nat.le_refl _) _
  unfold countsErr
  generalize t.ps.length = np at *
  generalize t.ks.length = nk at *
  generalize t.pu = pu at *
  have W1 : ∀ (n a b : Int) (w : World), (a ≤ n ∧ n ≤ b) → Calls Tryz.prog 68 #[.int .i64 n, .int .i64 a, .int .i64 b] w fun e w' => e = .returned (.bool true) ∧ w = w' := fun n a b w h => by
    have := within_any n a b w
    rwa [decide_eq_true h] at this
  have W0 : ∀ (n a b : Int) (w : World), ¬ (a ≤ n ∧ n ≤ b) → Calls Tryz.prog 68 #[.int .i64 n, .int .i64 a, .int .i64 b] w fun e w' => e = .returned (.bool false) ∧ w = w' := fun n a b w h => by
    have := within_any n a b w
    rwa [decide_eq_false h] at this
  have H1 := Lib.hid W1
  have H0 := Lib.hid W0
  clear W1 W0
  by_cases p1 : 1 ≤ np ∧ np ≤ 5
  · by_cases p2 : 1 ≤ nk ∧ nk ≤ 8
    · by_cases p3 : 1 ≤ pu ∧ pu ≤ 1000
      · go_enter Tryz.func52, Tryz.ntmps52
        go_wp2_with fail
        refine (H1.out _ _ _ _ (by omega)).mono ?_
        rintro e w1 ⟨rfl, rfl⟩
        go_wp2_with fail
        refine (H1.out _ _ _ _ (by omega)).mono ?_
        rintro e w1 ⟨rfl, rfl⟩
        go_wp2_with fail
        refine (H1.out _ _ _ _ (by omega)).mono ?_
        rintro e w1 ⟨rfl, rfl⟩
        go_wp2_with fail
        go_ret
        exact ⟨rfl, hb0 _⟩
      · go_enter Tryz.func52, Tryz.ntmps52
        go_wp2_with fail
        refine (H1.out _ _ _ _ (by omega)).mono ?_
        rintro e w1 ⟨rfl, rfl⟩
        go_wp2_with fail
        refine (H1.out _ _ _ _ (by omega)).mono ?_
        rintro e w1 ⟨rfl, rfl⟩
        go_wp2_with fail
        refine (H0.out _ _ _ _ (by omega)).mono ?_
        rintro e w1 ⟨rfl, rfl⟩
        go_wp2_with fail
        go_ret
        exact ⟨rfl, hb0 _⟩
    · go_enter Tryz.func52, Tryz.ntmps52
      go_wp2_with fail
      refine (H1.out _ _ _ _ (by omega)).mono ?_
      rintro e w1 ⟨rfl, rfl⟩
      go_wp2_with fail
      refine (H0.out _ _ _ _ (by omega)).mono ?_
      rintro e w1 ⟨rfl, rfl⟩
      go_wp2_with fail
      go_ret
      exact ⟨rfl, hb0 _⟩
  · go_enter Tryz.func52, Tryz.ntmps52
    go_wp2_with fail
    refine (H0.out _ _ _ _ (by omega)).mono ?_
    rintro e w1 ⟨rfl, rfl⟩
    go_wp2_with fail
    go_ret
    exact ⟨rfl, hb0 _⟩

/-- All names of a table are strings of Go's. -/
def NamesFit (t : Tab) : Prop := (∀ p ∈ t.ps, p.nm.size ≤ 9223372036854775807) ∧ ∀ k ∈ t.ks, k.nm.size ≤ 9223372036854775807

set_option maxHeartbeats 2000000 in
theorem check_any (t : Tab) (pa ka : Option Addr) (pc kc : Nat) (w : World) (hT : TabAt w w.heap.size pa ka t) (hpc : t.ps.length ≤ pc) (hkc : t.ks.length ≤ kc) (hF : NamesFit t) :
    Calls Tryz.prog 23 #[.agg #[.slice pa t.ps.length pc, .slice ka t.ks.length kc, .int .i64 t.pu]] w fun e w' => e = .returned (.tuple #[.int .i64 (checkT t).1, .int .i64 (checkT t).2.1, .int .i64 (checkT t).2.2]) ∧ Below w.heap.size w w' := by
  have HC := Lib.hid (fun (w : World) => checkCounts_any t pa ka pc kc w hT.lp hT.lk)
  have hlp := hT.lp
  have hlk := hT.lk
  have HT := Lib.hid hT
  have HF := Lib.hid hF
  clear hT hF
  have HE' := Lib.hid (checkT_eq t)
  generalize checkT t = R at *
  generalize hce : countsErr t = ce at *
  clear hce
  by_cases hc0 : ce = 0
  · subst hc0
    go_enter Tryz.func23, Tryz.ntmps23
    go_wp2_with fail
    refine (HC.out _).mono ?_
    rintro e w1 ⟨rfl, hb1⟩
    have hs1 := hb1.size
    simp at hs1
    have hk1 := kept_of hb1
    have hx0 := hk1 ⟨w.heap.size, 0, none⟩ (.slice pa t.ps.length pc) (by simp)
    have hx1 := hk1 ⟨w.heap.size, 1, none⟩ (.slice ka t.ks.length kc) (by simp)
    have hbw1 : Below w.heap.size w w1 := ((Below.refl _ w).alloc (Nat.le_refl _) _).trans (hb1.mono (by simp))
    clear hk1 hb1
    go_wp2_with fail
    go_loopw [18] (fun i wr => ∃ k : Nat, k ≤ t.ps.length ∧ i = .int .i64 k ∧ Below w1.heap.size w1 wr ∧ Hid (∀ i, i < k → propErr t.ps i = 0)) (fun i _ => t.ps.length - (intOf i).toNat)
    case atStart => exact ⟨0, Nat.zero_le _, rfl, Below.refl _ _, fun i hi => absurd hi (by omega)⟩
    case round =>
      obtain ⟨k, hk, rfl, hb, hno⟩ := hrel
      have hy0 := (hb.cell (p := ⟨w.heap.size, 0, none⟩) (by simp; omega)).trans hx0
      have hy1 := (hb.cell (p := ⟨w.heap.size, 1, none⟩) (by simp; omega)).trans hx1
      have hbw := hbw1.trans (hb.mono (by omega))
      have hsw := hb.size
      by_cases hlt : k < t.ps.length
      · have HP := Lib.hid (checkProp_any pa pc t.ps k wr hlp ((HT.out.below hbw (Nat.le_refl _)).mono hbw.size).ps hlt hpc HF.out.1)
        go_wp2_with fail
        refine HP.out.mono ?_
        rintro e w2 ⟨rfl, hb2⟩
        have hb2' := hb.trans (hb2.mono hb.size)
        have hbw2 := hbw.trans (hb2.mono hbw.size)
        generalize hz : propErr t.ps k = z at *
        have HZ := Lib.hid hz
        clear hz
        by_cases hz0 : z = 0
        · subst hz0
          go_wp2_with fail
          go_roundw
          case rel => exact ⟨k + 1, by omega, by go_num, hb2', fun i hi => by
            by_cases hik : i = k
            · subst hik; exact HZ.out
            · exact hno.out i (by omega)⟩
          case measure => simp [intOf]; omega
        · have hz1 : (z != 0) = true := by simpa using hz0
          have hR := HE'.out
          rw [firstAt_hit (k := k) hno.out hlt (by rw [HZ.out]; exact hz0), HZ.out, checkOf_2] at hR
          have HR := Lib.hid hR
          clear hR HE'
          go_wp2_with fail
          go_ret3
          exact ⟨ret3 HR.out, hbw2⟩
      · have hR := HE'.out
        rw [firstAt_none (fun i hi => hno.out i (by omega))] at hR
        have HR := Lib.hid hR
        clear hR HE' hx0 hx1
        go_wp2_with fail
        go_loopw [33] (fun i wr' => ∃ k : Nat, k ≤ t.ks.length ∧ i = .int .i64 k ∧ Below wr.heap.size wr wr' ∧ Hid (∀ i, i < k → kindErr t.ks t.ps.length i = 0)) (fun i _ => t.ks.length - (intOf i).toNat)
        case atStart => exact ⟨0, Nat.zero_le _, rfl, Below.refl _ _, fun i hi => absurd hi (by omega)⟩
        case round =>
          obtain ⟨m, hm, rfl, hd, hno2⟩ := hrel
          have hz0 := (hd.cell (p := ⟨w.heap.size, 0, none⟩) (by simp; omega)).trans hy0
          have hz1 := (hd.cell (p := ⟨w.heap.size, 1, none⟩) (by simp; omega)).trans hy1
          have hdw := hbw.trans (hd.mono (by omega))
          have hsd := hd.size
          clear hy0 hy1
          by_cases hlt2 : m < t.ks.length
          · have HP := Lib.hid (checkKind_any ka kc t.ks m t.ps.length _ hlk ((HT.out.below hdw (Nat.le_refl _)).mono hdw.size).ks hlt2 hkc HF.out.2)
            go_wp2_with fail
            refine HP.out.mono ?_
            rintro e w2 ⟨rfl, hb2⟩
            have hb2' := hd.trans (hb2.mono hd.size)
            have hbw2 := hdw.trans (hb2.mono hdw.size)
            generalize hq : kindErr t.ks t.ps.length m = q at *
            have HQ := Lib.hid hq
            clear hq
            by_cases hq0 : q = 0
            · subst hq0
              go_wp2_with fail
              go_roundw
              case rel => exact ⟨m + 1, by omega, by go_num, hb2', fun i hi => by
                by_cases hik : i = m
                · subst hik; exact HQ.out
                · exact hno2.out i (by omega)⟩
              case measure => simp [intOf]; omega
            · have hq1 : (q != 0) = true := by simpa using hq0
              have hR := HR.out
              rw [firstAt_hit (k := m) hno2.out hlt2 (by rw [HQ.out]; exact hq0), HQ.out, checkOf_3] at hR
              have HR' := Lib.hid hR
              clear hR HR
              go_wp2_with fail
              go_ret3
              exact ⟨ret3 HR'.out, hbw2⟩
          · have hR := HR.out
            rw [firstAt_none (fun i hi => hno2.out i (by omega)), checkOf_4] at hR
            have HR' := Lib.hid hR
            clear hR HR
            go_wp2_with fail
            go_ret3
            exact ⟨ret3 HR'.out, hdw⟩
  · have hc1 : (ce != 0) = true := by simpa using hc0
    have hR := HE'.out
    rw [checkOf_1 _ _ _ hc0] at hR
    have HR := Lib.hid hR
    clear HE' hR
    go_enter Tryz.func23, Tryz.ntmps23
    go_wp2_with fail
    refine (HC.out _).mono ?_
    rintro e w1 ⟨rfl, hb1⟩
    go_wp2_with fail
    go_ret3
    exact ⟨ret3 HR.out, ((Below.refl _ w).alloc (Nat.le_refl _) _).trans (hb1.mono (by simp))⟩
end Go.Proofs.YthihpggjglghoaaGreatDoor
