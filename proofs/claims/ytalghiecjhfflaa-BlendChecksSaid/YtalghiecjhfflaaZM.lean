/- ref02.Raise: contract. -/
import Derived.Test.YtalghiecjhfflaaZL
namespace Go.Proofs.Ytalghiecjhfflaa
open Go.RowKit Go.Shelf Go.Maps
attribute [local go_sem] Oper.semAt_some


set_option maxRecDepth 100000 in
set_option maxHeartbeats 4000000 in
theorem rraise_any {w : World} {A : Option Addr} {c : Nat} {l : List Bw} {i n : Int} (h : BwsIn w A l) :
    Calls Try.prog 18 #[.slice A l.length c, .int .i64 i, .int .i64 n] w fun e w' => e = .returned (.tuple #[.int .i64 (raiseV l i n).1, .int .i64 (raiseV l i n).2]) ∧ Below w.heap.size w w' := by
  have hl := h.len
  have HH := Lib.hid h
  have HCK := Lib.hid (rcheck_any (c := c) h)
  have HE := Lib.hid (show (checkB l).2.2 = bdE l from rfl)
  have hw0 : IntKind.i64.wrap ((l.length : Int) - 1) = (l.length : Int) - 1 := IntWalk.i64_in _ (by omega)
  clear h
  by_cases hz : bdE l = 0
  · have hok := bd_ok hz
    rw [hz] at HE
    cases hi : inB i 0 ((l.length : Int) - 1) with
    | false =>
      have HI1 := Lib.hid hi
      have HV := Lib.hid (show raiseV l i n = (0, 4) by
        have e1 : orE [bdE l, idxE l.length i] = 4 := by unfold idxE; rw [hz, hi]; rfl
        unfold raiseV; rw [e1, if_pos (by decide)])
      clear hz hok hi
      go_enter Try.func18, Try.ntmps18
      go_wp2_with (first
        | (go_at_call 16; (with_reducible refine HCK.out.mono ?_); rintro e w1 ⟨rfl, hb⟩; rw [HE.out]; have HB := Lib.hid hb; clear hb)
        | (go_at_call 50; (with_reducible refine (rinB_any i _ _ _).mono ?_); rintro e w' ⟨rfl, hw⟩; rw [hw]; clear hw; rw [HI1.out])
        | fail)
      go_ret2
      exact ⟨ret_raise HV.out, HB.out⟩
    | true =>
      have HI1 := Lib.hid hi
      have e1 : orE [bdE l, idxE l.length i] = 0 := by unfold idxE; rw [hz, hi]; rfl
      cases hn : inB n 0 20 with
      | false =>
        have HI2 := Lib.hid hn
        have HV := Lib.hid (show raiseV l i n = (0, 7) by unfold raiseV; rw [e1, if_neg (by decide), if_pos hn])
        clear hz hok hi hn e1
        go_enter Try.func18, Try.ntmps18
        go_wp2_with (first
          | (go_at_call 16; (with_reducible refine HCK.out.mono ?_); rintro e w1 ⟨rfl, hb⟩; rw [HE.out]; have HB := Lib.hid hb; clear hb)
          | (go_at_call 50; (with_reducible refine (rinB_any n 0 20 _).mono ?_); rintro e w' ⟨rfl, hw⟩; rw [hw]; clear hw; rw [HI2.out])
          | (go_at_call 50; (with_reducible refine (rinB_any i _ _ _).mono ?_); rintro e w' ⟨rfl, hw⟩; rw [hw]; clear hw; rw [HI1.out])
          | fail)
        go_ret2
        exact ⟨ret_raise HV.out, HB.out⟩
      | true =>
        have HI2 := Lib.hid hn
        have hib := inB_iff.1 hi
        obtain ⟨k, rfl⟩ : ∃ k : Nat, i = (k : Int) := ⟨i.toNat, by omega⟩
        have hk : k < l.length := by omega
        obtain ⟨x, hx⟩ : ∃ x, l[k]? = some x := ⟨l[k], List.getElem?_eq_getElem hk⟩
        have HV := Lib.hid (show raiseV l k n = (addV n x.cv, 0) by unfold raiseV; rw [e1, if_neg (by decide), if_neg (by rw [hn]; decide)]; simp [hx])
        have ok := hok.2 x (List.mem_of_getElem? hx)
        have HAD := Lib.hid (fun (W : World) (hb : Below w.heap.size w W) => radd_any (cc := x.cc) ((HH.out.cv x (List.mem_of_getElem? hx)).on hb) ok.len ok.cv ok.up (inB_iff.1 hn))
        obtain ⟨b, o, hA, _⟩ := HH.out.get hx
        have HC6 := Lib.hid (fun (W : World) (hb : Below w.heap.size w W) => (wax_at (HH.out.on hb) hA hx).2.2.2.2.2.2)
        have hki : (k : Int) < (l.length : Int) := by omega
        rw [hA] at HCK ⊢
        clear hz hok hi hn e1 hx ok hA hib
        generalize addV n x.cv = z at *
        go_enter Try.func18, Try.ntmps18
        go_wp2_with (first
          | (go_at_call 16; (with_reducible refine HCK.out.mono ?_); rintro e w1 ⟨rfl, hb⟩; rw [HE.out]; have HB := Lib.hid hb; have c6 := HC6.out _ hb; clear hb)
          | (go_at_call 50; (with_reducible refine (rinB_any n 0 20 _).mono ?_); rintro e w' ⟨rfl, hw⟩; rw [hw]; clear hw; rw [HI2.out])
          | (go_at_call 50; (with_reducible refine (rinB_any (k : Int) _ _ _).mono ?_); rintro e w' ⟨rfl, hw⟩; rw [hw]; clear hw; rw [HI1.out])
          | (go_at_call 58; (with_reducible refine (HAD.out _ HB.out).mono ?_); rintro e w2 ⟨rfl, hb⟩; have HB2 := Lib.hid (HB.out.trans (hb.mono HB.out.size)); clear hb)
          | fail)
        go_ret2
        exact ⟨ret_raise HV.out, HB2.out⟩
  · have HV := Lib.hid (show raiseV l i n = (0, bdE l) by
      have e1 : orE [bdE l, idxE l.length i] = bdE l := by simp only [orE]; rw [if_pos hz]
      unfold raiseV; rw [e1, if_pos hz])
    have hz1 : (bdE l != 0) = true := by simpa using hz
    have hz2 : (bdE l == 0) = false := by simpa using hz
    clear hz
    generalize bdE l = z at *
    go_enter Try.func18, Try.ntmps18
    go_wp2_with (first
      | (go_at_call 16; (with_reducible refine HCK.out.mono ?_); rintro e w1 ⟨rfl, hb⟩; rw [HE.out]; have HB := Lib.hid hb; clear hb)
      | fail)
    go_ret2
    exact ⟨ret_raise HV.out, HB.out⟩
end Go.Proofs.Ytalghiecjhfflaa
